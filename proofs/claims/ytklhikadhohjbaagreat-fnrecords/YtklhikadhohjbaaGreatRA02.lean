/- Joined: PutNum Steps Texts Pure WBy0 PRead PRead2 GetTexts RdC RdE SpecD1 SpecD2 SpecD3 SpecD4 SpecD5 SpecD6 SpecD7 SpecD8 DW1 SpecD9 SpecD10 DW2 DW3 DW9 DW11 PBack WBy1 WBy2. -/
import Derived.Test.YtklhikadhohjbaaGreatRPuts
import Derived.Test.YtklhikadhohjbaaGreatRA00
import Derived.Deep.RegionHeld3
import Derived.Deep.AppendLies
import Derived.Test.YtklhikadhohjbaaGreatRA01
import Derived.Test.YtklhikadhohjbaaGreatRSpecT5
import Derived.Maps.AppendAt
import Derived.Laws.AppendOwnNone
import Derived.Test.YtklhikadhohjbaaGreatRCursor
import Derived.Lib.ConvBytes
import Derived.Test.YtklhikadhohjbaaGreatRSpecT4a
import Derived.Test.YtklhikadhohjbaaGreatRSzs

namespace Go.Proofs.YtklhikadhohjbaaGreat
open Go.RowKit
set_option linter.unusedVariables false
set_option linter.unusedSimpArgs false
set_option maxRecDepth 100000
section
theorem slice5 (b c : Nat) (W : World) (h : c ≤ 5) : (Instr.sliceAt 212 (.pointer (some ⟨b, 0, none⟩)) none (some (.int .i64 (c : Int))) none).run Tryz.prog W = .ok (.slice (some ⟨b, 0, none⟩) c 5) W := by
 have hal : Tryz.prog.arrayLen 212 = 5 := by simp [Program.arrayLen, Tryz.underlying212]
 rw [run_sliceAt_array_h W 212 ⟨b, 0, none⟩ (by simp [Program.arrayLen, Program.elem, Tryz.underlying212]) .i64 (c : Int) (by omega) (by rw [hal]; omega)]
 go_simp

theorem take5 {d0 d1 d2 d3 d4 : Int} {c : Nat} {ys : List Int} (hc : c ≤ 5) (h : [d0, d1, d2, d3, d4].take c = ys) : ys.length = c ∧ ∀ i, i < c → ys[i]?.getD 0 = [d0, d1, d2, d3, d4][i]?.getD 0 := by
 subst h
 refine ⟨by simp; omega, fun i hi => ?_⟩
 rw [List.getElem?_take, if_pos hi]

theorem reads_array (w : World) (d0 d1 d2 d3 d4 : Int) (c : Nat) (t : TypeId) (ys : List Int) (hb : isBytes ys) (hc : c ≤ 5) (h : [d0, d1, d2, d3, d4].take c = ys) :
  Reads (w.alloc (.cells #[.int .u8 d0, .int .u8 d1, .int .u8 d2, .int .u8 d3, .int .u8 d4] t)) (some ⟨w.heap.size, 0, none⟩) ys := by
 obtain ⟨hl, hi⟩ := take5 hc h
 refine ⟨hb, .inr ⟨w.heap.size, 0, rfl, by simp, fun i hlt => ?_⟩⟩
 rw [World.cell?_alloc_at _ _ _ _ rfl, hi i (by omega), Nat.zero_add]
 have h5 : i < 5 := by omega
 rcases (show i = 0 ∨ i = 1 ∨ i = 2 ∨ i = 3 ∨ i = 4 from by omega) with rfl | rfl | rfl | rfl | rfl <;> rfl

theorem joined_v (a b : Option Addr) (xs ys : List Int) (m n ca cb : Nat) (w : World) (hx : Reads w a xs) (hy : Reads w b ys) (hm : m = xs.length) (hn : n = ys.length) (hl : xs.length ≤ 2097152) (hl' : ys.length ≤ 2097152) :
  Calls Tryz.prog 159 #[.slice a m ca, .slice b n cb] w fun e w' => ∃ v, e = .returned v ∧ Owns w' w.heap.size v (xs ++ ys) ∧ Below w.heap.size w w' := by
 subst hm; subst hn
 exact (joined_any a b xs ys ca cb w hx hy hl hl').mono fun e w' ⟨he, ho, hb, _⟩ => ⟨_, he, ho, hb⟩

set_option maxHeartbeats 1000000 in
theorem implPut_any (a : Option Addr) (xs : List Int) (len cap : Nat) (n : Int) (w : World) (hx : Reads w a xs) (hlen : len = xs.length) (hl : xs.length ≤ 2097152) :
  Calls Tryz.prog 76 #[.slice a len cap, .int .i64 n] w fun e w' => ∃ v, e = .returned v ∧ Owns w' w.heap.size v (xs ++ putB n) ∧ Below w.heap.size w w' := by
 by_cases hn : n < 0 ∨ 2147483647 < n
 ·have hp : putB n = [] := by unfold putB; rw [if_pos hn]
  rw [hp]
  clear hp
  have HE : Hid _ := hlen
  clear hlen
  rcases hn with hn | hn
  all_goals
   go_enter Tryz.func76, Tryz.ntmps76
   go_wp2_with fail
   refine (joined_v a none xs [] _ _ _ _ w hx (reads_none _ _) HE.out rfl hl (by simp)).mono ?_
   rintro e w1 ⟨v, rfl, ho, hb⟩
   go_wp2
   go_ret
   exact ⟨v, rfl, ho, hb⟩
 ·have h0 : 0 ≤ n := by omega
  have h1 : n ≤ 2147483647 := by omega
  have hp : putB n = numB 4 n := by unfold putB; rw [if_neg hn]
  have hbB := putB_bytes n
  rw [hp] at hbB ⊢
  have HE : Hid _ := hlen
  clear hp hn hlen
  go_enter Tryz.func76, Tryz.ntmps76
  go_wp2_with fail
  refine (numBytes_any n w h0 h1).mono ?_
  rintro e w1 ⟨d0, d1, d2, d3, d4, c, rfl, hc1, hc5, htake, hb1⟩
  have hlen := (take5 hc5 htake).1
  have hrY := reads_array w1 d0 d1 d2 d3 d4 _ 212 _ hbB hc5 htake
  have hb2 : Below w1.heap.size w1 (w1.alloc (.cells #[.int .u8 d0, .int .u8 d1, .int .u8 d2, .int .u8 d3, .int .u8 d4] 212)) := (Below.refl _ _).alloc (Nat.le_refl _) _
  have hsl := fun W => slice5 w1.heap.size c W hc5
  have HB2 : Hid _ := hb2
  have HRY : Hid _ := hrY
  have HC : Hid _ := hlen
  clear htake hb2 hrY hlen
  go_wp2_with fail
  refine (joined_v a (some ⟨w1.heap.size, 0, none⟩) xs (numB 4 n) _ _ _ _ _ ((hx.below hb1).below HB2.out) HRY.out HE.out HC.out.symm hl (by rw [HC.out]; omega)).mono ?_
  rintro e w3 ⟨v, rfl, ho, hb3⟩
  have hs1 := hb1.size
  have HF : Hid (Owns w3 w.heap.size v (xs ++ numB 4 n) ∧ Below w.heap.size w w3) := ⟨ho.base (by simp; omega), (hb1.trans (HB2.out.mono hs1)).trans (hb3.mono (by simp; omega))⟩
  clear ho hb3 HB2 HRY hsl
  go_wp2
  go_ret
  exact ⟨v, rfl, HF.out.1, HF.out.2⟩

def SRel (xs : List Int) (n : Int) (w : World) (o q : Value) (wr : World) : Prop :=
 ∃ (f : Nat) (m : Int) (pre : List Int), f ≤ 4 ∧ 0 ≤ m ∧ m < wt (f + 1) ∧ q = .int .i64 m ∧ pre.length + f = 4 ∧ numB 4 n = pre ++ numB f m ∧ Owns wr w.heap.size o (xs ++ pre) ∧ Below w.heap.size w wr

set_option maxHeartbeats 1000000 in
theorem specPut_any (a : Option Addr) (xs : List Int) (len cap : Nat) (n : Int) (w : World) (hx : Reads w a xs) (hlen : len = xs.length) (hl : xs.length ≤ 2097152) (hnil : a = none → len = 0 ∧ cap = 0) :
  Calls Tryz.prog 219 #[.slice a len cap, .int .i64 n] w fun e w' => ∃ v, e = .returned v ∧ Owns w' w.heap.size v (xs ++ putB n) ∧ Below w.heap.size w w' := by
 have HE : Hid _ := hlen
 have HX : Hid (Reads (w.alloc (.cells #[] 5)) a xs) := hx.below ((Below.refl _ _).alloc (Nat.le_refl _) _)
 have HNIL : Hid _ := hnil
 have HL : Hid _ := hl
 have HB1 : Hid (Below w.heap.size w (w.alloc (.cells #[] 5))) := (Below.refl _ _).alloc (Nat.le_refl _) _
 clear hlen hx hnil hl
 by_cases hn : n < 0 ∨ 2147483647 < n
 ·have hp : putB n = [] := by unfold putB; rw [if_pos hn]
  rw [hp, List.append_nil]
  clear hp
  rcases hn with hn | hn
  all_goals
   go_enter Tryz.func219, Tryz.ntmps219
   go_wp2_with (at_builtin; go_must (refine wpList_app _ rfl (.tmp 6) (.tmp 7) rfl w.heap.size _ [] xs rfl (owns_empty w) a len cap rfl HE.out HX.out (by simp) (by have := HL.out; omega) (by simp) HNIL.out ?_; intro v w1 ho hg))
   go_ret
   exact ⟨v, rfl, by simpa using ho, HB1.out.grown hg (by simp) (fun k hk => ((owns_empty w).lt k hk).1)⟩
 ·have h0 : 0 ≤ n := by omega
  have h1 : n ≤ 2147483647 := by omega
  have hp : putB n = numB 4 n := by unfold putB; rw [if_neg hn]
  rw [hp]
  clear hp hn
  go_enter Tryz.func219, Tryz.ntmps219
  go_wp2_with (at_builtin; go_must (refine wpList_app _ rfl (.tmp 6) (.tmp 7) rfl w.heap.size _ [] xs rfl (owns_empty w) a len cap rfl HE.out HX.out (by simp) (by have := HL.out; omega) (by simp) HNIL.out ?_; intro v w1 ho hg))
  go_loopw [5, 1] (fun o q wr => SRel xs n w o q wr) (fun _ q _ => (intOf q).toNat)
  case atStart => exact ⟨4, n, [], by omega, h0, by show n < 34359738368; omega, rfl, rfl, rfl, by simpa using ho, HB1.out.grown hg (by simp) (fun k hk => ((owns_empty w).lt k hk).1)⟩
  case round =>
   clear ho hg
   obtain ⟨f, m, pre, hf, hm0, hm1, rfl, hpf, hpre, hown, hbel⟩ := hrel
   have hsz := hbel.size
   have HO : Hid _ := hown
   have HP : Hid _ := hpre
   have HBE : Hid _ := hbel
   have HM1 : Hid _ := hm1
   have hmt : m ≤ 34359738368 := by
    have : wt (f + 1) ≤ 34359738368 := by
     rcases (show f = 0 ∨ f = 1 ∨ f = 2 ∨ f = 3 ∨ f = 4 from by omega) with rfl | rfl | rfl | rfl | rfl <;> decide
    omega
   clear hown hpre hbel hm1
   by_cases hge : 127 < m
   ·go_wp2_with (at_builtin; go_must (refine wpList_app _ rfl (.tmp 18) (.tmp 23) rfl w.heap.size _ (xs ++ pre) [m % 128 + 128] rfl (HO.out.alloc _) _ 1 1 rfl rfl (one_new _ (m % 128 + 128) (by omega) (by omega)) (by have := HL.out; simp; omega) (by simp) (by simp; omega) (fun h => by cases h) ?_; intro v2 w2 ho2 hg2))
    have HR : SRel xs n w v2 (.int .i64 (m / 128)) w2 := by
     have hm1 := HM1.out
     obtain ⟨f, rfl⟩ : ∃ g, f = g + 1 := by
      cases f with
      | zero => exact absurd hm1 (by show ¬ m < 128; omega)
      | succ g => exact ⟨g, rfl⟩
     have hw := wt_succ (f + 1) (by omega)
     refine ⟨f, m / 128, pre ++ [m % 128 + 128], by omega, by omega, by omega, rfl, by simp; omega, ?_, ?_, (HBE.out.alloc hsz _).grown hg2 (by simp; omega) (fun k hk => (HO.out.lt k hk).1)⟩
     ·rw [HP.out, numB_more f m (by omega), List.append_assoc]; rfl
     ·rw [← List.append_assoc]; exact ho2
    refine ⟨?_, by simp [intOf]; omega⟩
    first | exact HR | exact ⟨_, _, HR, rfl, rfl⟩
   ·have hm1 := HM1.out
    go_wp2_with (at_builtin; go_must (refine wpList_app _ rfl (.tmp 27) (.tmp 30) rfl w.heap.size _ (xs ++ pre) [m] rfl (HO.out.alloc _) _ 1 1 rfl rfl (one_new _ m (by omega) (by omega)) (by have := HL.out; simp; omega) (by simp) (by simp; omega) (fun h => by cases h) ?_; intro v2 w2 ho2 hg2))
    go_ret
    refine ⟨v2, rfl, ?_, ?_⟩
    ·rw [HP.out, numB_small f m (by omega), ← List.append_assoc]; exact ho2
    ·exact (HBE.out.alloc hsz _).grown hg2 (by simp; omega) (fun k hk => (HO.out.lt k hk).1)
end
section
set_option maxRecDepth 100000
end
section
def textB (t : List Int) : List Int := if 40 < t.length then [] else putB t.length ++ t
def getText (zs : List Int) (p : Int) : List Int × Int :=
 if (getNum zs p).2 < 0 ∨ 40 < (getNum zs p).1 ∨ (zs.length : Int) - (getNum zs p).2 < (getNum zs p).1 then ([], -1)
 else ((zs.drop (getNum zs p).2.toNat).take (getNum zs p).1.toNat, (getNum zs p).2 + (getNum zs p).1)

theorem textB_bytes {t : List Int} (h : isBytes t) : isBytes (textB t) := by
 unfold textB
 split
 ·exact isBytes_nil
 ·exact isBytes_append (putB_bytes _) h
theorem textB_len (t : List Int) : (textB t).length ≤ 45 := by
 unfold textB
 split
 ·simp
 ·have := putB_len (t.length : Int); rw [List.length_append]; omega
theorem isBytes_drop {zs : List Int} (h : isBytes zs) (k : Nat) : isBytes (zs.drop k) := fun j => by rw [List.getElem?_drop]; exact h _
theorem isBytes_take {zs : List Int} (h : isBytes zs) (k : Nat) : isBytes (zs.take k) := fun j => by
 rw [List.getElem?_take]
 split
 ·exact h j
 ·simp
theorem getText_bytes {zs : List Int} (h : isBytes zs) (p : Int) : isBytes (getText zs p).1 := by
 unfold getText
 split
 ·exact isBytes_nil
 ·exact isBytes_take (isBytes_drop h _) _
theorem getText_len (zs : List Int) (p : Int) : (getText zs p).1.length ≤ 40 := by
 unfold getText
 split
 ·simp
 ·simp only [List.length_take]; omega

theorem getLoop_fits {f : Nat} {r : List Int} {i : Nat} {n sc : Int} {m : Int} {c : Nat} (hr : isBytes r) (hn : 0 ≤ n) (hs : 0 ≤ sc) (h : getLoop f r i n sc = some (m, c)) : 0 ≤ m ∧ m ≤ 2147483647 ∧ i < c ∧ c ≤ i + r.length := by
 induction f generalizing r i n sc with
 | zero => cases h
 | succ f ih =>
  cases r with
  | nil => cases h
  | cons x r =>
   have hx : 0 ≤ x ∧ x ≤ 255 := by simpa using hr 0
   have hr' : isBytes r := fun j => by simpa using hr (j + 1)
   by_cases h1 : 128 ≤ x
   ·rw [getLoop_more h1] at h
    have := ih hr' (by have := Int.mul_nonneg (show 0 ≤ x - 128 by omega) hs; omega) (by omega) h
    simp only [List.length_cons]; omega
   ·by_cases h2 : (0 < i ∧ x = 0) ∨ 2147483647 < n + x * sc
    ·rw [getLoop_bad h1 h2] at h; cases h
    ·rw [getLoop_end h1 h2] at h
     simp only [Option.some.injEq, Prod.mk.injEq] at h
     obtain ⟨rfl, rfl⟩ := h
     have := Int.mul_nonneg hx.1 hs
     simp only [List.length_cons]; omega
theorem getNum_fits {zs : List Int} {p n nx : Int} (hz : isBytes zs) (h : getNum zs p = (n, nx)) : (n = 0 ∧ nx = -1) ∨ (0 ≤ n ∧ n ≤ 2147483647 ∧ 0 ≤ p ∧ p < nx ∧ nx ≤ zs.length) := by
 unfold getNum at h
 split at h
 ·simp only [Prod.mk.injEq] at h; exact .inl ⟨h.1.symm, h.2.symm⟩
 ·split at h
  ·simp only [Prod.mk.injEq] at h; exact .inl ⟨h.1.symm, h.2.symm⟩
  ·rename_i m c hg
   simp only [Prod.mk.injEq] at h
   obtain ⟨rfl, rfl⟩ := h
   have := getLoop_fits (isBytes_drop hz _) (by omega) (by omega) hg
   rw [List.length_drop] at this
   right; omega

theorem joined_ov (v : Value) (b : Option Addr) (xs ys : List Int) (base n cb : Nat) (w : World) (hx : Owns w base v xs) (bx : isBytes xs) (hy : Reads w b ys) (hn : n = ys.length) (hl : xs.length ≤ 2097152) (hl' : ys.length ≤ 2097152) :
  Calls Tryz.prog 159 #[v, .slice b n cb] w fun e w' => ∃ v, e = .returned v ∧ Owns w' w.heap.size v (xs ++ ys) ∧ Below w.heap.size w w' := by
 obtain ⟨a, ca, rfl, _, _, ra⟩ := hx.open bx
 exact joined_v a b xs ys _ n ca cb w ra hy rfl hn hl hl'

set_option maxHeartbeats 1000000 in
theorem implPutText_any (a b : Option Addr) (xs ts : List Int) (la ca lb cb : Nat) (w : World) (hx : Reads w a xs) (hy : Reads w b ts) (hla : la = xs.length) (hlb : lb = ts.length) (hl : xs.length ≤ 2000000) (hm : ts.length ≤ 2000000) :
  Calls Tryz.prog 145 #[.slice a la ca, .slice b lb cb] w fun e w' => ∃ v, e = .returned v ∧ Owns w' w.heap.size v (xs ++ textB ts) ∧ Below w.heap.size w w' := by
 have HLA : Hid _ := hla
 have HLB : Hid _ := hlb
 have hlb' : lb ≤ 2000000 := by omega
 clear hla hlb
 by_cases h40 : 40 < lb
 ·have HT : Hid (textB ts = []) := by show _ = _; unfold textB; rw [if_pos (by rw [← HLB.out]; exact h40)]
  go_enter Tryz.func145, Tryz.ntmps145
  go_wp2_with fail
  refine (joined_v a none xs [] _ _ _ _ w hx (reads_none _ _) HLA.out rfl (by omega) (by simp)).mono ?_
  rintro e w1 ⟨v, rfl, ho, hb⟩
  go_wp2
  go_ret
  exact ⟨v, rfl, by rw [HT.out]; exact ho, hb⟩
 ·have HT : Hid (textB ts = putB (lb : Int) ++ ts) := by show _ = _; unfold textB; rw [if_neg (by rw [← HLB.out]; exact h40), HLB.out]
  go_enter Tryz.func145, Tryz.ntmps145
  go_wp2_with fail
  refine (implPut_any a xs _ _ _ _ hx HLA.out (by omega)).mono ?_
  rintro e w1 ⟨v1, rfl, o1, b1⟩
  have hp := putB_len (lb : Int)
  go_wp2_with fail
  refine (joined_ov v1 b (xs ++ putB (lb : Int)) ts _ _ _ _ o1 (isBytes_append hx.1 (putB_bytes _)) (hy.below b1) HLB.out (by rw [List.length_append]; omega) (by omega)).mono ?_
  rintro e w2 ⟨v2, rfl, o2, b2⟩
  go_wp2
  go_ret
  exact ⟨v2, rfl, by rw [HT.out, ← List.append_assoc]; exact o2.base b1.size, b1.trans (b2.mono b1.size)⟩

set_option maxHeartbeats 1000000 in
theorem specPutText_any (a b : Option Addr) (xs ts : List Int) (la ca lb cb : Nat) (w : World) (hx : Reads w a xs) (hy : Reads w b ts) (hla : la = xs.length) (hlb : lb = ts.length) (hl : xs.length ≤ 2000000) (hm : ts.length ≤ 2000000)
  (na : a = none → la = 0 ∧ ca = 0) (nb : b = none → lb = 0 ∧ cb = 0) :
  Calls Tryz.prog 262 #[.slice a la ca, .slice b lb cb] w fun e w' => ∃ v, e = .returned v ∧ Owns w' w.heap.size v (xs ++ textB ts) ∧ Below w.heap.size w w' := by
 have HLA : Hid _ := hla
 have HLB : Hid _ := hlb
 have NA : Hid _ := na
 have NB : Hid _ := nb
 have hlb' : lb ≤ 2000000 := by omega
 have HX : Hid (Reads (w.alloc (.cells #[] 5)) a xs) := hx.below ((Below.refl _ _).alloc (Nat.le_refl _) _)
 have HB1 : Hid (Below w.heap.size w (w.alloc (.cells #[] 5))) := (Below.refl _ _).alloc (Nat.le_refl _) _
 clear hla hlb na nb
 by_cases h40 : 40 < lb
 ·have HT : Hid (textB ts = []) := by show _ = _; unfold textB; rw [if_pos (by rw [← HLB.out]; exact h40)]
  go_enter Tryz.func262, Tryz.ntmps262
  go_wp2_with (at_builtin; go_must (refine wpList_app _ rfl (.tmp 8) (.tmp 9) rfl w.heap.size _ [] xs rfl (owns_empty w) a la ca rfl HLA.out HX.out (by simp) (by omega) (by simp) NA.out ?_; intro v w1 ho hg))
  go_ret
  exact ⟨v, rfl, by rw [HT.out]; simpa using ho, HB1.out.grown hg (by simp) (fun k hk => ((owns_empty w).lt k hk).1)⟩
 ·have HT : Hid (textB ts = putB (lb : Int) ++ ts) := by show _ = _; unfold textB; rw [if_neg (by rw [← HLB.out]; exact h40), HLB.out]
  clear HX HB1
  go_enter Tryz.func262, Tryz.ntmps262
  go_wp2_with fail
  refine (specPut_any a xs _ _ _ _ hx HLA.out (by omega) NA.out).mono ?_
  rintro e w1 ⟨v1, rfl, o1, b1⟩
  have hp := putB_len (lb : Int)
  go_wp2_with (at_builtin; go_must (refine wpList_app _ rfl (.tmp 14) (.tmp 15) rfl w.heap.size v1 (xs ++ putB (lb : Int)) ts rfl o1 b lb cb rfl HLB.out (hy.below b1) (by rw [List.length_append]; omega) (by omega) b1.size NB.out ?_; intro v2 w2 ho hg))
  go_ret
  exact ⟨v2, rfl, by rw [HT.out, ← List.append_assoc]; exact ho, b1.grown hg b1.size (fun k hk => (o1.lt k hk).1)⟩
end
section
theorem getLoop_put (f : Nat) (n : Int) (r : List Int) (i : Nat) (m sc : Int) (h0 : 0 ≤ n) (h1 : n < wt (f + 1)) (hf : f ≤ 4) (hi : i = 0 ∨ 0 < n) (hs : 0 ≤ sc) (hm : m + n * sc ≤ 2147483647) :
  getLoop (f + 1) (numB f n ++ r) i m sc = some (m + n * sc, i + (numB f n).length) := by
 induction f generalizing n i m sc with
 | zero =>
  have h2 : n < 128 := h1
  show getLoop 1 (n :: r) i m sc = _
  rw [getLoop_end (by omega) (by omega)]; rfl
 | succ f ih =>
  by_cases h2 : n < 128
  ·rw [numB_small _ _ h2]
   show getLoop (f + 1 + 1) (n :: r) i m sc = _
   rw [getLoop_end (by omega) (by omega)]; rfl
  ·rw [numB_more _ _ h2]
   show getLoop (f + 1 + 1) ((n % 128 + 128) :: (numB f (n / 128) ++ r)) i m sc = _
   rw [getLoop_more (by omega)]
   have hw := wt_succ (f + 1) (by omega)
   have e : m + (n % 128 + 128 - 128) * sc + n / 128 * (sc * 128) = m + n * sc := by
    have hn : n = 128 * (n / 128) + n % 128 := by omega
    generalize n / 128 = q at hn
    generalize n % 128 = t at hn
    subst hn
    grind
   rw [ih (n / 128) (i + 1) _ _ (by omega) (by omega) (by omega) (.inr (by omega)) (by omega) (by rw [e]; exact hm), e]
   simp only [List.length_cons]
   congr 2
   omega
theorem getNum_put (ys r : List Int) (n : Int) (h0 : 0 ≤ n) (h1 : n ≤ 2147483647) : getNum (ys ++ putB n ++ r) (ys.length : Int) = (n, (ys.length : Int) + ((putB n).length : Int)) := by
 have hp : putB n = numB 4 n := by unfold putB; rw [if_neg (by omega)]
 rw [hp, getNum_some (n := n) (c := (numB 4 n).length)]
 rw [List.append_assoc, List.drop_left]
 have := getLoop_put 4 n r 0 0 1 h0 (by show n < 34359738368; omega) (by omega) (.inl rfl) (by omega) (by omega)
 rw [this]
 simp
theorem getLoop_only (f : Nat) (r : List Int) (i : Nat) (m sc v : Int) (c : Nat) (hr : isBytes r) (h : getLoop (f + 1) r i m sc = some (v, c)) :
  ∃ q, 0 ≤ q ∧ v = m + q * sc ∧ i < c ∧ r.take (c - i) = numB f q ∧ (0 < i → 0 < q) := by
 induction f generalizing r i m sc with
 | zero =>
  cases r with
  | nil => cases h
  | cons x r =>
   have hx : 0 ≤ x ∧ x ≤ 255 := by simpa using hr 0
   by_cases h1 : 128 ≤ x
   ·rw [getLoop_more h1] at h; cases h
   ·by_cases h2 : (0 < i ∧ x = 0) ∨ 2147483647 < m + x * sc
    ·rw [getLoop_bad h1 h2] at h; cases h
    ·rw [getLoop_end h1 h2] at h
     simp only [Option.some.injEq, Prod.mk.injEq] at h
     obtain ⟨rfl, rfl⟩ := h
     exact ⟨x, hx.1, rfl, by omega, by rw [show i + 1 - i = 1 by omega]; rfl, fun hi => by omega⟩
 | succ f ih =>
  cases r with
  | nil => cases h
  | cons x r =>
   have hx : 0 ≤ x ∧ x ≤ 255 := by simpa using hr 0
   have hr' : isBytes r := fun j => by simpa using hr (j + 1)
   by_cases h1 : 128 ≤ x
   ·rw [getLoop_more h1] at h
    obtain ⟨q, hq0, hv, hic, htk, hpos⟩ := ih r (i + 1) _ _ hr' h
    have hq := hpos (by omega)
    refine ⟨(x - 128) + 128 * q, by omega, ?_, by omega, ?_, fun _ => by omega⟩
    ·rw [hv]; grind
    ·rw [show c - i = (c - (i + 1)) + 1 by omega, List.take_succ_cons, htk, numB_more _ _ (by omega)]
     have e1 : (x - 128 + 128 * q) % 128 + 128 = x := by omega
     have e2 : (x - 128 + 128 * q) / 128 = q := by omega
     rw [e1, e2]
   ·by_cases h2 : (0 < i ∧ x = 0) ∨ 2147483647 < m + x * sc
    ·rw [getLoop_bad h1 h2] at h; cases h
    ·rw [getLoop_end h1 h2] at h
     simp only [Option.some.injEq, Prod.mk.injEq] at h
     obtain ⟨rfl, rfl⟩ := h
     exact ⟨x, hx.1, rfl, by omega, by rw [show i + 1 - i = 1 by omega, numB_small _ _ (by omega)]; rfl, fun hi => by omega⟩
theorem getNum_only (zs : List Int) (p n : Int) (s : Nat) (hz : isBytes zs) (h : getNum zs p = (n, (s : Int))) : 0 ≤ p ∧ p.toNat ≤ s ∧ s ≤ zs.length ∧ zs.take p.toNat ++ putB n = zs.take s := by
 have hfit := getNum_fits hz h
 obtain ⟨hn0, hn1, hp0, hps, hsl⟩ : 0 ≤ n ∧ n ≤ 2147483647 ∧ 0 ≤ p ∧ p < (s : Int) ∧ (s : Int) ≤ zs.length := by omega
 refine ⟨hp0, by omega, by omega, ?_⟩
 unfold getNum at h
 rw [if_neg (by omega)] at h
 split at h
 ·simp only [Prod.mk.injEq] at h; omega
 ·rename_i m c hg
  simp only [Prod.mk.injEq] at h
  obtain ⟨rfl, hs⟩ := h
  obtain ⟨q, hq0, hv, hic, htk, _⟩ := getLoop_only 4 _ 0 0 1 _ _ (isBytes_drop hz _) hg
  obtain rfl : m = q := by omega
  have hpb : putB m = numB 4 m := by unfold putB; rw [if_neg (by omega)]
  rw [hpb, ← htk, Nat.sub_zero, ← List.take_add]
  congr 1
  omega
end
section
def flagB (b : Bool) : List Int := if b then [1] else [0]
def hdB (h : Hd) : List Int := putB h.sh ++ (putB h.ino ++ flagB h.dir)
def opB (o : OpD) : List Int := putB o.kind ++ (hdB o.dir ++ (textB o.nm ++ (hdB o.to ++ (textB o.asn ++ putB o.val))))
def enB (e : En) : List Int := textB e.nm ++ hdB e.h
def ensB (l : List En) : List Int := l.flatMap enB
def rpB (r : RpD) : List Int := putB r.code ++ (hdB r.h ++ (putB r.val ++ (putB r.list.length ++ ensB r.list)))
def txB (t : TxD) : List Int := putB t.1 ++ (putB t.2.1 ++ putB t.2.2)
def ptB (p : PtD) : List Int := putB p.kind ++ (hdB p.h ++ (textB p.asn ++ hdB p.to))
def msRest (m : MsD) : List Int :=
 if m.kind = 0 then putB m.req ++ opB m.op
 else if m.kind = 1 then putB m.req ++ rpB m.rp
 else if m.kind = 2 then txB m.tx ++ ptB m.pt
 else if m.kind = 3 then txB m.tx ++ (ptB m.pt ++ (putB m.code ++ hdB m.h))
 else if m.kind = 5 then txB m.tx ++ putB m.code
 else if m.kind = 6 then txB m.tx ++ (putB m.req ++ hdB m.h)
 else if m.kind = 7 then txB m.tx ++ (putB m.req ++ (putB m.code ++ hdB m.h))
 else txB m.tx
def msB (m : MsD) : List Int := putB m.kind ++ (putB m.fr ++ (putB m.to ++ msRest m))
theorem flagB_bytes (b : Bool) : isBytes (flagB b) := by cases b <;> exact isBytes_cons (by decide) (by decide) isBytes_nil
theorem flagB_len (b : Bool) : (flagB b).length = 1 := by cases b <;> rfl
theorem hdB_len (h : Hd) : (hdB h).length ≤ 11 := by
 have h1 := putB_len h.sh; have h2 := putB_len h.ino; have h3 := flagB_len h.dir
 unfold hdB; rw [List.length_append, List.length_append]; omega
theorem enB_len (e : En) : (enB e).length ≤ 56 := by
 have h1 := textB_len e.nm; have h2 := hdB_len e.h
 unfold enB; rw [List.length_append]; omega
theorem ensB_len (l : List En) : (ensB l).length ≤ 56 * l.length := by
 induction l with
 | nil => simp [ensB]
 | cons e l ih => have := enB_len e; unfold ensB at *; rw [List.flatMap_cons, List.length_append, List.length_cons]; omega
theorem txB_len (t : TxD) : (txB t).length ≤ 15 := by
 have h1 := putB_len t.1; have h2 := putB_len t.2.1; have h3 := putB_len t.2.2
 unfold txB; rw [List.length_append, List.length_append]; omega
theorem opB_len (o : OpD) : (opB o).length ≤ 122 := by
 have h1 := putB_len o.kind; have h2 := hdB_len o.dir; have h3 := textB_len o.nm; have h4 := hdB_len o.to; have h5 := textB_len o.asn; have h6 := putB_len o.val
 unfold opB; simp only [List.length_append]; omega
theorem ptB_len (p : PtD) : (ptB p).length ≤ 72 := by
 have h1 := putB_len p.kind; have h2 := hdB_len p.h; have h3 := textB_len p.asn; have h4 := hdB_len p.to
 unfold ptB; simp only [List.length_append]; omega
theorem Below.al2 {a b : World} (h : Below a.heap.size a b) (o : Obj) : Below a.heap.size a (b.alloc o) := h.alloc h.size _
abbrev Ap (f : FuncId) (args : Array Value) (w : World) (zs : List Int) : Prop :=
 Calls Tryz.prog f args w fun e w' => ∃ v, e = .returned v ∧ isBytes zs ∧ Owns w' w.heap.size v zs ∧ Below w.heap.size w w'
theorem Owns.rdT {w : World} {B : Nat} {v : Value} {zs : List Int} (o : Owns w B v zs) (h : isBytes zs) : RdV w (fun _ => True) v (.bytes zs) := rdS_of_owns h (o.base (Nat.zero_le _)) (fun _ _ => trivial)
theorem specPutR (v : Value) (xs : List Int) (n : Int) (S : Nat → Prop) (w : World) (r : RdV w S v (.bytes xs)) (hl : xs.length ≤ 2000000) : Ap 219 #[v, .int .i64 n] w (xs ++ putB n) := by
 obtain ⟨a, cap, rfl, hh, hr⟩ := r.b.reads
 exact (specPut_any a xs _ cap n w hr rfl (by omega) hh.2.2).mono fun e w' ⟨u, he, ho, hb⟩ => ⟨u, he, isBytes_append hr.1 (putB_bytes n), ho, hb⟩
theorem implPutR (v : Value) (xs : List Int) (n : Int) (S : Nat → Prop) (w : World) (r : RdV w S v (.bytes xs)) (hl : xs.length ≤ 2000000) : Ap 76 #[v, .int .i64 n] w (xs ++ putB n) := by
 obtain ⟨a, cap, rfl, hh, hr⟩ := r.b.reads
 exact (implPut_any a xs _ cap n w hr rfl (by omega)).mono fun e w' ⟨u, he, ho, hb⟩ => ⟨u, he, isBytes_append hr.1 (putB_bytes n), ho, hb⟩
theorem specTextR (v u : Value) (xs ts : List Int) (S S2 : Nat → Prop) (w : World) (r : RdV w S v (.bytes xs)) (r2 : RdV w S2 u (.bytes ts)) (hl : xs.length ≤ 2000000) (hm : ts.length ≤ 2000000) : Ap 262 #[v, u] w (xs ++ textB ts) := by
 obtain ⟨a, cap, rfl, hh, hr⟩ := r.b.reads
 obtain ⟨b, cbp, rfl, gh, gr⟩ := r2.b.reads
 exact (specPutText_any a b xs ts _ cap _ cbp w hr gr rfl rfl hl hm hh.2.2 gh.2.2).mono fun e w' ⟨u, he, ho, hb⟩ => ⟨u, he, isBytes_append hr.1 (textB_bytes gr.1), ho, hb⟩
theorem implTextR (v u : Value) (xs ts : List Int) (S S2 : Nat → Prop) (w : World) (r : RdV w S v (.bytes xs)) (r2 : RdV w S2 u (.bytes ts)) (hl : xs.length ≤ 2000000) (hm : ts.length ≤ 2000000) : Ap 145 #[v, u] w (xs ++ textB ts) := by
 obtain ⟨a, cap, rfl, hh, hr⟩ := r.b.reads
 obtain ⟨b, cbp, rfl, gh, gr⟩ := r2.b.reads
 exact (implPutText_any a b xs ts _ cap _ cbp w hr gr rfl rfl hl hm).mono fun e w' ⟨u, he, ho, hb⟩ => ⟨u, he, isBytes_append hr.1 (textB_bytes gr.1), ho, hb⟩
end
section
def Took (zs : List Int) (p : Int) (B : List Int) (s : Int) : Prop := 0 ≤ p ∧ p ≤ s ∧ s ≤ zs.length ∧ zs.take p.toNat ++ B = zs.take s.toNat
theorem Took.trans {zs B B2 : List Int} {p s t : Int} (h : Took zs p B s) (k : Took zs s B2 t) : Took zs p (B ++ B2) t := by
 obtain ⟨h1, h2, h3, h4⟩ := h
 obtain ⟨k1, k2, k3, k4⟩ := k
 exact ⟨h1, by omega, k3, by rw [← List.append_assoc, h4, k4]⟩
theorem Took.all {zs B : List Int} (h : Took zs 0 B zs.length) : B = zs := by
 have := h.2.2.2
 simpa using this
theorem Took.nil {zs : List Int} {p : Int} (h : 0 ≤ p) (h2 : p ≤ zs.length) : Took zs p [] p := ⟨h, by omega, h2, by simp⟩
theorem num_took {zs : List Int} {p : Int} (hz : isBytes zs) (h : 0 ≤ (getNum zs p).2) : Took zs p (putB (getNum zs p).1) (getNum zs p).2 := by
 obtain ⟨n, nx, hg⟩ : ∃ n nx, getNum zs p = (n, nx) := ⟨_, _, rfl⟩
 rw [hg] at h ⊢
 dsimp only at h ⊢
 obtain ⟨s, rfl⟩ : ∃ s : Nat, nx = (s : Int) := ⟨nx.toNat, by omega⟩
 obtain ⟨h1, h2, h3, h4⟩ := getNum_only zs p n s hz hg
 exact ⟨h1, by omega, by omega, by simpa using h4⟩
theorem text_took {zs : List Int} {p : Int} (hz : isBytes zs) (h : 0 ≤ (getText zs p).2) : Took zs p (textB (getText zs p).1) (getText zs p).2 := by
 obtain ⟨n, nx, hg⟩ : ∃ n nx, getNum zs p = (n, nx) := ⟨_, _, rfl⟩
 have hf := getNum_fits hz hg
 unfold getText at h ⊢
 rw [hg] at h ⊢
 dsimp only at h ⊢
 by_cases hb : nx < 0 ∨ 40 < n ∨ (zs.length : Int) - nx < n
 ·rw [if_pos hb] at h; simp at h
 ·rw [if_neg hb] at h ⊢
  have h0 := num_took (p := p) hz (by rw [hg]; show (0 : Int) ≤ nx; omega)
  rw [hg] at h0
  dsimp only at h0 ⊢
  have hl : ((zs.drop nx.toNat).take n.toNat).length = n.toNat := by rw [List.length_take, List.length_drop]; omega
  have ht : textB ((zs.drop nx.toNat).take n.toNat) = putB n ++ (zs.drop nx.toNat).take n.toNat := by
   unfold textB
   rw [hl, if_neg (by omega)]
   congr 2; omega
  rw [ht]
  refine h0.trans ⟨by omega, by omega, by omega, ?_⟩
  rw [show (nx + n).toNat = nx.toNat + n.toNat by omega, List.take_add]
def rdFlag (zs : List Int) (p : Int) : Bool × Int := if p < 0 ∨ (zs.length : Int) ≤ p ∨ 1 < zs[p.toNat]?.getD 0 then (false, -1) else (zs[p.toNat]?.getD 0 == 1, p + 1)
theorem take_next (zs : List Int) (k : Nat) (h : k < zs.length) : zs.take (k + 1) = zs.take k ++ [zs[k]?.getD 0] := by
 rw [← List.take_append_getElem h, List.getElem?_eq_getElem h]; rfl
theorem flag_took {zs : List Int} {p : Int} (hz : isBytes zs) (h : 0 ≤ (rdFlag zs p).2) : Took zs p (flagB (rdFlag zs p).1) (rdFlag zs p).2 := by
 unfold rdFlag at h ⊢
 by_cases hb : p < 0 ∨ (zs.length : Int) ≤ p ∨ 1 < zs[p.toNat]?.getD 0
 ·rw [if_pos hb] at h; simp at h
 ·rw [if_neg hb]
  dsimp only
  have hk : p.toNat < zs.length := by omega
  refine ⟨by omega, by omega, by omega, ?_⟩
  rw [show (p + 1).toNat = p.toNat + 1 by omega, take_next zs _ hk]
  have hc : 0 ≤ zs[p.toNat]?.getD 0 := by
   exact (hz p.toNat).1
  generalize zs[p.toNat]?.getD 0 = c at hb hc
  obtain rfl | rfl : c = 0 ∨ c = 1 := by omega
  ·rfl
  ·rfl
theorem flag_num {zs : List Int} (p : Int) (hz : isBytes zs) : ((getNum zs p).1 == 1, if (getNum zs p).1 = 0 ∨ (getNum zs p).1 = 1 then (getNum zs p).2 else -1) = rdFlag zs p := by
 obtain ⟨n, nx, hg⟩ : ∃ n nx, getNum zs p = (n, nx) := ⟨_, _, rfl⟩
 have hf := getNum_fits hz hg
 by_cases ho : p < 0 ∨ (zs.length : Int) ≤ p
 ·have hr : rdFlag zs p = (false, -1) := by unfold rdFlag; rw [if_pos (by omega)]
  rw [getNum_out zs p ho, hr]
  rfl
 ·have hk : p.toNat < zs.length := by omega
  have hc : 0 ≤ zs[p.toNat]?.getD 0 := by
   exact (hz p.toNat).1
  have hd : zs.drop p.toNat = zs[p.toNat]?.getD 0 :: zs.drop (p.toNat + 1) := by rw [List.drop_eq_getElem_cons hk, List.getElem?_eq_getElem hk]; rfl
  by_cases h128 : 128 ≤ zs[p.toNat]?.getD 0
  ·have hr : rdFlag zs p = (false, -1) := by unfold rdFlag; rw [if_pos (by omega)]
   rw [hr, hg]
   dsimp only
   rcases hf with ⟨rfl, rfl⟩ | ⟨hn0, _, hp0, hps, hsl⟩
   ·rfl
   ·have ht := num_took (p := p) hz (by rw [hg]; show (0 : Int) ≤ nx; omega)
    rw [hg] at ht
    have h4 : zs.take p.toNat ++ putB n = zs.take nx.toNat := ht.2.2.2
    have hne : ¬ (n = 0 ∨ n = 1) := by
     intro hn
     have hpb : putB n = [n] := by rcases hn with rfl | rfl <;> rfl
     rw [hpb] at h4
     have hlen := congrArg List.length h4
     rw [List.length_append, List.length_take, List.length_take, List.length_singleton] at hlen
     have hnx : nx.toNat = p.toNat + 1 := by omega
     rw [hnx, take_next zs _ hk] at h4
     have := List.append_cancel_left h4
     simp at this
     omega
    rw [if_neg hne]
    have : (n == 1) = false := by simp; omega
    rw [this]
  ·have hgn : getNum zs p = (zs[p.toNat]?.getD 0, p + 1) := by
    unfold getNum
    rw [if_neg (by omega), hd, getLoop_end (f := 4) (by omega) (by omega)]
    simp
   rw [hgn]
   dsimp only
   by_cases h1 : 1 < zs[p.toNat]?.getD 0
   ·have hr : rdFlag zs p = (false, -1) := by unfold rdFlag; rw [if_pos (.inr (.inr h1))]
    have ht : (zs[p.toNat]?.getD 0 == 1) = false := by
     generalize zs[p.toNat]?.getD 0 = c at h1
     simp; omega
    rw [hr, ht, if_neg (by omega)]
   ·have hr : rdFlag zs p = (zs[p.toNat]?.getD 0 == 1, p + 1) := by unfold rdFlag; rw [if_neg (by omega)]
    rw [hr, if_pos (by omega)]
def rdHd (zs : List Int) (p : Int) : Hd × Int := let a := getNum zs p; let b := getNum zs a.2; let c := rdFlag zs b.2; ((a.1, b.1, c.1), c.2)
def rdOp (zs : List Int) (p : Int) : OpD × Int := let k := getNum zs p; let d := rdHd zs k.2; let n := getText zs d.2; let t := rdHd zs n.2; let s := getText zs t.2; let v := getNum zs s.2; (⟨k.1, d.1, n.1, t.1, s.1, v.1⟩, v.2)
def rdTx (zs : List Int) (p : Int) : TxD × Int := let a := getNum zs p; let b := getNum zs a.2; let c := getNum zs b.2; ((a.1, b.1, c.1), c.2)
def rdPt (zs : List Int) (p : Int) : PtD × Int := let k := getNum zs p; let d := rdHd zs k.2; let n := getText zs d.2; let t := rdHd zs n.2; (⟨k.1, d.1, n.1, t.1⟩, t.2)
theorem num_neg {zs : List Int} {p : Int} (h : 0 ≤ (getNum zs p).2) : 0 ≤ p := by
 by_cases hp : p < 0
 ·rw [getNum_out zs p (.inl hp)] at h; simp at h
 ·omega
theorem text_neg {zs : List Int} {p : Int} (h : 0 ≤ (getText zs p).2) : 0 ≤ p := by
 by_cases hp : p < 0
 ·unfold getText at h; rw [getNum_out zs p (.inl hp)] at h; simp at h
 ·omega
theorem flag_neg {zs : List Int} {p : Int} (h : 0 ≤ (rdFlag zs p).2) : 0 ≤ p := by
 by_cases hp : p < 0
 ·unfold rdFlag at h; rw [if_pos (.inl hp)] at h; simp at h
 ·omega
theorem hd_neg {zs : List Int} {p : Int} (h : 0 ≤ (rdHd zs p).2) : 0 ≤ p := num_neg (num_neg (flag_neg h))
theorem hd_took {zs : List Int} {p : Int} (hz : isBytes zs) (h : 0 ≤ (rdHd zs p).2) : Took zs p (hdB (rdHd zs p).1) (rdHd zs p).2 :=
 (num_took hz (num_neg (flag_neg h))).trans ((num_took hz (flag_neg h)).trans (flag_took hz h))
theorem tx_neg {zs : List Int} {p : Int} (h : 0 ≤ (rdTx zs p).2) : 0 ≤ p := num_neg (num_neg (num_neg h))
theorem tx_took {zs : List Int} {p : Int} (hz : isBytes zs) (h : 0 ≤ (rdTx zs p).2) : Took zs p (txB (rdTx zs p).1) (rdTx zs p).2 :=
 (num_took hz (num_neg (num_neg h))).trans ((num_took hz (num_neg h)).trans (num_took hz h))
theorem op_neg {zs : List Int} {p : Int} (h : 0 ≤ (rdOp zs p).2) : 0 ≤ p := num_neg (hd_neg (text_neg (hd_neg (text_neg (num_neg h)))))
theorem op_took {zs : List Int} {p : Int} (hz : isBytes zs) (h : 0 ≤ (rdOp zs p).2) : Took zs p (opB (rdOp zs p).1) (rdOp zs p).2 :=
 (num_took hz (hd_neg (text_neg (hd_neg (text_neg (num_neg h)))))).trans ((hd_took hz (text_neg (hd_neg (text_neg (num_neg h))))).trans ((text_took hz (hd_neg (text_neg (num_neg h)))).trans ((hd_took hz (text_neg (num_neg h))).trans ((text_took hz (num_neg h)).trans (num_took hz h)))))
theorem pt_neg {zs : List Int} {p : Int} (h : 0 ≤ (rdPt zs p).2) : 0 ≤ p := num_neg (hd_neg (text_neg (hd_neg h)))
theorem pt_took {zs : List Int} {p : Int} (hz : isBytes zs) (h : 0 ≤ (rdPt zs p).2) : Took zs p (ptB (rdPt zs p).1) (rdPt zs p).2 :=
 (num_took hz (hd_neg (text_neg (hd_neg h)))).trans ((hd_took hz (text_neg (hd_neg h))).trans ((text_took hz (hd_neg h)).trans (hd_took hz h)))
def rdEns (zs : List Int) : Nat → Int → List En × Int
 | 0, p => ([], p)
 | f + 1, p => if p < 0 then ([], p) else (⟨(getText zs p).1, (rdHd zs (getText zs p).2).1⟩ :: (rdEns zs f (rdHd zs (getText zs p).2).2).1, (rdEns zs f (rdHd zs (getText zs p).2).2).2)
def rdEnsP (zs : List Int) : Nat → Int → List En × Int
 | 0, p => ([], p)
 | f + 1, p => (⟨(getText zs p).1, (rdHd zs (getText zs p).2).1⟩ :: (rdEnsP zs f (rdHd zs (getText zs p).2).2).1, (rdEnsP zs f (rdHd zs (getText zs p).2).2).2)
theorem ens_neg {zs : List Int} (f : Nat) {p : Int} (h : 0 ≤ (rdEns zs f p).2) : 0 ≤ p := by
 cases f with
 | zero => exact h
 | succ f =>
  by_cases hp : p < 0
  ·rw [rdEns, if_pos hp] at h; exact h
  ·omega
theorem ensP_neg {zs : List Int} (f : Nat) : ∀ {p : Int}, 0 ≤ (rdEnsP zs f p).2 → 0 ≤ p := by
 induction f with
 | zero => intro p h; exact h
 | succ f ih => intro p h; exact text_neg (hd_neg (ih h))
theorem ens_same {zs : List Int} (f : Nat) : ∀ {p : Int}, 0 ≤ (rdEnsP zs f p).2 → rdEns zs f p = rdEnsP zs f p := by
 induction f with
 | zero => intro p h; rfl
 | succ f ih =>
  intro p h
  have h1 : 0 ≤ p := ensP_neg (f + 1) h
  have h2 := ih (p := (rdHd zs (getText zs p).2).2) h
  rw [rdEns, if_neg (by omega), rdEnsP, h2]
theorem ens_took {zs : List Int} (hz : isBytes zs) (f : Nat) : ∀ {p : Int}, p ≤ zs.length → 0 ≤ (rdEns zs f p).2 → Took zs p (ensB (rdEns zs f p).1) (rdEns zs f p).2 ∧ (rdEns zs f p).1.length = f := by
 induction f with
 | zero => intro p hp h; exact ⟨Took.nil h hp, rfl⟩
 | succ f ih =>
  intro p hp h
  have h1 : 0 ≤ p := ens_neg (f + 1) h
  rw [rdEns, if_neg (by omega)] at h ⊢
  dsimp only at h ⊢
  have h2 := ens_neg f h
  have t1 := text_took hz (hd_neg h2)
  have t2 := hd_took hz h2
  obtain ⟨t3, hl⟩ := ih t2.2.2.1 h
  refine ⟨?_, by rw [List.length_cons, hl]⟩
  have : ensB (⟨(getText zs p).1, (rdHd zs (getText zs p).2).1⟩ :: (rdEns zs f (rdHd zs (getText zs p).2).2).1) = textB (getText zs p).1 ++ (hdB (rdHd zs (getText zs p).2).1 ++ ensB (rdEns zs f (rdHd zs (getText zs p).2).2).1) := by
   simp [ensB, enB]
  rw [this]
  exact t1.trans (t2.trans t3)
end
section
def rdEnS (zs : List Int) (p : Int) : List En × Int := rdEns zs (min (getNum zs p).1.toNat 13) (getNum zs p).2
def rdEnP (zs : List Int) (p : Int) : List En × Int := if 12 < (getNum zs p).1 then ([], -1) else rdEnsP zs (getNum zs p).1.toNat (getNum zs p).2
def rdRp (e : Int → List En × Int) (zs : List Int) (p : Int) : RpD × Int := let k := getNum zs p; let h := rdHd zs k.2; let v := getNum zs h.2; let l := e v.2; (⟨k.1, h.1, v.1, l.1⟩, l.2)
def rdMs (e : Int → List En × Int) (zs : List Int) : MsD × Int :=
 let k := getNum zs 0; let f := getNum zs k.2; let t := getNum zs f.2
 if k.1 = 0 then let r := getNum zs t.2; let o := rdOp zs r.2; (⟨k.1, f.1, t.1, r.1, o.1, rp0, tx0, pt0, 0, hd0⟩, o.2)
 else if k.1 = 1 then let r := getNum zs t.2; let o := rdRp e zs r.2; (⟨k.1, f.1, t.1, r.1, op0, o.1, tx0, pt0, 0, hd0⟩, o.2)
 else let x := rdTx zs t.2
  if k.1 = 2 then let o := rdPt zs x.2; (⟨k.1, f.1, t.1, 0, op0, rp0, x.1, o.1, 0, hd0⟩, o.2)
  else if k.1 = 3 then let o := rdPt zs x.2; let c := getNum zs o.2; let h := rdHd zs c.2; (⟨k.1, f.1, t.1, 0, op0, rp0, x.1, o.1, c.1, h.1⟩, h.2)
  else if k.1 = 5 then let c := getNum zs x.2; (⟨k.1, f.1, t.1, 0, op0, rp0, x.1, pt0, c.1, hd0⟩, c.2)
  else if k.1 = 6 then let r := getNum zs x.2; let h := rdHd zs r.2; (⟨k.1, f.1, t.1, r.1, op0, rp0, x.1, pt0, 0, h.1⟩, h.2)
  else if k.1 = 7 then let r := getNum zs x.2; let c := getNum zs r.2; let h := rdHd zs c.2; (⟨k.1, f.1, t.1, r.1, op0, rp0, x.1, pt0, c.1, h.1⟩, h.2)
  else (⟨k.1, f.1, t.1, 0, op0, rp0, x.1, pt0, 0, hd0⟩, x.2)
theorem enP_neg {zs : List Int} {p : Int} (h : 0 ≤ (rdEnP zs p).2) : 0 ≤ p := by
 unfold rdEnP at h
 split at h
 ·simp at h
 ·exact num_neg (ensP_neg _ h)
theorem enP_took {zs : List Int} {p : Int} (hz : isBytes zs) (h : 0 ≤ (rdEnP zs p).2) : Took zs p (putB ((rdEnP zs p).1.length : Int) ++ ensB (rdEnP zs p).1) (rdEnP zs p).2 := by
 unfold rdEnP at h ⊢
 split at h
 ·simp at h
 ·rename_i hn
  rw [if_neg hn]
  have h1 := ensP_neg _ h
  have t1 := num_took hz h1
  have hs := ens_same _ h
  rw [← hs] at h ⊢
  obtain ⟨t2, hl⟩ := ens_took hz _ t1.2.2.1 h
  have hf : 0 ≤ (getNum zs p).1 := by
   obtain ⟨n, nx, hg⟩ : ∃ n nx, getNum zs p = (n, nx) := ⟨_, _, rfl⟩
   have := getNum_fits hz hg
   rw [hg]; show 0 ≤ n; omega
  rw [hl, show (((getNum zs p).1.toNat : Nat) : Int) = (getNum zs p).1 by omega]
  exact t1.trans t2
theorem rp_neg {zs : List Int} {p : Int} (h : 0 ≤ (rdRp (rdEnP zs) zs p).2) : 0 ≤ p := num_neg (hd_neg (num_neg (enP_neg h)))
theorem rp_took {zs : List Int} {p : Int} (hz : isBytes zs) (h : 0 ≤ (rdRp (rdEnP zs) zs p).2) : Took zs p (rpB (rdRp (rdEnP zs) zs p).1) (rdRp (rdEnP zs) zs p).2 :=
 (num_took hz (hd_neg (num_neg (enP_neg h)))).trans ((hd_took hz (num_neg (enP_neg h))).trans ((num_took hz (enP_neg h)).trans (enP_took hz h)))
end
section
theorem getText_no {zs : List Int} {p n nx : Int} (hg : getNum zs p = (n, nx)) (h : nx < 0 ∨ 40 < n ∨ (zs.length : Int) - nx < n) : getText zs p = ([], -1) := by
 unfold getText; rw [hg]; exact if_pos h
theorem getText_yes {zs : List Int} {p : Int} {n nx : Nat} (hg : getNum zs p = ((n : Int), (nx : Int))) (h : ¬ ((nx : Int) < 0 ∨ 40 < (n : Int) ∨ (zs.length : Int) - nx < n)) : getText zs p = ((zs.drop nx).take n, (nx : Int) + n) := by
 unfold getText; rw [hg]; rw [if_neg h]; simp
theorem Reads.part {w : World} {b off : Nat} {zs : List Int} (h : Reads w (some ⟨b, off, none⟩) zs) (nx n : Nat) (hn : nx + n ≤ zs.length) : Reads w (some ⟨b, off + nx, none⟩) ((zs.drop nx).take n) := by
 refine ⟨isBytes_take (isBytes_drop h.1 _) _, ?_⟩
 rcases h.2 with h0 | ⟨b', off', ha, hb, hc⟩
 ·left; subst h0; simp
 ·simp only [Option.some.injEq, Addr.mk.injEq] at ha
  obtain ⟨rfl, rfl, _⟩ := ha
  refine .inr ⟨b, off + nx, rfl, hb, fun i hi => ?_⟩
  have hi' : i < n := by simp at hi; omega
  have := hc (nx + i) (by omega)
  rw [Nat.add_assoc, this, List.getElem?_take, if_pos hi', List.getElem?_drop]

set_option maxHeartbeats 1000000 in
theorem implGetText_any (a : Option Addr) (zs : List Int) (len cap : Nat) (p : Int) (w : World) (h : Reads w a zs) (hlen : len = zs.length) (hl : zs.length ≤ 2000000) (hcap : zs.length ≤ cap) (hcm : cap ≤ maxLen) :
  Calls Tryz.prog 261 #[.slice a len cap, .int .i64 p] w fun e w' => ∃ v, e = .returned (.tuple #[v, .int .i64 (getText zs p).2]) ∧ Owns w' w.heap.size v (getText zs p).1 ∧ Below w.heap.size w w' := by
 obtain ⟨n, nx, hg⟩ : ∃ n nx, getNum zs p = (n, nx) := ⟨_, _, rfl⟩
 have hget := implGet_any a zs cap p w h (by omega) hcap hcm
 rw [hg, ← hlen] at hget
 have HGET : Hid _ := hget
 have fits := getNum_fits h.1 hg
 have hll : len ≤ 2000000 := by omega
 have hlc : len ≤ cap := by omega
 unfold maxLen at hcm
 clear hget
 by_cases hno : nx < 0 ∨ 40 < n ∨ (zs.length : Int) - nx < n
 ·have HT : Hid _ := getText_no hg hno
  rw [← hlen] at hno
  have hn1 : -1 ≤ nx ∧ nx ≤ 2000000 ∧ 0 ≤ n ∧ n ≤ 2147483647 := by omega
  clear hg fits hlen hcap hl
  by_cases h1 : nx < 0
  ·clear hno
   go_enter Tryz.func261, Tryz.ntmps261
   go_wp2_with fail
   refine Calls.mono HGET.out ?_
   rintro e w1 ⟨rfl, rfl⟩
   go_wp2
   go_ret2
   exact ⟨.slice none 0 0, by rw [HT.out]; rfl, by rw [HT.out]; exact World.ownsRow_nil _ _ _ _, Below.refl _ _⟩
  ·by_cases h2 : 40 < n
   ·clear hno
    go_enter Tryz.func261, Tryz.ntmps261
    go_wp2_with fail
    refine Calls.mono HGET.out ?_
    rintro e w1 ⟨rfl, rfl⟩
    go_wp2
    go_ret2
    exact ⟨.slice none 0 0, by rw [HT.out]; rfl, by rw [HT.out]; exact World.ownsRow_nil _ _ _ _, Below.refl _ _⟩
   ·have h3 : (len : Int) - nx < n := by omega
    clear hno
    go_enter Tryz.func261, Tryz.ntmps261
    go_wp2_with fail
    refine Calls.mono HGET.out ?_
    rintro e w1 ⟨rfl, rfl⟩
    go_wp2
    go_ret2
    exact ⟨.slice none 0 0, by rw [HT.out]; rfl, by rw [HT.out]; exact World.ownsRow_nil _ _ _ _, Below.refl _ _⟩
 ·obtain ⟨N, rfl⟩ : ∃ N : Nat, n = (N : Int) := ⟨n.toNat, by omega⟩
  obtain ⟨X, rfl⟩ : ∃ X : Nat, nx = (X : Int) := ⟨nx.toNat, by omega⟩
  have HT : Hid _ := getText_yes hg hno
  obtain ⟨b, off, rfl⟩ : ∃ b off, a = some ⟨b, off, none⟩ := by
   rcases h.2 with rfl | ⟨b, off, ha, _⟩
   ·simp at fits; omega
   ·exact ⟨b, off, ha⟩
  have HP : Hid _ := h.part X N (by omega)
  have HN : Hid (N = ((zs.drop X).take N).length) := by show _ = _; simp; omega
  have hXN : X + N ≤ len := by omega
  have hN : N ≤ 40 := by omega
  have hX : 1 ≤ X := by omega
  have HEM : Hid (N = 0 → (zs.drop X).take N = []) := fun e => by rw [e]; simp
  clear hg fits hlen hcap hl hno
  by_cases hN0 : N = 0
  ·subst hN0
   have HT2 : Hid (getText zs p = ([], (X : Int))) := by show _ = _; rw [HT.out]; simp
   clear HT HP HN HEM
   go_enter Tryz.func261, Tryz.ntmps261
   go_wp2_with fail
   refine Calls.mono HGET.out ?_
   rintro e w1 ⟨rfl, rfl⟩
   go_wp2_with fail
   all_goals
    refine (joined_v none _ [] [] _ _ _ _ _ (reads_none _ _) (reads_none _ _) rfl rfl (by simp) (by simp)).mono ?_
    rintro e w2 ⟨v, rfl, ho, hb⟩
    go_wp2
    go_ret2
    exact ⟨v, by rw [HT2.out]; rfl, by rw [HT2.out]; exact ho, hb⟩
  ·clear HEM
   have hXc : X < cap := by omega
   go_enter Tryz.func261, Tryz.ntmps261
   go_wp2_with fail
   refine Calls.mono HGET.out ?_
   rintro e w1 ⟨rfl, rfl⟩
   go_wp2_with fail
   refine (joined_v none _ [] ((zs.drop X).take N) _ _ _ _ _ (reads_none _ _) HP.out rfl HN.out (by simp) (by rw [← HN.out]; omega)).mono ?_
   rintro e w2 ⟨v, rfl, ho, hb⟩
   go_wp2
   go_ret2
   exact ⟨v, by rw [HT.out]; rfl, by rw [HT.out]; exact ho, hb⟩
end
section
def CurV (T : TypeId) (pb : Nat) (zs : List Int) (v : Value) (p : Int) (w : World) : Prop := VarA w pb T #[v, .int .i64 p] ∧ RdV w (fun b => b < pb) v (.bytes zs) ∧ -1 ≤ p ∧ p ≤ zs.length
section
variable {T : TypeId} {pb : Nat} {zs : List Int} {v : Value} {p : Int} {w w' : World}
theorem CurV.lt (h : CurV T pb zs v p w) : pb < w.heap.size := VarA.lt h.1
theorem CurV.keep {S : Nat → Prop} (h : CurV T pb zs v p w) (t : Turned S w w') (hS : ∀ b, S b → pb < b) : CurV T pb zs v p w' :=
 ⟨VarA.turn h.1 t (fun hs => absurd (hS _ hs) (by omega)), RdV.keep (t.keeps (fun b hb hs => absurd (hS _ hs) (by omega))) h.2.1, h.2.2⟩
theorem CurV.step (h : CurV T pb zs v p w) (hb : Below w.heap.size w w') : CurV T pb zs v p w' := ⟨VarA.step h.1 hb, RdV.step h.2.1 hb, h.2.2⟩
theorem CurV.alloc (h : CurV T pb zs v p w) (o : Obj) : CurV T pb zs v p (w.alloc o) := h.step (Below.new1 o)
theorem CurV.put (h : CurV T pb zs v p w) (q : Int) (h1 : -1 ≤ q) (h2 : q ≤ zs.length) : CurV T pb zs v q (w.setCell ⟨pb, 1, none⟩ (.int .i64 q)) := by
 refine ⟨VarA.set h.1 1 (.int .i64 q), RdV.keep (Turned.keeps (S := fun b => b = pb) ((Turned.refl _ w).set ⟨pb, 1, none⟩ _ rfl) (fun b hb hs => by omega)) h.2.1, h1, h2⟩
end
theorem Turned.then {S S' : Nat → Prop} {a b c : World} (h : Turned S a b) (k : Turned S' b c) (hs : ∀ i, i < a.heap.size → S' i → S i) : Turned S a c :=
 ⟨k.os.trans h.os, k.tape.trans h.tape, k.output.trans h.output, Nat.le_trans h.size k.size, fun i hi hr => (k.block i (Nat.lt_of_lt_of_le hi h.size) (fun e => hr (hs i hi e))).trans (h.block i hi hr)⟩
theorem storeG_run {P : Program} {w : World} {g off : Nat} {T ty : TypeId} {old vs : Array Value} {u : Value} (hu : u.cells = vs) (hv : VarA w g T old) (hl : off + vs.size ≤ old.size) (hi : (P.info? ty).map (·.size) = some vs.size) (h1 : vs.toList.all (·.oneCell') = true) :
  (storeVar ty ⟨g, off, none⟩ u).run P w = .ok () (w.setRow g (old.toList.take off ++ vs.toList ++ old.toList.drop (off + vs.size)).toArray) := by
 have h := run_storeCells_at (P := P) g off T vs.toList 0 old w hv (by simpa using hl) (fun v hv => (List.all_eq_true.1 h1) v hv)
 cases hq : P.info? ty with
 | none => simp [hq] at hi
 | some i =>
  have hs : vs.size = i.size := by simp [hq] at hi; omega
  simp only [Nat.add_zero, Array.length_toList] at h
  simp [storeVar, sizeOf, typeInfo, hq, hu, hs, h]
theorem wpList_storeG {ty t' : TypeId} {dst : Option Tmp} {x y : Operand} {pos : String} {af : Array Edge} {ops : Array Oper} {rest : List Oper} {a : Act} {Q : Exit → Act → World → Prop} {w : World} {g off : Nat} {T : TypeId} {old vs new : Array Value} {u : Value}
  (hv : VarA w g T old) (hx : a.eval x = .pointer (some ⟨g, off, none⟩)) (hy : a.eval y = u) (hu : u.cells = vs) (hi : (Tryz.prog.info? ty).map (·.size) = some vs.size) (h1 : vs.toList.all (·.oneCell') = true) (hl : off + vs.size ≤ old.size)
  (hnew : (old.toList.take off ++ vs.toList ++ old.toList.drop (off + vs.size)).toArray = new)
  (hK : ∀ w', VarA w' g T new → Turned (fun b => b = g) w w' → wpList Tryz.prog ops Q rest (a.put dst undef) w') :
  wpList Tryz.prog ops Q (⟨dst, .store ty x y, t', pos, af, none⟩ :: rest) a w := by
 refine wpList_plain rfl fun K' hK' => ?_
 unfold Oper.wp execOp
 simp only [hx, hy, Instr.storeAt, Instr.sureAddr, Sem.run_bind, Sem.run_pure, Result.andThen_ok, storeG_run hu hv hl hi h1]
 rw [hnew]
 exact hK' _ _ (hK _ (VarA.row hv) (turned_row w g new))
theorem getNum_at {zs : List Int} (hz : isBytes zs) (p : Int) : -1 ≤ (getNum zs p).2 ∧ (getNum zs p).2 ≤ zs.length := by
 obtain ⟨n, nx, hg⟩ : ∃ n nx, getNum zs p = (n, nx) := ⟨_, _, rfl⟩
 have := getNum_fits hz hg
 rw [hg]; dsimp only; omega
theorem getText_at {zs : List Int} (hz : isBytes zs) (p : Int) : -1 ≤ (getText zs p).2 ∧ (getText zs p).2 ≤ zs.length := by
 obtain ⟨n, nx, hg⟩ : ∃ n nx, getNum zs p = (n, nx) := ⟨_, _, rfl⟩
 have := getNum_fits hz hg
 unfold getText
 rw [hg]; dsimp only
 split
 ·exact ⟨by simp, by simp⟩
 ·dsimp only; omega
theorem RdV.zs {w : World} {S : Nat → Prop} {v : Value} {zs : List Int} (r : RdV w S v (.bytes zs)) : isBytes zs := r.b.reads.choose_spec.choose_spec.2.2.1
theorem implGetR (v : Value) (zs : List Int) (S : Nat → Prop) (p : Int) (w : World) (r : RdV w S v (.bytes zs)) (hl : zs.length ≤ 2000000) :
  Calls Tryz.prog 151 #[v, .int .i64 p] w fun e w' => e = .returned (.tuple #[.int .i64 (getNum zs p).1, .int .i64 (getNum zs p).2]) ∧ w' = w := by
 obtain ⟨a, cap, rfl, hh, hr⟩ := r.b.reads
 exact implGet_any a zs cap p w hr (by omega) hh.1 hh.2.1
theorem implGetTextR (v : Value) (zs : List Int) (S : Nat → Prop) (p : Int) (w : World) (r : RdV w S v (.bytes zs)) (hl : zs.length ≤ 2000000) :
  Calls Tryz.prog 261 #[v, .int .i64 p] w fun e w' => ∃ v, e = .returned (.tuple #[v, .int .i64 (getText zs p).2]) ∧ Owns w' w.heap.size v (getText zs p).1 ∧ Below w.heap.size w w' := by
 obtain ⟨a, cap, rfl, hh, hr⟩ := r.b.reads
 exact implGetText_any a zs _ cap p w hr rfl hl hh.1 hh.2.1
abbrev Gone (T : TypeId) (pb : Nat) (zs : List Int) (v : Value) (q : Int) (w w' : World) : Prop := CurV T pb zs v q w' ∧ Turned (fun b => b = pb) w w'
theorem Turned.drew1 (S : Nat → Prop) (a : World) : Turned S a a.drew := ⟨rfl, rfl, rfl, Nat.le_refl _, fun _ _ _ => rfl⟩
theorem CurV.dr {T : TypeId} {pb : Nat} {zs : List Int} {v : Value} {p : Int} {w : World} (h : CurV T pb zs v p w) : CurV T pb zs v p w.drew := h.step (Below.drew (Below.refl _ _))
theorem owNilB (w : World) (S : Nat → Prop) : OwV w S (.slice none 0 0) (.bytes []) := ⟨isBytes_nil, ⟨rfl, .inl ⟨rfl, rfl⟩⟩, fun b hb => by cases hb⟩
set_option maxHeartbeats 2000000 in
theorem implNumC (pb : Nat) (zs : List Int) (v : Value) (p : Int) (w : World) (h : CurV 108 pb zs v p w) (hl : zs.length ≤ 2000000) :
  Calls Tryz.prog 68 #[.pointer (some ⟨pb, 0, none⟩)] w fun e w' => e = .returned (.int .i64 (getNum zs p).1) ∧ Gone 108 pb zs v (getNum zs p).2 w w' := by
 have HG : Hid (∀ W, Below w.heap.size w W → _) := fun W hW => implGetR v zs _ p W (RdV.step h.2.1 hW) hl
 have hz := RdV.zs h.2.1
 have HA : Hid _ := getNum_at hz p
 have HC : Hid (CurV 108 pb zs v p w) := h
 obtain ⟨c0, c1⟩ := VarA.l2 h.1
 have hf := VarA.fz h.1
 clear h hz
 generalize getNum zs p = g at HG HA ⊢
 obtain ⟨n, nx⟩ := g
 dsimp only at HG HA ⊢
 go_enter Tryz.func68, Tryz.ntmps68
 go_wp2
 go_region_held3 (fun w' => w'.cell? ⟨pb, 0, none⟩ = some v ∧ w'.cell? ⟨pb, 1, none⟩ = some (.int .i64 p)) (first | go_keep | (refine ⟨?_, ?_⟩ <;> assumption)) (first | (go_at_call 151; refine Calls.mono (HG.out _ (by repeat (first | exact Below.refl _ _ | refine Below.drew ?_ | refine below_drewN2 ?_ _))) ?_; rintro e w' ⟨rfl, rfl⟩))
 go_wp2
 go_ret
 exact ⟨rfl, CurV.put HC.out.dr nx HA.out.1 HA.out.2, (Turned.drew1 _ _).set _ _ rfl⟩
set_option maxHeartbeats 2000000 in
theorem implTextC (pb : Nat) (zs : List Int) (v : Value) (p : Int) (w : World) (h : CurV 108 pb zs v p w) (hl : zs.length ≤ 2000000) :
  Calls Tryz.prog 216 #[.pointer (some ⟨pb, 0, none⟩)] w fun e w' => ∃ a n c, e = .returned (.slice a n c) ∧ OwV w' (fun b => w.heap.size ≤ b ∧ b < w'.heap.size) (.slice a n c) (.bytes (getText zs p).1) ∧ Gone 108 pb zs v (getText zs p).2 w w' := by
 have HG : Hid (∀ W, Below w.heap.size w W → _) := fun W hW => implGetTextR v zs _ p W (RdV.step h.2.1 hW) hl
 have hz := RdV.zs h.2.1
 have HA : Hid _ := getText_at hz p
 have HZ : Hid _ := getText_bytes hz p
 have HC : Hid (CurV 108 pb zs v p w) := h
 have hpl := h.lt
 obtain ⟨c0, c1⟩ := VarA.l2 h.1
 have hf := VarA.fz h.1
 clear h hz
 generalize getText zs p = g at HG HA HZ ⊢
 obtain ⟨ts, nx⟩ := g
 dsimp only at HG HA HZ ⊢
 go_enter Tryz.func216, Tryz.ntmps216
 go_wp2
 go_region_held3 (fun w' => w'.cell? ⟨pb, 0, none⟩ = some v ∧ w'.cell? ⟨pb, 1, none⟩ = some (.int .i64 p)) (first | go_keep | (refine ⟨?_, ?_⟩ <;> assumption)) (first | (go_at_call 261; refine Calls.mono (HG.out _ (by repeat (first | exact Below.refl _ _ | refine Below.drew ?_ | refine below_drewN2 ?_ _))) ?_; rintro e w2 ⟨u, rfl, ou, b_⟩; have HB2 : Hid (Below w.heap.size w w2) := (Below.drew (Below.refl _ _)).trans b_; have HOU : Hid (OwV w2 (fun b => w.heap.size ≤ b ∧ b < w2.heap.size) u (.bytes ts)) := OwV.ofOwns HZ.out ou; clear ou b_; have HC2 : Hid (CurV 108 pb zs v p w2) := HC.out.step HB2.out; obtain ⟨d0, d1⟩ := VarA.l2 HC2.out.1; have df := VarA.fz HC2.out.1))
 obtain ⟨ua, uc, un, hu⟩ : ∃ a c n, u = .slice a n c := by
  obtain ⟨a_, c_, h_⟩ := HOU.out.rd.sliceB
  exact ⟨a_, c_, _, h_⟩
 subst hu
 have HCC : Hid (CurV 108 pb zs v nx (w2.setCell ⟨pb, 1, none⟩ (.int .i64 nx))) := CurV.put HC2.out nx HA.out.1 HA.out.2
 have HTT : Hid (Turned (fun b => b = pb) w (w2.setCell ⟨pb, 1, none⟩ (.int .i64 nx))) := (Turned.ofBelow HB2.out).set _ _ rfl
 have HOW : Hid (OwV (w2.setCell ⟨pb, 1, none⟩ (.int .i64 nx)) (fun b => w.heap.size ≤ b ∧ b < (w2.setCell ⟨pb, 1, none⟩ (.int .i64 nx)).heap.size) (.slice ua un uc) (.bytes ts)) := by
  have t_ : Turned (fun b => b = pb) w2 (w2.setCell ⟨pb, 1, none⟩ (.int .i64 nx)) := (Turned.refl _ _).set _ _ rfl
  exact (HOU.out.keep (t_.keeps (fun b hb hs => by omega))).mono (fun b hb => ⟨hb.1, Nat.lt_of_lt_of_le hb.2 t_.size⟩)
 by_cases hn0 : un = 0
 ·have HE : Hid (ts = []) := by
   have h1 := HOU.out.rd.b.reads
   obtain ⟨a_, c_, h2, _⟩ := h1
   simp only [Value.slice.injEq] at h2
   exact List.eq_nil_of_length_eq_zero (by omega)
  subst hn0
  go_wp2
  go_ret
  exact ⟨_, _, _, rfl, by rw [HE.out]; exact owNilB _ _, HCC.out, HTT.out⟩
 ·go_wp2
  go_ret
  exact ⟨_, _, _, rfl, HOW.out, HCC.out, HTT.out⟩
end
section
def enVal (e : En) (u : Value) : Nat → Value
 | 0 => u
 | 1 => .int .i64 e.h.sh
 | 2 => .int .i64 e.h.ino
 | _ => .bool e.h.dir
theorem OwV.snocEn {w w' : World} {lo hi hi2 g cap : Nat} {v u : Value} {l : List En} {e : En} (hown : OwV w (fun b => lo ≤ b ∧ b < hi) v (ensDt l)) (hu : OwV w (fun b => hi ≤ b ∧ b < hi2) u (.bytes e.nm)) (h2 : hi2 ≤ w.heap.size) (hh2 : hi ≤ hi2) (hlh : lo ≤ hi)
  (C : List Value) (hC : w.ownsRow 0 139 4 v l.length C) (V : Nat → Nat → Value) (Q : Nat → Nat → Nat → Prop) (hS : ∀ b, v.ownBlock = some b → lo ≤ b ∧ b < hi) (hV : ∀ i j, i < l.length → j < 4 → C[i * 4 + j]? = some (V i j)) (hQ : ∀ i j, i < l.length → j < 4 → OwV w (Q i j) (V i j) (enCell (l[i]?.getD en0) j))
  (hq1 : ∀ i j b, i < l.length → j < 4 → Q i j b → (lo ≤ b ∧ b < hi) ∧ v.ownBlock ≠ some b) (hq2 : ∀ i j i' j' b, i < l.length → j < 4 → i' < l.length → j' < 4 → Q i j b → Q i' j' b → i = i' ∧ j = j')
  (ho : w'.ownsRow 0 139 4 (.slice (some ⟨g, 0, none⟩) (l.length + 1) cap) (l.length + 1) (C ++ [u, .int .i64 e.h.sh, .int .i64 e.h.ino, .bool e.h.dir])) (hg : w.grownBy w' v.ownBlock) (hgg : v.ownBlock = some g ∨ g = w.heap.size) (hgl : g < w'.heap.size) :
  OwV w' (fun b => lo ≤ b ∧ b < w'.heap.size) (.slice (some ⟨g, 0, none⟩) (l.length + 1) cap) (ensDt (l ++ [e])) := by
 have hsz := hg.size
 have hCl : C.length = l.length * 4 := hC.1
 have hkeep : ∀ (R : Nat → Prop), (∀ b, R b → v.ownBlock ≠ some b) → Keeps R w w' := fun R hR => ⟨hsz, fun b hb hlt => hg.block b hlt (fun h => hR b hb h.symm)⟩
 have hln : (l ++ [e]).length = l.length + 1 := by simp
 unfold ensDt
 rw [hln]
 refine OwV.mkRows ⟨fun i j => if i < l.length then V i j else enVal e u j, _, fun i j => if i < l.length then Q i j else if j = 0 then (fun b => hi ≤ b ∧ b < hi2) else (fun _ => False), ho, ?_, ?_, ?_, ?_, ?_⟩
 ·intro b hb
  obtain rfl : g = b := by simpa [Value.ownBlock] using hb
  rcases hgg with h | h
  ·exact ⟨(hS _ h).1, hgl⟩
  ·exact ⟨by omega, hgl⟩
 ·intro i j hi' hj
  by_cases hlt : i < l.length
  ·simp only [hlt, if_true]
   rw [List.getElem?_append_left (by rw [hCl]; exact place_lt hlt hj)]
   exact hV i j hlt hj
  ·obtain rfl : i = l.length := by omega
   simp only [Nat.lt_irrefl, if_false]
   rw [List.getElem?_append_right (by omega), hCl, show l.length * 4 + j - l.length * 4 = j by omega]
   match j, hj with
   | 0, _ => rfl
   | 1, _ => rfl
   | 2, _ => rfl
   | 3, _ => rfl
 ·intro i j hi' hj
  by_cases hlt : i < l.length
  ·simp only [hlt, if_true]
   rw [show (l ++ [e])[i]?.getD en0 = l[i]?.getD en0 by rw [List.getElem?_append_left hlt]]
   exact OwV.keep (hkeep _ (fun b hb => (hq1 i j b hlt hj hb).2)) (hQ i j hlt hj)
  ·obtain rfl : i = l.length := by omega
   simp only [Nat.lt_irrefl, if_false]
   rw [show (l ++ [e])[l.length]?.getD en0 = e by simp]
   match j, hj with
   | 0, _ => exact OwV.keep (hkeep (fun b => hi ≤ b ∧ b < hi2) (fun b hb h => by have := hS b h; omega)) hu
   | 1, _ => rfl
   | 2, _ => rfl
   | 3, _ => rfl
 ·intro i j b hi' hj hb
  by_cases hlt : i < l.length
  ·simp only [hlt, if_true] at hb
   have h1 := hq1 i j b hlt hj hb
   refine ⟨⟨h1.1.1, by omega⟩, ?_⟩
   intro h
   obtain rfl : g = b := by simpa [Value.ownBlock] using h
   rcases hgg with h3 | h3
   ·exact h1.2 h3
   ·omega
  ·simp only [hlt, if_false] at hb
   by_cases hj0 : j = 0
   ·simp only [hj0, if_true] at hb
    refine ⟨⟨by omega, by omega⟩, ?_⟩
    intro h
    obtain rfl : g = b := by simpa [Value.ownBlock] using h
    rcases hgg with h3 | h3
    ·have := hS _ h3; omega
    ·omega
   ·simp only [hj0, if_false] at hb
 ·intro i j i' j' b hi' hj hi2' hj' hb hb'
  by_cases hlt : i < l.length <;> by_cases hlt' : i' < l.length
  ·simp only [hlt, hlt', if_true] at hb hb'
   exact hq2 i j i' j' b hlt hj hlt' hj' hb hb'
  ·simp only [hlt, hlt', if_true, if_false] at hb hb'
   have h1 := hq1 i j b hlt hj hb
   by_cases hj0 : j' = 0
   ·simp only [hj0, if_true] at hb'; omega
   ·simp only [hj0, if_false] at hb'
  ·simp only [hlt, hlt', if_true, if_false] at hb hb'
   have h1 := hq1 i' j' b hlt' hj' hb'
   by_cases hj0 : j = 0
   ·simp only [hj0, if_true] at hb; omega
   ·simp only [hj0, if_false] at hb
  ·simp only [hlt, hlt', if_false] at hb hb'
   by_cases hj0 : j = 0 <;> by_cases hj0' : j' = 0
   ·exact ⟨by omega, by omega⟩
   ·simp only [hj0', if_false] at hb'
   ·simp only [hj0, if_false] at hb
   ·simp only [hj0, if_false] at hb
theorem wpList_appEn {ops : Array Oper} {rest : List Oper} {o : Oper} {a : Act} {Q : Exit → Act → World → Prop} (w : World) (hgd : o.guard = none) (s x : Operand)
  (ho : o.op = .call { callee := .builtin .append, args := #[s, x], argTypes := #[27, 27] })
  (v : Value) (hs : a.eval s = v) (l : List En) (e : En) (u : Value) (lo hi hi2 q : Nat) (hx : a.eval x = .slice (some ⟨q, 0, none⟩) 1 1) (hone : u.oneCell' = true) (fr : Nat × Nat) (hq : w.heap[q]? = some (.cells #[u, .int .i64 e.h.sh, .int .i64 e.h.ino, .bool e.h.dir] 139 fr))
  (hown : OwV w (fun b => lo ≤ b ∧ b < hi) v (ensDt l)) (hu : OwV w (fun b => hi ≤ b ∧ b < hi2) u (.bytes e.nm)) (h2 : hi2 ≤ w.heap.size) (hh2 : hi ≤ hi2) (hlh : lo ≤ hi) (hl : l.length ≤ 4000)
  (h : ∀ g n cap w', OwV w' (fun b => lo ≤ b ∧ b < w'.heap.size) (.slice g n cap) (ensDt (l ++ [e])) → Turned (fun b => lo ≤ b ∧ b < hi) w w' → wpList Tryz.prog ops Q rest (a.put o.dst (.slice g n cap)) w') : wpList Tryz.prog ops Q (o :: rest) a w := by
 obtain ⟨i0, hi0, hz0, hz1, hz2⟩ := info_parts Tryz.infoEn
 have hown' := hown
 unfold ensDt at hown'
 obtain ⟨V, C, Qs, h1, hS, h3, h4, h5, h6⟩ := OwV.inv hown'
 refine wpList_append_lies w hgd s x 27 ho 0 139 i0 (.agg #[.slice none 0 0, .int .i64 0, .int .i64 0, .bool false]) 4 48 Tryz.underlying27 hi0 hz0 hz1 hz2 rfl (by decide) v l.length C hs h1 ⟨q, 0, none⟩ 1 1 [u, .int .i64 e.h.sh, .int .i64 e.h.ino, .bool e.h.dir] hx rfl (World.news_of_block hq) (fun y hy => ?_) (by decide) (by unfold maxLen; omega) (by omega) (Nat.zero_le _) w.heap.size rfl ?_
 ·simp only [List.mem_cons, List.not_mem_nil, or_false] at hy
  rcases hy with rfl | rfl | rfl | rfl
  ·exact hone
  ·rfl
  ·rfl
  ·rfl
 intro g cap w' ho' hg hgg hgl
 exact h _ _ _ w' (OwV.snocEn hown hu h2 hh2 hlh C h1 V Qs hS h3 h4 h5 h6 ho' hg hgg hgl) (Turned.ofGrown hg (fun k hk => hS k hk))
theorem ensP_snoc (zs : List Int) (k : Nat) : ∀ p : Int, rdEnsP zs (k + 1) p = ((rdEnsP zs k p).1 ++ [⟨(getText zs (rdEnsP zs k p).2).1, (rdHd zs (getText zs (rdEnsP zs k p).2).2).1⟩], (rdHd zs (getText zs (rdEnsP zs k p).2).2).2) := by
 induction k with
 | zero => intro p; rfl
 | succ k ih => intro p; rw [rdEnsP, ih]; rfl
theorem ensP_len (zs : List Int) (k : Nat) : ∀ p : Int, (rdEnsP zs k p).1.length = k := by
 induction k with
 | zero => intro p; rfl
 | succ k ih => intro p; rw [rdEnsP]; simp [ih]
end
section
theorem step_appS {ops : Array Oper} {o : Oper} {a : Act} {w : World} {K : Act → World → Prop} {Q : Exit → Act → World → Prop} {E : Prop} (hgd : o.guard = none) (s x : Operand)
  (ho : o.op = .call { callee := .builtin .append, args := #[s, x], argTypes := #[22, 22] })
  (base : Nat) (v : Value) (zs ys : List Int) (hs : a.eval s = v) (hown : Owns w base v zs) (ao : Option Addr) (m c : Nat) (hx : a.eval x = .slice ao m c) (hm : m = ys.length) (hr : Reads w ao ys)
  (hl : zs.length ≤ 4194304) (hl' : ys.length ≤ 4194304) (hbase : base ≤ w.heap.size) (hnil : ao = none → m = 0 ∧ c = 0)
  (h : ∀ v' w', Owns w' base v' (zs ++ ys) → w.grownBy w' v.ownBlock → K (a.put o.dst v') w') : if Region.wanted o (yielded ops a.tmps) = true then Oper.wp Tryz.prog o a w K Q else E := by
 have hw : Region.wanted o (yielded ops a.tmps) = true := by simp [Region.wanted, hgd]
 rw [if_pos hw]
 obtain ⟨i0, hi, hz0, hz1, hz2⟩ := info_parts Tryz.infoB
 cases ao with
 | none =>
  obtain ⟨h0, hc0⟩ := hnil rfl
  have : ys = [] := List.eq_nil_of_length_eq_zero (by omega)
  subst this
  subst hm
  subst hc0
  have hrun := run_append_owned_none (P := Tryz.prog) (w := w) base 22 o.type 5 i0 1 Tryz.underlying22 hi v zs.length (bcells zs) hown
  unfold Oper.wp
  have hx' : a.eval x = .slice none 0 0 := hx
  simp [execOp, ho, resolve, invoke, builtin, hs, hx', hrun, Result.andThen]
  exact h v w (by rw [List.append_nil]; exact hown) ⟨rfl, rfl, rfl, Nat.le_refl _, fun _ _ _ => rfl⟩
 | some ad =>
  refine wp_append_own w s x 22 ho base 5 i0 (.int .u8 0) 1 1 Tryz.underlying22 hi hz0 hz1 hz2 rfl (by decide) v zs.length (bcells zs) hs hown ad m c (bcells ys) hx (by simp [hm]) hr.srcAt (bcells_one ys) (by unfold maxLen; omega) (by omega) hbase ?_
  intro v' w' ho' hg _
  refine h v' w' ?_ hg
  unfold Owns
  rw [List.length_append, ← hm]
  simpa [bcells] using ho'
theorem step_appEn {ops : Array Oper} {o : Oper} {a : Act} {K : Act → World → Prop} {Q : Exit → Act → World → Prop} {E : Prop} (w : World) (hgd : o.guard = none) (s x : Operand)
  (ho : o.op = .call { callee := .builtin .append, args := #[s, x], argTypes := #[27, 27] })
  (v : Value) (hs : a.eval s = v) (l : List En) (e : En) (u : Value) (lo hi hi2 q : Nat) (hx : a.eval x = .slice (some ⟨q, 0, none⟩) 1 1) (hone : u.oneCell' = true) (fr : Nat × Nat) (hq : w.heap[q]? = some (.cells #[u, .int .i64 e.h.sh, .int .i64 e.h.ino, .bool e.h.dir] 139 fr))
  (hown : OwV w (fun b => lo ≤ b ∧ b < hi) v (ensDt l)) (hu : OwV w (fun b => hi ≤ b ∧ b < hi2) u (.bytes e.nm)) (h2 : hi2 ≤ w.heap.size) (hh2 : hi ≤ hi2) (hlh : lo ≤ hi) (hl : l.length ≤ 4000)
  (h : ∀ g n cap w', OwV w' (fun b => lo ≤ b ∧ b < w'.heap.size) (.slice g n cap) (ensDt (l ++ [e])) → Turned (fun b => lo ≤ b ∧ b < hi) w w' → K (a.put o.dst (.slice g n cap)) w') : if Region.wanted o (yielded ops a.tmps) = true then Oper.wp Tryz.prog o a w K Q else E := by
 obtain ⟨i0, hi0, hz0, hz1, hz2⟩ := info_parts Tryz.infoEn
 have hown' := hown
 unfold ensDt at hown'
 obtain ⟨V, C, Qs, h1, hS, h3, h4, h5, h6⟩ := OwV.inv hown'
 refine step_append_lies w hgd s x 27 ho 0 139 i0 (.agg #[.slice none 0 0, .int .i64 0, .int .i64 0, .bool false]) 4 48 Tryz.underlying27 hi0 hz0 hz1 hz2 rfl (by decide) v l.length C hs h1 ⟨q, 0, none⟩ 1 1 [u, .int .i64 e.h.sh, .int .i64 e.h.ino, .bool e.h.dir] hx rfl (World.news_of_block hq) (fun y hy => ?_) (by decide) (by unfold maxLen; omega) (by omega) (Nat.zero_le _) w.heap.size rfl ?_
 ·simp only [List.mem_cons, List.not_mem_nil, or_false] at hy
  rcases hy with rfl | rfl | rfl | rfl
  ·exact hone
  ·rfl
  ·rfl
  ·rfl
 intro g cap w' ho' hg hgg hgl
 exact h _ _ _ w' (OwV.snocEn hown hu h2 hh2 hlh C h1 V Qs hS h3 h4 h5 h6 ho' hg hgg hgl) (Turned.ofGrown hg (fun k hk => hS k hk))

set_option maxHeartbeats 4000000 in
theorem specCopyEn_any (v : Value) (l : List En) (S : Nat → Prop) (w : World) (r : RdV w S v (ensDt l)) (hl : szEns l ≤ 2097152) (hn : l.length ≤ 4000) :
  Calls Tryz.prog 188 #[v] w fun e w' => ∃ a n c, e = .returned (.slice a n c) ∧ OwV w' (fun b => w.heap.size ≤ b ∧ b < w'.heap.size) (.slice a n c) (ensDt l) ∧ Below w.heap.size w w' := by
 obtain ⟨a, cap, rfl, _⟩ := RdV.sliced r
 have HR : Hid (∀ W, Below w.heap.size w W → RdV W S (.slice a l.length cap) (ensDt l)) := fun W hW => r.step hW
 have HLN : Hid (∀ k, k < l.length → (l[k]?.getD en0).nm.length ≤ 2097152) := fun k hk => Nat.le_trans (szEns_at l k) hl
 clear r hl
 go_enter Tryz.func188, Tryz.ntmps188
 go_wp2
 go_loopw [3, 4] (fun o i wr => ∃ (k : Nat) (ga : Option Addr) (gn gc : Nat), k ≤ l.length ∧ i = .int .i64 k ∧ o = .slice ga gn gc ∧ Hid (OwV wr (fun b => w.heap.size ≤ b ∧ b < wr.heap.size) (.slice ga gn gc) (ensDt (l.take k))) ∧ Hid (Below w.heap.size w wr)) (fun _ i _ => l.length - (intOf i).toNat)
 case atStart => exact ⟨0, none, 0, 0, Nat.zero_le _, rfl, rfl, OwV.nilR _ _ _ _ _, Below.refl _ _⟩
 case round =>
  obtain ⟨k, ga, gn, gc, hk, rfl, rfl, HO, HB⟩ := hrel
  by_cases hlt : k < l.length
  ·obtain ⟨b, off, rfl, hbl, hSb, hc⟩ := (HR.out w (Below.refl _ _)).at hlt
   obtain ⟨x0, q0, r0⟩ := hc 0 (by omega)
   obtain ⟨x1, q1, r1⟩ := hc 1 (by omega)
   obtain ⟨x2, q2, r2⟩ := hc 2 (by omega)
   obtain ⟨x3, q3, r3⟩ := hc 3 (by omega)
   have htk : l.take (k + 1) = l.take k ++ [l[k]?.getD en0] := by rw [List.take_succ_eq_append_getElem hlt]; simp [hlt]
   have hnm := HLN.out k hlt
   generalize l[k]?.getD en0 = e at r0 r1 r2 r3 htk hnm
   obtain ⟨nm, ⟨sh, ino, dr⟩⟩ := e
   obtain rfl : x1 = .int .i64 sh := r1
   obtain rfl : x2 = .int .i64 ino := r2
   obtain rfl : x3 = .bool dr := r3
   have r0' : RdV w S x0 (.bytes nm) := r0
   obtain ⟨a0, c0, rfl⟩ := r0'.sliceB
   have HS : Hid (∀ W, Below w.heap.size w W → W.cell? ⟨b, off + k * 4, none⟩ = some (.slice a0 nm.length c0) ∧ W.cell? ⟨b, off + k * 4 + 1, none⟩ = some (.int .i64 sh) ∧ W.cell? ⟨b, off + k * 4 + 2, none⟩ = some (.int .i64 ino) ∧ W.cell? ⟨b, off + k * 4 + 3, none⟩ = some (.bool dr)) := fun W hW => ⟨(hW.cell (p := ⟨b, off + k * 4, none⟩) hbl).trans (by simpa using q0), (hW.cell (p := ⟨b, off + k * 4 + 1, none⟩) hbl).trans q1, (hW.cell (p := ⟨b, off + k * 4 + 2, none⟩) hbl).trans q2, (hW.cell (p := ⟨b, off + k * 4 + 3, none⟩) hbl).trans q3⟩
   have HRB : Hid (∀ W, Below w.heap.size w W → Reads W a0 nm ∧ Headed a0 nm.length c0) := fun W hW => by
    obtain ⟨a', cap', he, hh, hr⟩ := (r0'.step hW).b.reads
    simp only [Value.slice.injEq, true_and] at he
    obtain ⟨rfl, rfl⟩ := he
    exact ⟨hr, hh⟩
   have HZ : Hid (isBytes nm) := r0'.b.1
   have hix : (k : Int) < (l.length : Int) := by omega
   have HTK : Hid _ := htk
   have hsw := HB.out.size
   clear r0 r0' hc htk
   go_wp2
   refine wp_region_noPanic ?_
   refine wp_region_held_drew (S := fun w' => w'.cell? ⟨b, off + k * 4, none⟩ = some (.slice a0 nm.length c0) ∧ w'.cell? ⟨b, off + k * 4 + 1, none⟩ = some (.int .i64 sh) ∧ w'.cell? ⟨b, off + k * 4 + 2, none⟩ = some (.int .i64 ino) ∧ w'.cell? ⟨b, off + k * 4 + 3, none⟩ = some (.bool dr)) (by kernel_rfl) (HS.out _ (HB.out.trans ((Below.drew (Below.refl wr.heap.size wr)).mono HB.out.size))) (fun hHeld => ?_)
   refine wpAnyH_take (i := 0) (v := ?_) rfl (by kernel_rfl) (by kernel_rfl) (by kernel_rfl) (fun _ _ _ h => h) (Or.inl ⟨by rfl, ?_⟩) (by assumption) ?_
   rotate_left
   ·(intro _ h; (try dsimp only at h); go_simp; try with_reducible rfl)
   try simp only [Act.put, qz1, qz2, qz3, qz4, qz5, qz6]
   refine wpAnyH_take (i := 2) (v := ?_) rfl (by kernel_rfl) (by kernel_rfl) (by kernel_rfl) (fun _ _ _ h => h) (Or.inl ⟨by rfl, ?_⟩) (by assumption) ?_
   rotate_left
   ·(intro _ h; (try dsimp only at h); go_simp; try with_reducible rfl)
   try simp only [Act.put, qz1, qz2, qz3, qz4, qz5, qz6]
   refine wpAnyH_take (i := 3) (v := ?_) rfl (by kernel_rfl) (by kernel_rfl) (by kernel_rfl) (fun _ _ _ h => h) (Or.inl ⟨by rfl, ?_⟩) (by assumption) ?_
   rotate_left
   ·(intro _ h; (try dsimp only at h); go_simp; try with_reducible rfl)
   try simp only [Act.put, qz1, qz2, qz3, qz4, qz5, qz6]
   refine wpAnyH_take (i := 4) (v := ?_) rfl (by kernel_rfl) (by kernel_rfl) (by kernel_rfl) (fun _ _ _ h => h) (Or.inl ⟨by rfl, ?_⟩) (by assumption) ?_
   rotate_left
   ·(intro _ h; (try dsimp only at h); go_simp; try with_reducible rfl)
   try simp only [Act.put, qz1, qz2, qz3, qz4, qz5, qz6]
   refine wpAnyH_take (i := 5) (v := ?_) rfl (by kernel_rfl) (by kernel_rfl) (by kernel_rfl) (fun _ _ _ h => h) (Or.inl ⟨by rfl, ?_⟩) (by assumption) ?_
   rotate_left
   ·(intro _ h; (try dsimp only at h); go_simp; try with_reducible rfl)
   try simp only [Act.put, qz1, qz2, qz3, qz4, qz5, qz6]
   refine wpAnyH_take (i := 6) (v := ?_) rfl (by kernel_rfl) (by kernel_rfl) (by kernel_rfl) (fun _ _ _ h => h) (Or.inl ⟨by rfl, ?_⟩) (by assumption) ?_
   rotate_left
   ·(intro _ h; (try dsimp only at h); go_simp; try with_reducible rfl)
   try simp only [Act.put, qz1, qz2, qz3, qz4, qz5, qz6]
   refine wpAnyH_take (i := 8) (v := ?_) rfl (by kernel_rfl) (by kernel_rfl) (by kernel_rfl) (fun _ _ _ h => h) (Or.inl ⟨by rfl, ?_⟩) (by assumption) ?_
   rotate_left
   ·(intro _ h; (try dsimp only at h); go_simp; try with_reducible rfl)
   try simp only [Act.put, qz1, qz2, qz3, qz4, qz5, qz6]
   refine wpAnyH_take (i := 9) (v := ?_) rfl (by kernel_rfl) (by kernel_rfl) (by kernel_rfl) (fun _ _ _ h => h) (Or.inl ⟨by rfl, ?_⟩) (by assumption) ?_
   rotate_left
   ·(intro _ h; (try dsimp only at h); go_simp; try with_reducible rfl)
   try simp only [Act.put, qz1, qz2, qz3, qz4, qz5, qz6]
   refine wpAnyH_take (i := 10) (v := ?_) rfl (by kernel_rfl) (by kernel_rfl) (by kernel_rfl) (fun _ _ _ h => h) (Or.inl ⟨by rfl, ?_⟩) (by assumption) ?_
   rotate_left
   ·(intro _ h; (try dsimp only at h); go_simp; try with_reducible rfl)
   try simp only [Act.put, qz1, qz2, qz3, qz4, qz5, qz6]
   refine wpAnyH_take (i := 11) (v := ?_) rfl (by kernel_rfl) (by kernel_rfl) (by kernel_rfl) (fun _ _ _ h => h) (Or.inl ⟨by rfl, ?_⟩) (by assumption) ?_
   rotate_left
   ·(intro _ h; (try dsimp only at h); go_simp; try with_reducible rfl)
   try simp only [Act.put, qz1, qz2, qz3, qz4, qz5, qz6]
   refine wpAnyH_take (i := 12) (v := ?_) rfl (by kernel_rfl) (by kernel_rfl) (by kernel_rfl) (fun _ _ _ h => h) (Or.inl ⟨by rfl, ?_⟩) (by assumption) ?_
   rotate_left
   ·(intro _ h; (try dsimp only at h); go_simp; try with_reducible rfl)
   try simp only [Act.put, qz1, qz2, qz3, qz4, qz5, qz6]
   refine wpAnyH_ready (rs := [1]) (by kernel_rfl) (by simp) ?_
   refine AllReadyH.cons rfl (fun K hK => ?_) AllReadyH.nil
   go_simp
   have b5 : Below wr.heap.size wr (wr.drew.alloc (.cells #[] 5)) := Below.alloc (Below.drew (Below.refl wr.heap.size wr)) (Nat.le_refl _) _
   refine hK.out _ _ (HS.out _ (HB.out.trans (b5.mono HB.out.size))) (fun hHeld => ?_)
   clear hK K
   try simp only [Act.put, qz1, qz2, qz3, qz4, qz5, qz6]
   refine wpAnyH_ready (rs := [7]) (by kernel_rfl) (by simp) ?_
   refine AllReadyH.cons rfl (fun K hK => ?_) AllReadyH.nil
   refine step_appS rfl (.tmp 12) (.tmp 17) (by rfl) wr.heap.size _ [] nm (by rfl) (owns_empty wr.drew) a0 nm.length c0 (by rfl) rfl (HRB.out _ (HB.out.trans (b5.mono HB.out.size))).1 (by simp) (by omega) (by simp) (fun h => (HRB.out _ (HB.out.trans (b5.mono HB.out.size))).2.2.2 h) ?_
   intro v6 w6 ho6 hg6
   rw [List.nil_append] at ho6
   obtain ⟨ua, uc, rfl, _⟩ := ho6.shape
   have b6 : Below wr.heap.size wr w6 := Below.grown b5 hg6 (by simp) (fun q hq => ((owns_empty wr.drew).lt q hq).1)
   have s6 := b6.size
   refine hK.out _ _ (HS.out _ (HB.out.trans (b6.mono HB.out.size))) (fun hHeld => ?_)
   clear hK K
   try simp only [Act.put, qz1, qz2, qz3, qz4, qz5, qz6]
   refine wpAnyH_take (i := 13) (v := ?_) rfl (by kernel_rfl) (by kernel_rfl) (by kernel_rfl) (fun _ _ _ h => h) (Or.inl ⟨by rfl, ?_⟩) (by assumption) ?_
   rotate_left
   ·(intro _ h; (try dsimp only at h); go_simp; try with_reducible rfl)
   try simp only [Act.put, qz1, qz2, qz3, qz4, qz5, qz6]
   refine wpAnyH_ready (rs := [14]) (by kernel_rfl) (by simp) ?_
   refine AllReadyH.cons rfl (fun K hK => ?_) AllReadyH.nil
   go_simp
   have b7 : Below wr.heap.size wr (w6.alloc (.cells #[.slice ua nm.length uc, .int .i64 sh, .int .i64 ino, .bool dr] 139)) := Below.alloc b6 s6 _
   refine hK.out _ _ (HS.out _ (HB.out.trans (b7.mono HB.out.size))) (fun hHeld => ?_)
   clear hK K
   try simp only [Act.put, qz1, qz2, qz3, qz4, qz5, qz6]
   refine wpAnyH_ready (rs := [15]) (by kernel_rfl) (by simp) ?_
   refine AllReadyH.cons rfl (fun K hK => ?_) AllReadyH.nil
   refine step_appEn (w6.alloc (.cells #[.slice ua nm.length uc, .int .i64 sh, .int .i64 ino, .bool dr] 139)) rfl (.tmp 11) (.tmp 25) (by rfl) _ (by rfl) (l.take k) ⟨nm, (sh, ino, dr)⟩ (.slice ua nm.length uc) w.heap.size wr.heap.size w6.heap.size w6.heap.size (by rfl) rfl (0, 0) (heap_alloc_new _ _) (OwV.step HO.out b7) (OwV.step (OwV.mono (fun q hq => hq) (OwV.ofOwns HZ.out ho6)) (Below.newH _)) (by simp) s6 hsw (by rw [List.length_take]; omega) ?_
   intro g8 n8 c8 w8 ho8 t8
   have s8 := t8.size
   rw [World.size_alloc] at s8
   have HB8 : Below w.heap.size w w8 := Turned.below (HB.out.trans (b7.mono HB.out.size)) t8 (by have := HB.out.size; simp; omega) (fun i hi => hi.1)
   refine hK.out _ _ (HS.out _ HB8) (fun hHeld => ?_)
   clear hK K
   try simp only [Act.put, qz1, qz2, qz3, qz4, qz5, qz6]
   refine wpAnyH_take (i := 16) (v := ?_) rfl (by kernel_rfl) (by kernel_rfl) (by kernel_rfl) (fun _ _ _ h => h) (Or.inl ⟨by rfl, ?_⟩) (by assumption) ?_
   rotate_left
   ·(intro _ h; (try dsimp only at h); go_simp; try with_reducible rfl)
   try simp only [Act.put, qz1, qz2, qz3, qz4, qz5, qz6]
   refine wpAnyH_done (by kernel_rfl) (NoPanic.normal ?_) _
   clear hHeld
   rw [← HTK.out] at ho8
   have HO8 : Hid (OwV w8 _ _ _) := ho8
   have HB9 : Hid (Below w.heap.size w w8) := HB8
   clear ho8 HB8 t8 b5 b6 b7 ho6 hg6
   go_wp2
   refine ⟨⟨k + 1, g8, n8, c8, by omega, by go_num, rfl, HO8, HB9⟩, by simp [intOf]; omega⟩
  ·have he : k = l.length := by omega
   subst he
   rw [List.take_length] at HO
   go_wp2
   go_ret
   exact ⟨_, _, _, rfl, HO.out, HB.out⟩
end
section
def ndVal (n : Nd) (x : Value) : Nat → Value
 | 0 => .int .i64 n.h.sh
 | 1 => .int .i64 n.h.ino
 | 2 => .bool n.h.dir
 | 3 => .int .i64 n.par.sh
 | 4 => .int .i64 n.par.ino
 | 5 => .bool n.par.dir
 | 6 => .int .i64 n.links
 | 7 => .int .i64 n.val
 | _ => x
def Ent (w : World) (lo : Nat) (v : Value) : Nat → Prop := fun b => lo ≤ b ∧ b < w.heap.size ∧ v.ownBlock ≠ some b
def SN (w : World) (lo : Nat) (v : Value) (l : List Nd) : Prop :=
 ∃ (V : Nat → Value) (C : List Value), w.ownsRow lo 133 9 v l.length C ∧ (∀ i j, i < l.length → j < 9 → C[i * 9 + j]? = some (ndVal (l[i]?.getD nd0) (V i) j)) ∧ ∀ i, i < l.length → RdV w (Ent w lo v) (V i) (ensDt (l[i]?.getD nd0).es)
theorem SN.nil (w : World) (lo : Nat) : SN w lo (.slice none 0 0) [] :=
 ⟨fun _ => undef, [], World.ownsRow_nil _ _ _ _, fun i j hi => absurd hi (Nat.not_lt_zero _), fun i hi => absurd hi (Nat.not_lt_zero _)⟩
theorem SN.lt {w : World} {lo : Nat} {v : Value} {l : List Nd} (s : SN w lo v l) : ∀ b, v.ownBlock = some b → lo ≤ b ∧ b < w.heap.size := by
 obtain ⟨V, C, h1, h2, h3⟩ := s
 exact fun b hb => h1.lt b hb
theorem SN.keep {w w' : World} {lo : Nat} {v : Value} {l : List Nd} (s : SN w lo v l) (t : Keeps (fun b => lo ≤ b ∧ b < w.heap.size) w w') : SN w' lo v l := by
 have hb := s.lt
 obtain ⟨V, C, h1, h2, h3⟩ := s
 exact ⟨V, C, ownsRow_keep h1 hb t, h2, fun i hi => RdV.mono (fun b hb => ⟨hb.1, Nat.lt_of_lt_of_le hb.2.1 t.1, hb.2.2⟩) (RdV.keep (t.mono (fun b hb => ⟨hb.1, hb.2.1⟩)) (h3 i hi))⟩
theorem SN.step {w w' : World} {lo : Nat} {v : Value} {l : List Nd} (s : SN w lo v l) (hb : Below w.heap.size w w') : SN w' lo v l := s.keep (Keeps.ofBelow hb)
theorem SN.grow {w w' : World} {lo g cap : Nat} {v x : Value} {l : List Nd} {n : Nd} (hx : RdV w (Ent w lo v) x (ensDt n.es)) (V : Nat → Value) (C : List Value) (h1 : w.ownsRow lo 133 9 v l.length C)
  (h2 : ∀ i j, i < l.length → j < 9 → C[i * 9 + j]? = some (ndVal (l[i]?.getD nd0) (V i) j)) (h3 : ∀ i, i < l.length → RdV w (Ent w lo v) (V i) (ensDt (l[i]?.getD nd0).es))
  (ho : w'.ownsRow lo 133 9 (.slice (some ⟨g, 0, none⟩) (l.length + 1) cap) (l.length + 1) (C ++ [.int .i64 n.h.sh, .int .i64 n.h.ino, .bool n.h.dir, .int .i64 n.par.sh, .int .i64 n.par.ino, .bool n.par.dir, .int .i64 n.links, .int .i64 n.val, x]))
  (hg : w.grownBy w' v.ownBlock) (hgg : v.ownBlock = some g ∨ g = w.heap.size) : SN w' lo (.slice (some ⟨g, 0, none⟩) (l.length + 1) cap) (l ++ [n]) := by
 have hsz := hg.size
 have hCl : C.length = l.length * 9 := h1.1
 have hln : (l ++ [n]).length = l.length + 1 := by simp
 have hrd : ∀ (y : Value) (es : List En), RdV w (Ent w lo v) y (ensDt es) → RdV w' (Ent w' lo (.slice (some ⟨g, 0, none⟩) (l.length + 1) cap)) y (ensDt es) := fun y es r =>
  RdV.mono (fun b hb => ⟨hb.1, by have := hb.2.1; omega, fun e => by
   have e' : g = b := by simpa [Value.ownBlock] using e
   rcases hgg with h | h
   ·exact hb.2.2 (by rw [h, e'])
   ·have := hb.2.1; omega⟩) (RdV.keep ⟨hsz, fun b hb hlt => hg.block b hlt (fun h => hb.2.2 h.symm)⟩ r)
 refine ⟨fun i => if i < l.length then V i else x, _, by rw [hln]; exact ho, fun i j hi hj => ?_, fun i hi => ?_⟩
 ·rw [hln] at hi
  by_cases hlt : i < l.length
  ·simp only [hlt, if_true]
   rw [List.getElem?_append_left (by rw [hCl]; exact place_lt hlt hj), List.getElem?_append_left hlt]
   exact h2 i j hlt hj
  ·obtain rfl : i = l.length := by omega
   simp only [Nat.lt_irrefl, if_false]
   rw [List.getElem?_append_right (by omega), hCl, show l.length * 9 + j - l.length * 9 = j by omega, show (l ++ [n])[l.length]?.getD nd0 = n by simp]
   match j, hj with
   | 0, _ => rfl
   | 1, _ => rfl
   | 2, _ => rfl
   | 3, _ => rfl
   | 4, _ => rfl
   | 5, _ => rfl
   | 6, _ => rfl
   | 7, _ => rfl
   | 8, _ => rfl
 ·rw [hln] at hi
  by_cases hlt : i < l.length
  ·simp only [hlt, if_true]
   rw [List.getElem?_append_left hlt]
   exact hrd _ _ (h3 i hlt)
  ·obtain rfl : i = l.length := by omega
   simp only [Nat.lt_irrefl, if_false]
   rw [show (l ++ [n])[l.length]?.getD nd0 = n by simp]
   exact hrd _ _ hx
theorem step_appNd {ops : Array Oper} {o : Oper} {a : Act} {K : Act → World → Prop} {Q : Exit → Act → World → Prop} {E : Prop} (w : World) (hgd : o.guard = none) (s x : Operand)
  (ho : o.op = .call { callee := .builtin .append, args := #[s, x], argTypes := #[53, 53] })
  (v : Value) (hs : a.eval s = v) (l : List Nd) (n : Nd) (u : Value) (lo q : Nat) (hx : a.eval x = .slice (some ⟨q, 0, none⟩) 1 1) (hone : u.oneCell' = true) (fr : Nat × Nat)
  (hq : w.heap[q]? = some (.cells #[.int .i64 n.h.sh, .int .i64 n.h.ino, .bool n.h.dir, .int .i64 n.par.sh, .int .i64 n.par.ino, .bool n.par.dir, .int .i64 n.links, .int .i64 n.val, u] 133 fr))
  (hown : SN w lo v l) (hu : RdV w (Ent w lo v) u (ensDt n.es)) (hlo : lo ≤ w.heap.size) (hl : l.length ≤ 4000)
  (h : ∀ g m cap w', SN w' lo (.slice g m cap) (l ++ [n]) → w.grownBy w' v.ownBlock → K (a.put o.dst (.slice g m cap)) w') : if Region.wanted o (yielded ops a.tmps) = true then Oper.wp Tryz.prog o a w K Q else E := by
 obtain ⟨i0, hi0, hz0, hz1, hz2⟩ := info_parts Tryz.infoNd
 obtain ⟨V, C, h1, h2, h3⟩ := hown
 refine step_append_lies w hgd s x 53 ho lo 133 i0 _ 9 _ Tryz.underlying53 hi0 hz0 hz1 hz2 rfl (by decide) v l.length C hs h1 ⟨q, 0, none⟩ 1 1 [.int .i64 n.h.sh, .int .i64 n.h.ino, .bool n.h.dir, .int .i64 n.par.sh, .int .i64 n.par.ino, .bool n.par.dir, .int .i64 n.links, .int .i64 n.val, u] hx rfl (World.news_of_block hq) (fun y hy => ?_) (by decide) (by unfold maxLen; omega) (by omega) hlo w.heap.size rfl ?_
 ·simp only [List.mem_cons, List.not_mem_nil, or_false] at hy
  rcases hy with rfl | rfl | rfl | rfl | rfl | rfl | rfl | rfl | rfl <;> first | exact hone | rfl
 intro g cap w' ho' hg hgg hgl
 exact h _ _ _ w' (SN.grow hu V C h1 h2 h3 ho' hg hgg) hg
theorem wpList_appNd {ops : Array Oper} {rest : List Oper} {o : Oper} {a : Act} {Q : Exit → Act → World → Prop} (w : World) (hgd : o.guard = none) (s x : Operand)
  (ho : o.op = .call { callee := .builtin .append, args := #[s, x], argTypes := #[53, 53] })
  (v : Value) (hs : a.eval s = v) (l : List Nd) (n : Nd) (u : Value) (lo q : Nat) (hx : a.eval x = .slice (some ⟨q, 0, none⟩) 1 1) (hone : u.oneCell' = true) (fr : Nat × Nat)
  (hq : w.heap[q]? = some (.cells #[.int .i64 n.h.sh, .int .i64 n.h.ino, .bool n.h.dir, .int .i64 n.par.sh, .int .i64 n.par.ino, .bool n.par.dir, .int .i64 n.links, .int .i64 n.val, u] 133 fr))
  (hown : SN w lo v l) (hu : RdV w (Ent w lo v) u (ensDt n.es)) (hlo : lo ≤ w.heap.size) (hl : l.length ≤ 4000)
  (h : ∀ g m cap w', SN w' lo (.slice g m cap) (l ++ [n]) → w.grownBy w' v.ownBlock → wpList Tryz.prog ops Q rest (a.put o.dst (.slice g m cap)) w') : wpList Tryz.prog ops Q (o :: rest) a w := by
 obtain ⟨i0, hi0, hz0, hz1, hz2⟩ := info_parts Tryz.infoNd
 obtain ⟨V, C, h1, h2, h3⟩ := hown
 refine wpList_append_lies w hgd s x 53 ho lo 133 i0 _ 9 _ Tryz.underlying53 hi0 hz0 hz1 hz2 rfl (by decide) v l.length C hs h1 ⟨q, 0, none⟩ 1 1 [.int .i64 n.h.sh, .int .i64 n.h.ino, .bool n.h.dir, .int .i64 n.par.sh, .int .i64 n.par.ino, .bool n.par.dir, .int .i64 n.links, .int .i64 n.val, u] hx rfl (World.news_of_block hq) (fun y hy => ?_) (by decide) (by unfold maxLen; omega) (by omega) hlo w.heap.size rfl ?_
 ·simp only [List.mem_cons, List.not_mem_nil, or_false] at hy
  rcases hy with rfl | rfl | rfl | rfl | rfl | rfl | rfl | rfl | rfl <;> first | exact hone | rfl
 intro g cap w' ho' hg hgg hgl
 exact h _ _ _ w' (SN.grow hu V C h1 h2 h3 ho' hg hgg) hg
end
section
theorem SN.low {w : World} {lo lo' : Nat} {v : Value} {l : List Nd} (s : SN w lo v l) (h : lo' ≤ lo) : SN w lo' v l := by
 obtain ⟨V, C, h1, h2, h3⟩ := s
 exact ⟨V, C, ⟨h1.1, h1.2.imp id (fun ⟨g, c, cur, hv, hg, r⟩ => ⟨g, c, cur, hv, Nat.le_trans h hg, r⟩)⟩, h2, fun i hi => RdV.mono (fun b hb => ⟨Nat.le_trans h hb.1, hb.2⟩) (h3 i hi)⟩

def CpRel (w : World) (v : Value) (l : List Nd) (i : Value) (wr : World) : Prop :=
 ∃ (k : Nat) (ga : Option Addr) (gn gc : Nat), k ≤ l.length ∧ i = .int .i64 k ∧ VarA wr w.heap.size 55 #[v] ∧ VarA wr (w.heap.size + 1) 55 #[.slice none 0 0] ∧ VarA wr (w.heap.size + 1 + 1) 55 #[.slice ga gn gc] ∧ SN wr (w.heap.size + 3) (.slice ga gn gc) (l.take k) ∧ Below w.heap.size w wr ∧ w.heap.size + 3 ≤ wr.heap.size
set_option maxHeartbeats 4000000 in
theorem specCopy4_any (v : Value) (l : List Nd) (S : Nat → Prop) (w : World) (r : RdV w S v (ndsDt l)) (hl : szNds l ≤ 2097152) (hn : l.length ≤ 4000) (hes : ∀ i : Nat, (l[i]?.getD nd0).es.length ≤ 4000) :
  Calls Tryz.prog 113 #[.agg #[v]] w fun e w' => ∃ a n c, e = .returned (.agg #[.slice a n c]) ∧ SN w' w.heap.size (.slice a n c) l ∧ Below w.heap.size w w' := by
 obtain ⟨a, cap, rfl, _⟩ := RdV.sliced r
 have HR : Hid (∀ W, Below w.heap.size w W → RdV W S (.slice a l.length cap) (ndsDt l)) := fun W hW => r.step hW
 clear r
 go_enter Tryz.func113, Tryz.ntmps113
 go_wp2
 go_loopw [4] (fun i wr => CpRel w (.slice a l.length cap) l i wr) (fun i _ => l.length - (intOf i).toNat)
 case atStart =>
  refine ⟨0, none, 0, 0, Nat.zero_le _, rfl, ((VarA.new w _ _).alloc _).alloc _, ?_, ?_, by rw [List.take_zero]; exact SN.nil _ _, (((Below.refl _ _).alloc (Nat.le_refl _) _).alloc (by simp) _).alloc (by simp; omega) _, by simp⟩
  ·have := (VarA.new (w.alloc (.cells #[.slice a l.length cap] 55)) 55 #[.slice none 0 0]).alloc (.cells #[.slice none 0 0] 55)
   simpa using this
  ·have := VarA.new ((w.alloc (.cells #[.slice a l.length cap] 55)).alloc (.cells #[.slice none 0 0] 55)) 55 #[.slice none 0 0]
   simpa using this
 case round =>
  obtain ⟨k, ga, gn, gc, hk, rfl, vT, vR, vO, sn, bw, hsz⟩ := hrel
  have t0 := vT.c 0 rfl
  by_cases hlt : k < l.length
  ·obtain ⟨b, off, rfl, hbl, hSb, hc⟩ := (HR.out w (Below.refl _ _)).at hlt
   have htk : l.take (k + 1) = l.take k ++ [l[k]?.getD nd0] := by rw [List.take_succ_eq_append_getElem hlt]; simp [hlt]
   have hel := hes k
   have hzn : szEns (l[k]?.getD nd0).es ≤ 2097152 := Nat.le_trans (szNds_at l k) hl
   obtain ⟨x0, q0, r0⟩ := hc 0 (by omega)
   obtain ⟨x1, q1, r1⟩ := hc 1 (by omega)
   obtain ⟨x2, q2, r2⟩ := hc 2 (by omega)
   obtain ⟨x3, q3, r3⟩ := hc 3 (by omega)
   obtain ⟨x4, q4, r4⟩ := hc 4 (by omega)
   obtain ⟨x5, q5, r5⟩ := hc 5 (by omega)
   obtain ⟨x6, q6, r6⟩ := hc 6 (by omega)
   obtain ⟨x7, q7, r7⟩ := hc 7 (by omega)
   obtain ⟨x8, q8, r8⟩ := hc 8 (by omega)
   generalize l[k]?.getD nd0 = nd at r0 r1 r2 r3 r4 r5 r6 r7 r8 htk hel hzn
   obtain ⟨⟨s0, s1, s2⟩, ⟨s3, s4, s5⟩, lk, vl, es⟩ := nd
   obtain rfl : x0 = .int .i64 s0 := r0
   obtain rfl : x1 = .int .i64 s1 := r1
   obtain rfl : x2 = .bool s2 := r2
   obtain rfl : x3 = .int .i64 s3 := r3
   obtain rfl : x4 = .int .i64 s4 := r4
   obtain rfl : x5 = .bool s5 := r5
   obtain rfl : x6 = .int .i64 lk := r6
   obtain rfl : x7 = .int .i64 vl := r7
   have r8' : RdV w S x8 (ensDt es) := r8
   obtain ⟨xa, xc, rfl, _⟩ := RdV.sliced r8'
   have HCE : Hid (∀ W, Below w.heap.size w W → _) := fun W hW => specCopyEn_any _ es S W (r8'.step hW) hzn hel
   have p0 := (bw.cell (p := ⟨b, off + k * 9 + 0, none⟩) hbl).trans q0
   have p1 := (bw.cell (p := ⟨b, off + k * 9 + 1, none⟩) hbl).trans q1
   have p2 := (bw.cell (p := ⟨b, off + k * 9 + 2, none⟩) hbl).trans q2
   have p3 := (bw.cell (p := ⟨b, off + k * 9 + 3, none⟩) hbl).trans q3
   have p4 := (bw.cell (p := ⟨b, off + k * 9 + 4, none⟩) hbl).trans q4
   have p5 := (bw.cell (p := ⟨b, off + k * 9 + 5, none⟩) hbl).trans q5
   have p6 := (bw.cell (p := ⟨b, off + k * 9 + 6, none⟩) hbl).trans q6
   have p7 := (bw.cell (p := ⟨b, off + k * 9 + 7, none⟩) hbl).trans q7
   have p8 := (bw.cell (p := ⟨b, off + k * 9 + 8, none⟩) hbl).trans q8
   rw [Nat.add_zero] at p0
   have HSN : Hid (SN wr (w.heap.size + 3) (.slice ga gn gc) (l.take k)) := sn
   have HBW : Hid (Below w.heap.size w wr) := bw
   have HVT : Hid (VarA wr w.heap.size 55 _) := vT
   have HVR : Hid (VarA wr (w.heap.size + 1) 55 _) := vR
   have HVO : Hid (VarA wr (w.heap.size + 1 + 1) 55 _) := vO
   have HTK : Hid _ := htk
   clear q0 q1 q2 q3 q4 q5 q6 q7 q8 r8 r8' hc vT vR vO sn bw htk
   go_wp2_with fail
   refine Calls.mono (HCE.out _ (HBW.out.alloc HBW.out.size _)) ?_
   rintro e w6 ⟨ea, en, ec, rfl, oE, b6⟩
   have s6 := b6.size
   rw [World.size_alloc] at s6
   have vN : VarA w6 wr.heap.size 133 _ := (VarA.new wr 133 #[.int .i64 s0, .int .i64 s1, .bool s2, .int .i64 s3, .int .i64 s4, .bool s5, .int .i64 lk, .int .i64 vl, .slice xa es.length xc]).step b6
   have b6' : Below wr.heap.size wr w6 := (Below.newH (w := wr) _).trans (b6.mono (by simp))
   have n0 := vN.c 0 rfl
   have n1 := vN.c 1 rfl
   have n2 := vN.c 2 rfl
   have n3 := vN.c 3 rfl
   have n4 := vN.c 4 rfl
   have n5 := vN.c 5 rfl
   have n6 := vN.c 6 rfl
   have n7 := vN.c 7 rfl
   have n8 := vN.c 8 rfl
   have nf := vN.fz
   have o0 := (HVO.out.step b6').c 0 rfl
   have hvo := HVO.out.lt
   have B8 : Below wr.heap.size wr ((w6.setCell ⟨wr.heap.size, 8, none⟩ (.slice ea en ec)).alloc (.cells #[.int .i64 s0, .int .i64 s1, .bool s2, .int .i64 s3, .int .i64 s4, .bool s5, .int .i64 lk, .int .i64 vl, .slice ea en ec] 133)) := (b6'.setCell (Nat.le_refl _) _).alloc (by simp; omega) _
   have SN8 := HSN.out.step B8
   have hvb := HSN.out.lt
   have RE8 : RdV ((w6.setCell ⟨wr.heap.size, 8, none⟩ (.slice ea en ec)).alloc (.cells #[.int .i64 s0, .int .i64 s1, .bool s2, .int .i64 s3, .int .i64 s4, .bool s5, .int .i64 lk, .int .i64 vl, .slice ea en ec] 133)) (Ent ((w6.setCell ⟨wr.heap.size, 8, none⟩ (.slice ea en ec)).alloc (.cells #[.int .i64 s0, .int .i64 s1, .bool s2, .int .i64 s3, .int .i64 s4, .bool s5, .int .i64 lk, .int .i64 vl, .slice ea en ec] 133)) (w.heap.size + 3) (.slice ga gn gc)) (.slice ea en ec) (ensDt es) := by
    refine RdV.mono (fun q hq => ?_) (RdV.keep ?_ (OwV.rd oE))
    ·simp at hq
     exact ⟨by omega, by simp; omega, fun h => by have := hvb q h; omega⟩
    ·refine ⟨by simp, fun q hq hlt => ?_⟩
     simp at hq
     rw [Below.heap_alloc _ _ q (by simpa using hlt), heap_setCell_other _ _ _ _ (by show q ≠ wr.heap.size; omega)]
   have HSN8 : Hid _ := SN8
   have HRE8 : Hid _ := RE8
   have HB8 : Hid _ := B8
   have hkl : (l.take k).length ≤ 4000 := by rw [List.length_take]; omega
   clear SN8 RE8 B8 oE b6 vN HCE p0 p1 p2 p3 p4 p5 p6 p7 p8
   go_wp2_with (at_builtin; go_must (refine wpList_appNd _ rfl (.tmp 23) (.tmp 25) rfl _ rfl (l.take k) ⟨(s0, s1, s2), (s3, s4, s5), lk, vl, es⟩ (.slice ea en ec) (w.heap.size + 3) w6.heap.size rfl rfl (0, 0) (by have := heap_alloc_new (w6.setCell ⟨wr.heap.size, 8, none⟩ (.slice ea en ec)) (.cells #[.int .i64 s0, .int .i64 s1, .bool s2, .int .i64 s3, .int .i64 s4, .bool s5, .int .i64 lk, .int .i64 vl, .slice ea en ec] 133); simpa using this) HSN8.out HRE8.out (by simp; omega) hkl ?_; intro g9 m9 c9 w9 sn9 hg9; have vO9 : VarA w9 (w.heap.size + 1 + 1) 55 #[.slice ga gn gc] := (hg9.block _ (by simp; omega) (fun h => by have := hvb _ h.symm; omega)).trans (HVO.out.step HB8.out); have z0 := vO9.c 0 rfl; have zf := vO9.fz))
   have s9 := hg9.size
   simp at s9
   have blk : ∀ q, q < wr.heap.size → q < w.heap.size + 3 → w9.heap[q]? = wr.heap[q]? := fun q hq hq3 => (hg9.block q (by simp; omega) (fun h => by have := hvb _ h.symm; omega)).trans (HB8.out.block q hq)
   have B9 : Below w.heap.size w w9 := Below.grown (HBW.out.trans (HB8.out.mono HBW.out.size)) hg9 (by have := HB8.out.size; omega) (fun q hq => by have := hvb q hq; omega)
   rw [← HTK.out] at sn9
   refine ⟨⟨k + 1, g9, m9, c9, by omega, by go_num, VarA.aside ((blk _ (by omega) (by omega)).trans HVT.out) (by show w.heap.size ≠ w.heap.size + 1 + 1; omega) _, VarA.aside ((blk _ (by omega) (by omega)).trans HVR.out) (by show w.heap.size + 1 ≠ w.heap.size + 1 + 1; omega) _, vO9.set 0 _, sn9.keep ⟨by simp, fun q hq _ => heap_setCell_other _ _ _ _ (by show q ≠ w.heap.size + 1 + 1; omega)⟩, B9.setCell (by show w.heap.size ≤ w.heap.size + 1 + 1; omega) _, by simp; omega⟩, by simp [intOf]; omega⟩
  ·have he : k = l.length := by omega
   subst he
   rw [List.take_length] at sn
   have r0 := vR.c 0 rfl
   have rf := vR.fz
   have o0 := vO.c 0 rfl
   have HSN : Hid _ := sn
   have HBW : Hid _ := bw
   clear vT vR vO sn bw
   go_wp2
   refine bodyPost_ret (v := .agg #[.slice ga gn gc]) (by simp [results, Tryz.results113, go_sem, r0]) rfl ⟨_, _, _, rfl, SN.low (SN.keep HSN.out ⟨by simp, fun q hq _ => heap_setCell_other _ _ _ _ (by show q ≠ w.heap.size + 1; omega)⟩) (by omega), HBW.out.setCell (by show w.heap.size ≤ w.heap.size + 1; omega) _⟩
end
section
theorem SN.rd {w : World} {lo : Nat} {v : Value} {l : List Nd} (s : SN w lo v l) : RdV w (fun b => lo ≤ b ∧ b < w.heap.size) v (ndsDt l) := by
 obtain ⟨V, C, h1, h2, h3⟩ := s
 unfold ndsDt
 refine RdV.mkRows _ ?_
 rcases h1.2 with ⟨hv, h0⟩ | ⟨g, c, cur, hv, hg, hh, hnc, hm, _⟩
 ·subst hv
  rw [h0]
  exact ⟨none, 0, fun _ _ => undef, rfl, ⟨Nat.le_refl _, Nat.zero_le _, fun _ => ⟨rfl, rfl⟩⟩, .inl rfl, fun i j hi => absurd hi (Nat.not_lt_zero _)⟩
 ·subst hv
  refine ⟨some ⟨g, 0, none⟩, c, fun i j => ndVal (l[i]?.getD nd0) (V i) j, rfl, ⟨hnc, hm, fun e => by cases e⟩, .inr ⟨g, 0, rfl, ⟨hg, lt_of_block hh⟩, lt_of_block hh, fun i j hi hj => ?_⟩, fun i j hi hj => ?_⟩
  ·rw [Nat.zero_add, World.ownsRow.cellAt h1 (i * 9 + j) (place_lt hi hj)]
   exact h2 i j hi hj
  ·match j, hj with
   | 0, _ => rfl
   | 1, _ => rfl
   | 2, _ => rfl
   | 3, _ => rfl
   | 4, _ => rfl
   | 5, _ => rfl
   | 6, _ => rfl
   | 7, _ => rfl
   | 8, _ => exact RdV.mono (fun b hb => ⟨hb.1, hb.2.1⟩) (h3 i hi)

def refD (es : List En) (nm : List Int) : Int := if 0 ≤ findE es nm then 4 else if 12 ≤ es.length then 5 else 0
set_option maxHeartbeats 2000000 in
theorem specRefuse_any (x y : Value) (n : Nd) (nm : List Int) (S S2 : Nat → Prop) (w : World) (r : RdV w S x (ensDt n.es)) (r2 : RdV w S2 y (.bytes nm)) (hl : n.es.length ≤ 2097152) :
  Calls Tryz.prog 191 #[ndV n x, y] w fun e w' => e = .returned (.int .i64 (refD n.es nm)) ∧ Below w.heap.size w w' := by
 have HE : Hid (∀ W, Below w.heap.size w W → _) := fun W hW => specEntry_any x y n nm S S2 W (r.step hW) (r2.step hW) hl
 obtain ⟨a, cap, rfl, _⟩ := RdV.sliced r
 obtain ⟨ya, yc, rfl⟩ := r2.sliceB
 obtain ⟨⟨p, q, d⟩, ⟨p2, q2, d2⟩, lk, vl, es⟩ := n
 unfold refD
 dsimp only at HE hl ⊢
 generalize findE es nm = f at HE ⊢
 generalize es.length = en at *
 clear r r2
 go_enter Tryz.func191, Tryz.ntmps191
 go_wp2_with fail
 refine Calls.mono (HE.out _ (Below.newH _)) ?_
 rintro e w2 ⟨rfl, b_⟩
 have vA := (VarA.new w _ _).step b_
 have HB : Hid (Below w.heap.size w w2) := (Below.newH (w := w) _).trans (b_.mono (by simp))
 have c8 := vA.c 8 rfl
 clear b_ vA
 go_wp2
 all_goals (go_ret; refine ⟨?_, HB.out⟩; first | rfl | (simp_all; done) | (simp_all; omega))
end
section
def undN (l : List Nd) (by' : Hd) : Nat → Hd → Int
 | 0, _ => 2
 | f + 1, h => if h = by' then 1 else if h = rootH then 0 else if fi l h < l.length then undN l by' f (l[fi l h]?.getD nd0).par else 0

theorem decH_f {p q s i : Int} {d e : Bool} (h : ¬ ((p, q, d) : Hd) = (s, i, e)) : decide (p = s ∧ q = i ∧ d = e) = false := by
 rw [decide_eq_false_iff_not]
 rintro ⟨rfl, rfl, rfl⟩
 exact h rfl
theorem decH_t {p q s i : Int} {d e : Bool} (h : ((p, q, d) : Hd) = (s, i, e)) : decide (p = s ∧ q = i ∧ d = e) = true := by
 rw [decide_eq_true_iff]
 simp only [Prod.mk.injEq] at h
 exact h
def UnRel (w : World) (v : Value) (l : List Nd) (by' : Hd) (res : Int) (i : Value) (wr : World) : Prop :=
 ∃ (k : Nat) (h : Hd), k ≤ 12 ∧ i = .int .i64 k ∧ VarA wr w.heap.size 55 #[v] ∧ VarA wr (w.heap.size + 1) 24 #[.int .i64 h.sh, .int .i64 h.ino, .bool h.dir] ∧ VarA wr (w.heap.size + 1 + 1) 24 #[.int .i64 by'.sh, .int .i64 by'.ino, .bool by'.dir] ∧ Below w.heap.size w wr ∧ undN l by' (12 - k) h = res
set_option maxHeartbeats 4000000 in
theorem specUnder_any (x : Value) (l : List Nd) (h0 by' : Hd) (S : Nat → Prop) (w : World) (r : RdV w S x (ndsDt l)) (hl : l.length ≤ 2097152) :
  Calls Tryz.prog 238 #[.agg #[x], h0.v, by'.v] w fun e w' => e = .returned (.int .i64 (undN l by' 12 h0)) ∧ Below w.heap.size w w' := by
 obtain ⟨a, cap, rfl, _⟩ := RdV.sliced r
 have HR : Hid (∀ W, Below w.heap.size w W → RdV W S (.slice a l.length cap) (.rows 133 9 l.length (fun i j => ndCell (l[i]?.getD nd0) j))) := RdV.old r
 have HFI : Hid (∀ h W, Below w.heap.size w W → _) := fun h W hW => specFind_any _ l h S W (RdV.step r hW) hl
 have HRT : Hid (∀ W, _) := fun W => specRootH_any W
 obtain ⟨res, hres⟩ : ∃ res, undN l by' 12 h0 = res := ⟨_, rfl⟩
 rw [hres]
 have HRES : Hid _ := hres
 clear r hres
 obtain ⟨p, q, d⟩ := h0
 obtain ⟨p2, q2, d2⟩ := by'
 go_enter Tryz.func238, Tryz.ntmps238
 go_wp2
 go_loopw [7] (fun i wr => UnRel w (.slice a l.length cap) l (p2, q2, d2) res i wr) (fun i _ => 12 - (intOf i).toNat)
 case atStart =>
  refine ⟨0, (p, q, d), Nat.zero_le _, rfl, ((VarA.new w _ _).alloc _).alloc _, ?_, ?_, (((Below.refl _ _).alloc (Nat.le_refl _) _).alloc (by simp) _).alloc (by simp; omega) _, HRES.out⟩
  ·have := (VarA.new (w.alloc (.cells #[.slice a l.length cap] 55)) 24 #[.int .i64 p, .int .i64 q, .bool d]).alloc (.cells #[.int .i64 p2, .int .i64 q2, .bool d2] 24)
   simpa using this
  ·have := VarA.new ((w.alloc (.cells #[.slice a l.length cap] 55)).alloc (.cells #[.int .i64 p, .int .i64 q, .bool d] 24)) 24 #[.int .i64 p2, .int .i64 q2, .bool d2]
   simpa using this
 case round =>
  clear HRES
  obtain ⟨k, ⟨p, q, d⟩, hk, rfl, vT, vH, vB, bw, hres⟩ := hrel
  replace vH : VarA wr (w.heap.size + 1) 24 #[.int .i64 p, .int .i64 q, .bool d] := vH
  replace vB : VarA wr (w.heap.size + 1 + 1) 24 #[.int .i64 p2, .int .i64 q2, .bool d2] := vB
  have c0 := vT.l1
  obtain ⟨a0, a1, a2⟩ := vH.l3
  obtain ⟨b0, b1, b2⟩ := vB.l3
  have HE : Hid _ := hres
  clear hres
  by_cases hlt : k < 12
  case neg =>
   have HF : Hid ((2 : Int) = res) := by rw [← HE.out]; show _ = _; rw [show 12 - k = 0 by omega]; rfl
   have hk9 : ¬ (k : Int) < 12 := by omega
   have HB : Hid _ := bw
   clear vT vH vB bw
   go_wp2
   go_ret
   exact ⟨by rw [← HF.out]; rfl, HB.out⟩
  have hk9 : (k : Int) < 12 := by omega
  have eq1 := fun W => eqH_run p q p2 q2 d d2 W
  by_cases hby : ((p, q, d) : Hd) = (p2, q2, d2)
  ·have d1 := decH_t hby
   have HF : Hid ((1 : Int) = res) := by rw [← HE.out]; show _ = _; rw [show 12 - k = (12 - (k + 1)) + 1 by omega, undN, if_pos hby]
   have HB : Hid _ := bw
   rw [d1] at eq1
   clear vT vH vB bw hby d1
   go_wp2
   go_ret
   exact ⟨by rw [← HF.out]; rfl, HB.out⟩
  ·have d1 := decH_f hby
   rw [d1] at eq1
   have hlH := vH.lt
   haveI : Nonempty (Cls wr) := Cls.ne wr
   have ka0 := Cls.cell hlH a0
   have ka1 := Cls.cell hlH a1
   have ka2 := Cls.cell hlH a2
   have hst : undN l (p2, q2, d2) (12 - k) (p, q, d) = if ((p, q, d) : Hd) = rootH then 0 else if fi l (p, q, d) < l.length then undN l (p2, q2, d2) (12 - (k + 1)) (l[fi l (p, q, d)]?.getD nd0).par else 0 := by rw [show 12 - k = (12 - (k + 1)) + 1 by omega, undN, if_neg hby]
   have HST : Hid _ := hst
   clear hst hby d1
   by_cases hrt : ((p, q, d) : Hd) = (0, 1, true)
   ·have hne : ∀ W : World, (binOp .eql 24 (.agg #[.int .i64 p, .int .i64 q, .bool d]) (.agg #[.int .i64 0, .int .i64 1, .bool true])).run Tryz.prog W = .ok (.bool true) W := fun W => by rw [eqH_run, decH_t hrt]
    have HF : Hid ((0 : Int) = res) := by rw [← HE.out]; show _ = _; rw [HST.out, if_pos (show ((p, q, d) : Hd) = rootH from hrt)]
    have HB : Hid _ := bw
    clear vT vH vB bw hrt
    go_wp2
    refine wp_region_cls (by kernel_rfl) (by kernel_rfl) ?_
    repeat (go_big_quiet_step (first | (go_at_call 93; exact Calls.cls_new (HRT.out _))))
    refine wpQuiet_nil ?_
    rintro w' ⟨⟨w', hb'⟩, rfl⟩
    have HB9 : Hid (Below w.heap.size w w') := HB.out.trans (hb'.mono HB.out.size)
    clear hb'
    go_wp2
    go_ret
    exact ⟨by rw [← HF.out]; rfl, HB9.out⟩
   ·have hne : ∀ W : World, (binOp .eql 24 (.agg #[.int .i64 p, .int .i64 q, .bool d]) (.agg #[.int .i64 0, .int .i64 1, .bool true])).run Tryz.prog W = .ok (.bool false) W := fun W => by rw [eqH_run, decH_f hrt]
    have HN : Hid (¬ ((p, q, d) : Hd) = rootH) := hrt
    have HVT : Hid (VarA wr w.heap.size 55 _) := vT
    have HVH : Hid (VarA wr (w.heap.size + 1) 24 _) := vH
    have HVB : Hid (VarA wr (w.heap.size + 1 + 1) 24 _) := vB
    have HB : Hid (Below w.heap.size w wr) := bw
    clear vT vH vB bw hrt
    go_wp2
    refine wp_region_cls (by kernel_rfl) (by kernel_rfl) ?_
    repeat (go_big_quiet_step (first | (go_at_call 93; exact Calls.cls_new (HRT.out _))))
    refine wpQuiet_nil ?_
    rintro w' ⟨⟨w', hb'⟩, rfl⟩
    have vT := HVT.out.step hb'
    have vH := HVH.out.step hb'
    have vB := HVB.out.step hb'
    have bw := HB.out.trans (hb'.mono HB.out.size)
    clear hb' HVT HVH HVB HB c0 a0 a1 a2 b0 b1 b2 ka0 ka1 ka2 hlH hne eq1
    have c0 := vT.l1
    obtain ⟨a0, a1, a2⟩ := vH.l3
    go_wp2_with fail
    refine Calls.mono (HFI.out (p, q, d) _ bw) ?_
    rintro e w3 ⟨rfl, b3⟩
    have vT3 := vT.step b3
    have vH3 := vH.step b3
    have vB3 := vB.step b3
    have bw3 := bw.trans (b3.mono bw.size)
    clear vT vH vB bw b3 c0 a0 a1 a2
    have c0 := vT3.l1
    obtain ⟨a0, a1, a2⟩ := vH3.l3
    have fz := vH3.fz
    rcases findH_cases l (p, q, d) with ⟨hf1, hf2⟩ | ⟨hf1, hf2⟩
    case inr =>
     have HF : Hid ((0 : Int) = res) := by rw [← HE.out]; show _ = _; rw [HST.out, if_neg HN.out, if_neg hf1]
     have HB : Hid _ := bw3
     rw [hf2]
     clear HE HST hf1 hf2 vT3 vH3 vB3 bw3
     go_wp2
     go_ret
     exact ⟨by rw [← HF.out]; rfl, HB.out⟩
    have HF : Hid (undN l (p2, q2, d2) (12 - (k + 1)) (l[fi l (p, q, d)]?.getD nd0).par = res) := by rw [← HE.out]; show _ = _; rw [HST.out, if_neg HN.out, if_pos hf1]
    rw [hf2]
    clear HE HST hf2 HN
    generalize fi l (p, q, d) = f0 at *
    obtain ⟨b, off, rfl, hbl, _, hx⟩ := RdV.at (HR.out w3 bw3) hf1
    generalize l[f0]?.getD nd0 = en at hx HF
    obtain ⟨x3, g3, s3⟩ := hx 3 (by omega)
    obtain ⟨x4, g4, s4⟩ := hx 4 (by omega)
    obtain ⟨x5, g5, s5⟩ := hx 5 (by omega)
    clear hx
    obtain ⟨hh, ⟨p', q', d'⟩, lk', vl', es'⟩ := en
    obtain rfl : x3 = .int .i64 p' := s3
    obtain rfl : x4 = .int .i64 q' := s4
    obtain rfl : x5 = .bool d' := s5
    have HT : Hid (VarA w3 w.heap.size 55 _) := vT3
    have HH : Hid (VarA w3 (w.heap.size + 1) 24 _) := vH3
    have HBB : Hid (VarA w3 (w.heap.size + 1 + 1) 24 _) := vB3
    have HB : Hid (Below w.heap.size w w3) := bw3
    have hi0 : (f0 : Int) < (l.length : Int) := by omega
    clear vT3 vH3 vB3 bw3
    go_wp2
    refine ⟨⟨k + 1, (p', q', d'), by omega, by go_num, (((HT.out.aside (p := ⟨w.heap.size + 1, 0, none⟩) (by show w.heap.size ≠ w.heap.size + 1; omega) _).aside (p := ⟨w.heap.size + 1, 1, none⟩) (by show w.heap.size ≠ w.heap.size + 1; omega) _).aside (p := ⟨w.heap.size + 1, 2, none⟩) (by show w.heap.size ≠ w.heap.size + 1; omega) _), ((HH.out.set 0 _).set 1 _).set 2 _, (((HBB.out.aside (p := ⟨w.heap.size + 1, 0, none⟩) (by show w.heap.size + 1 + 1 ≠ w.heap.size + 1; omega) _).aside (p := ⟨w.heap.size + 1, 1, none⟩) (by show w.heap.size + 1 + 1 ≠ w.heap.size + 1; omega) _).aside (p := ⟨w.heap.size + 1, 2, none⟩) (by show w.heap.size + 1 + 1 ≠ w.heap.size + 1; omega) _), ((HB.out.setCell (by show w.heap.size ≤ w.heap.size + 1; omega) _).setCell (by show w.heap.size ≤ w.heap.size + 1; omega) _).setCell (by show w.heap.size ≤ w.heap.size + 1; omega) _, HF.out⟩, by simp [intOf]; omega⟩
end
section
def Nm (w : World) (T : Nat → Prop) (v : Value) : Nat → Prop := fun b => T b ∧ b < w.heap.size ∧ v.ownBlock ≠ some b
def SE (w : World) (lo : Nat) (T : Nat → Prop) (v : Value) (l : List En) : Prop :=
 ∃ (V : Nat → Value) (C : List Value), w.ownsRow lo 139 4 v l.length C ∧ (∀ i j, i < l.length → j < 4 → C[i * 4 + j]? = some (enVal (l[i]?.getD en0) (V i) j)) ∧ ∀ i, i < l.length → RdV w (Nm w T v) (V i) (.bytes (l[i]?.getD en0).nm)
theorem SE.nil (w : World) (lo : Nat) (T : Nat → Prop) : SE w lo T (.slice none 0 0) [] :=
 ⟨fun _ => undef, [], World.ownsRow_nil _ _ _ _, fun i j hi => absurd hi (Nat.not_lt_zero _), fun i hi => absurd hi (Nat.not_lt_zero _)⟩
theorem SE.lt {w : World} {lo : Nat} {T : Nat → Prop} {v : Value} {l : List En} (s : SE w lo T v l) : ∀ b, v.ownBlock = some b → lo ≤ b ∧ b < w.heap.size := by
 obtain ⟨V, C, h1, h2, h3⟩ := s
 exact fun b hb => h1.lt b hb
theorem SE.step {w w' : World} {lo : Nat} {T : Nat → Prop} {v : Value} {l : List En} (s : SE w lo T v l) (hb : Below w.heap.size w w') : SE w' lo T v l := by
 have hlt := s.lt
 obtain ⟨V, C, h1, h2, h3⟩ := s
 exact ⟨V, C, ownsRow_keep (S := fun b => lo ≤ b ∧ b < w.heap.size) h1 hlt (Keeps.ofBelow hb), h2, fun i hi => RdV.mono (fun b hb' => ⟨hb'.1, Nat.lt_of_lt_of_le hb'.2.1 hb.size, hb'.2.2⟩) (RdV.step (h3 i hi) hb)⟩
theorem SE.rd {w : World} {lo : Nat} {T : Nat → Prop} {v : Value} {l : List En} (s : SE w lo T v l) : RdV w (fun b => (T b ∨ lo ≤ b) ∧ b < w.heap.size) v (ensDt l) := by
 obtain ⟨V, C, h1, h2, h3⟩ := s
 unfold ensDt
 refine RdV.mkRows _ ?_
 rcases h1.2 with ⟨hv, h0⟩ | ⟨g, c, cur, hv, hg, hh, hnc, hm, _⟩
 ·subst hv
  rw [h0]
  exact ⟨none, 0, fun _ _ => undef, rfl, ⟨Nat.le_refl _, Nat.zero_le _, fun _ => ⟨rfl, rfl⟩⟩, .inl rfl, fun i j hi => absurd hi (Nat.not_lt_zero _)⟩
 ·subst hv
  refine ⟨some ⟨g, 0, none⟩, c, fun i j => enVal (l[i]?.getD en0) (V i) j, rfl, ⟨hnc, hm, fun e => by cases e⟩, .inr ⟨g, 0, rfl, ⟨.inr hg, lt_of_block hh⟩, lt_of_block hh, fun i j hi hj => ?_⟩, fun i j hi hj => ?_⟩
  ·rw [Nat.zero_add, World.ownsRow.cellAt h1 (i * 4 + j) (place_lt hi hj)]
   exact h2 i j hi hj
  ·match j, hj with
   | 0, _ => exact RdV.mono (fun b hb => ⟨.inl hb.1, hb.2.1⟩) (h3 i hi)
   | 1, _ => rfl
   | 2, _ => rfl
   | 3, _ => rfl
def enRow (l : List En) (V : Nat → Value) : List Value := (List.range (l.length * 4)).map (fun t => enVal (l[t / 4]?.getD en0) (V (t / 4)) (t % 4))
theorem enRow_at (l : List En) (V : Nat → Value) (i j : Nat) (hi : i < l.length) (hj : j < 4) : (enRow l V)[i * 4 + j]? = some (enVal (l[i]?.getD en0) (V i) j) := by
 unfold enRow
 rw [List.getElem?_map, List.getElem?_range (place_lt hi hj)]
 simp only [Option.map_some]
 rw [show (i * 4 + j) / 4 = i by omega, show (i * 4 + j) % 4 = j by omega]
theorem enRow_of {l : List En} {V : Nat → Value} {t : Nat} {u : Value} (h : (enRow l V)[t]? = some u) : t < l.length * 4 ∧ u = enVal (l[t / 4]?.getD en0) (V (t / 4)) (t % 4) := by
 unfold enRow at h
 rw [List.getElem?_map] at h
 by_cases ht : t < l.length * 4
 ·rw [List.getElem?_range ht] at h
  simp only [Option.map_some, Option.some.injEq] at h
  exact ⟨ht, h.symm⟩
 ·rw [List.getElem?_eq_none (by simpa using ht)] at h
  cases h
theorem enVal_one (e : En) (x : Value) (hx : x.oneCell' = true) : ∀ j, (enVal e x j).oneCell' = true
 | 0 => hx
 | 1 => rfl
 | 2 => rfl
 | (_ + 3) => rfl
end
section
theorem SE.manyV {w w' : World} {lo : Nat} {T : Nat → Prop} {v v' : Value} {l l2 : List En} (V V2 : Nat → Value) (C news : List Value) (h1 : w.ownsRow lo 139 4 v l.length C)
  (h2 : ∀ i j, i < l.length → j < 4 → C[i * 4 + j]? = some (enVal (l[i]?.getD en0) (V i) j)) (h3 : ∀ i, i < l.length → RdV w (Nm w T v) (V i) (.bytes (l[i]?.getD en0).nm))
  (hn : ∀ i j, i < l2.length → j < 4 → news[i * 4 + j]? = some (enVal (l2[i]?.getD en0) (V2 i) j)) (hr : ∀ i, i < l2.length → RdV w (Nm w T v) (V2 i) (.bytes (l2[i]?.getD en0).nm))
  (ho : w'.ownsRow lo 139 4 v' (l.length + l2.length) (C ++ news)) (hg : w.grownBy w' v.ownBlock) (hgg : v'.ownBlock = v.ownBlock ∨ v'.ownBlock = some w.heap.size) :
  SE w' lo T v' (l ++ l2) := by
 have hsz := hg.size
 have hCl : C.length = l.length * 4 := h1.1
 have hln : (l ++ l2).length = l.length + l2.length := List.length_append
 have hrd : ∀ (y : Value) (zs : List Int), RdV w (Nm w T v) y (.bytes zs) → RdV w' (Nm w' T v') y (.bytes zs) := fun y zs r =>
  RdV.mono (fun b hb => ⟨hb.1, by have := hb.2.1; omega, fun e => by
   rcases hgg with h | h
   ·exact hb.2.2 (by rw [← h, e])
   ·rw [h] at e
    have e' : w.heap.size = b := by simpa using e
    have := hb.2.1
    omega⟩) (RdV.keep ⟨hsz, fun b hb hlt => hg.block b hlt (fun h => hb.2.2 h.symm)⟩ r)
 refine ⟨fun i => if i < l.length then V i else V2 (i - l.length), _, by rw [hln]; exact ho, fun i j hi hj => ?_, fun i hi => ?_⟩
 ·rw [hln] at hi
  by_cases hlt : i < l.length
  ·simp only [hlt, if_true]
   rw [List.getElem?_append_left (by rw [hCl]; exact place_lt hlt hj), List.getElem?_append_left hlt]
   exact h2 i j hlt hj
  ·simp only [hlt, if_false]
   rw [List.getElem?_append_right (by omega), hCl, show i * 4 + j - l.length * 4 = (i - l.length) * 4 + j by omega, List.getElem?_append_right (by omega)]
   exact hn (i - l.length) j (by omega) hj
 ·rw [hln] at hi
  by_cases hlt : i < l.length
  ·simp only [hlt, if_true]
   rw [List.getElem?_append_left hlt]
   exact hrd _ _ (h3 i hlt)
  ·simp only [hlt, if_false]
   rw [List.getElem?_append_right (by omega)]
   exact hrd _ _ (hr (i - l.length) (by omega))
def Lies (w : World) (ao : Option Addr) (c : Nat) (l2 : List En) (V2 : Nat → Value) : Prop :=
 (ao = none ∧ l2 = [] ∧ c = 0) ∨ ∃ ad, ao = some ad ∧ ∀ t u, (enRow l2 V2)[t]? = some u → w.cell? (ad.add t) = some u
theorem wpList_appE {ops : Array Oper} {rest : List Oper} {o : Oper} {a : Act} {Q : Exit → Act → World → Prop} (w : World) (hgd : o.guard = none) (s x : Operand)
  (ho : o.op = .call { callee := .builtin .append, args := #[s, x], argTypes := #[27, 27] })
  (v : Value) (hs : a.eval s = v) (l l2 : List En) (lo c : Nat) (ao : Option Addr) (T : Nat → Prop) (hx : a.eval x = .slice ao l2.length c) (V2 : Nat → Value)
  (hsrc : Lies w ao c l2 V2) (hr : ∀ i, i < l2.length → RdV w (Nm w T v) (V2 i) (.bytes (l2[i]?.getD en0).nm))
  (hown : SE w lo T v l) (hlo : lo ≤ w.heap.size) (hl : l.length + l2.length ≤ 8000)
  (h : ∀ v' w', SE w' lo T v' (l ++ l2) → w.grownBy w' v.ownBlock → (v'.ownBlock = v.ownBlock ∨ v'.ownBlock = some w.heap.size) → wpList Tryz.prog ops Q rest (a.put o.dst v') w') : wpList Tryz.prog ops Q (o :: rest) a w := by
 obtain ⟨i0, hi0, hz0, hz1, hz2⟩ := info_parts Tryz.infoEn
 obtain ⟨V, C, h1, h2, h3⟩ := hown
 rcases hsrc with ⟨rfl, rfl, rfl⟩ | ⟨ad, rfl, hcell⟩
 ·refine wpList_append_own_none (w := w) hgd s x 27 ho lo 139 i0 4 Tryz.underlying27 hi0 v l.length C hs h1 hx ?_
  exact h v w (by rw [List.append_nil]; exact ⟨V, C, h1, h2, h3⟩) ⟨rfl, rfl, rfl, Nat.le_refl _, fun _ _ _ => rfl⟩ (.inl rfl)
 ·obtain ⟨v', w', hrun, ho', hg, _, hgg⟩ := run_append_own_at (P := Tryz.prog) w lo 27 o.type 139 i0 (.agg #[.slice none 0 0, .int .i64 0, .int .i64 0, .bool false]) 4 48 Tryz.underlying27 hi0 hz0 hz1 hz2 rfl (by decide) v l.length C h1 ad l2.length c (enRow l2 V2) (by simp [enRow]) hcell (fun u hu => by
    obtain ⟨t, ht⟩ := List.getElem?_of_mem hu
    obtain ⟨ht1, rfl⟩ := enRow_of ht
    refine enVal_one _ _ ?_ _
    obtain ⟨a', c', e'⟩ := RdV.sliceB (hr (t / 4) (by omega))
    rw [e']
    rfl) (by unfold maxLen; omega) (by omega) hlo
  have hse := SE.manyV V V2 C (enRow l2 V2) h1 h2 h3 (fun i j hi hj => enRow_at l2 V2 i j hi hj) hr ho' hg hgg
  refine wpList_plain hgd fun K hK => ?_
  unfold Oper.wp execOp
  simp only [ho, resolve, invoke, builtin, Sem.run_bind, Sem.run_pure, Result.andThen_ok, List.map_toArray, List.map_cons, List.map_nil, hs, hx, hrun]
  exact hK _ _ (h v' w' hse hg hgg)
end
section
def EntL (w : World) (L : Nat → Prop) (v : Value) : Nat → Prop := fun b => L b ∧ b < w.heap.size ∧ v.ownBlock ≠ some b
def SG (w : World) (lo : Nat) (L : Nat → Prop) (v : Value) (l : List Nd) : Prop :=
 ∃ (V : Nat → Value) (C : List Value), w.ownsRow lo 133 9 v l.length C ∧ (∀ i j, i < l.length → j < 9 → C[i * 9 + j]? = some (ndVal (l[i]?.getD nd0) (V i) j)) ∧ ∀ i, i < l.length → RdV w (EntL w L v) (V i) (ensDt (l[i]?.getD nd0).es)
theorem SN.sg {w : World} {lo : Nat} {v : Value} {l : List Nd} (s : SN w lo v l) : SG w lo (fun b => lo ≤ b) v l := s
theorem SG.mono {w : World} {lo : Nat} {L L' : Nat → Prop} {v : Value} {l : List Nd} (s : SG w lo L v l) (h : ∀ b, b < w.heap.size → L b → L' b) : SG w lo L' v l := by
 obtain ⟨V, C, h1, h2, h3⟩ := s
 exact ⟨V, C, h1, h2, fun i hi => RdV.mono (fun b hb => ⟨h b hb.2.1 hb.1, hb.2⟩) (h3 i hi)⟩
theorem SG.nil (w : World) (lo : Nat) (L : Nat → Prop) : SG w lo L (.slice none 0 0) [] :=
 ⟨fun _ => undef, [], World.ownsRow_nil _ _ _ _, fun i j hi => absurd hi (Nat.not_lt_zero _), fun i hi => absurd hi (Nat.not_lt_zero _)⟩
theorem SG.lt {w : World} {lo : Nat} {L : Nat → Prop} {v : Value} {l : List Nd} (s : SG w lo L v l) : ∀ b, v.ownBlock = some b → lo ≤ b ∧ b < w.heap.size := by
 obtain ⟨V, C, h1, h2, h3⟩ := s
 exact fun b hb => h1.lt b hb
theorem SG.keep {w w' : World} {lo : Nat} {L : Nat → Prop} {v : Value} {l : List Nd} (s : SG w lo L v l) (t : Keeps (fun b => b < w.heap.size ∧ (L b ∨ v.ownBlock = some b)) w w') : SG w' lo L v l := by
 have hb := s.lt
 obtain ⟨V, C, h1, h2, h3⟩ := s
 exact ⟨V, C, ownsRow_keep h1 (fun b h => ⟨(hb b h).2, .inr h⟩) t, h2, fun i hi => RdV.mono (fun b hb => ⟨hb.1, Nat.lt_of_lt_of_le hb.2.1 t.1, hb.2.2⟩) (RdV.keep (t.mono (fun b hb => ⟨hb.2.1, .inl hb.1⟩)) (h3 i hi))⟩
theorem SG.step {w w' : World} {lo : Nat} {L : Nat → Prop} {v : Value} {l : List Nd} (s : SG w lo L v l) (hb : Below w.heap.size w w') : SG w' lo L v l := s.keep (Keeps.ofBelow hb)
theorem SG.sn {w : World} {lo : Nat} {L : Nat → Prop} {v : Value} {l : List Nd} (s : SG w lo L v l) (h : ∀ b, L b → lo ≤ b) : SN w lo v l := s.mono (fun b _ hb => h b hb)
theorem SG.head {w : World} {lo : Nat} {L : Nat → Prop} {v : Value} {l : List Nd} (s : SG w lo L v l) (hl : 0 < l.length) : ∃ g cap, v = .slice (some ⟨g, 0, none⟩) l.length cap ∧ lo ≤ g ∧ g < w.heap.size ∧ (∀ j, w.frozen? ⟨g, j, none⟩ = false) ∧ l.length ≤ cap := by
 obtain ⟨V, C, h1, h2, h3⟩ := s
 rcases h1.2 with ⟨hv, h0⟩ | ⟨g, c, cur, hv, hg, hh, hnc, hm, _⟩
 ·omega
 ·subst hv
  exact ⟨g, c, rfl, hg, lt_of_block hh, fun j => h1.frozenAt j, hnc⟩
theorem SG.at {w : World} {lo g cap : Nat} {L : Nat → Prop} {l : List Nd} (s : SG w lo L (.slice (some ⟨g, 0, none⟩) l.length cap) l) {i : Nat} (hi : i < l.length) :
  ∃ x, RdV w (fun b => L b ∧ b < w.heap.size ∧ b ≠ g) x (ensDt (l[i]?.getD nd0).es) ∧ ∀ j, j < 9 → w.cell? ⟨g, i * 9 + j, none⟩ = some (ndVal (l[i]?.getD nd0) x j) := by
 obtain ⟨V, C, h1, h2, h3⟩ := s
 refine ⟨V i, RdV.mono (fun b hb => ⟨hb.1, hb.2.1, fun e => hb.2.2 (by rw [e]; rfl)⟩) (h3 i hi), fun j hj => ?_⟩
 rw [World.ownsRow.cellAt h1 (i * 9 + j) (place_lt hi hj)]
 exact h2 i j hi hj
def Nd.setEs (n : Nd) (es : List En) : Nd := ⟨n.h, n.par, n.links, n.val, es⟩
theorem SE.shape {w : World} {lo : Nat} {T : Nat → Prop} {v : Value} {l : List En} (s : SE w lo T v l) : ∃ a c, v = .slice a l.length c := by
 obtain ⟨V, C, h1, h2, h3⟩ := s
 rcases h1.2 with ⟨hv, h0⟩ | ⟨g, c, cur, hv, _⟩
 ·exact ⟨none, 0, by rw [h0]; exact hv⟩
 ·exact ⟨_, c, hv⟩
theorem SG.shape {L : Nat → Prop} {w : World} {lo : Nat} {v : Value} {l : List Nd} (s : SG w lo L v l) : ∃ a c, v = .slice a l.length c := by
 obtain ⟨V, C, h1, h2, h3⟩ := s
 rcases h1.2 with ⟨hv, h0⟩ | ⟨g, c, cur, hv, _⟩
 ·exact ⟨none, 0, by rw [h0]; exact hv⟩
 ·exact ⟨_, c, hv⟩
theorem SE.shapeN {w : World} {lo n : Nat} {T : Nat → Prop} {v : Value} {l : List En} (s : SE w lo T v l) (h : l.length = n) : ∃ a c, v = .slice a n c := by subst h; exact s.shape
theorem SG.shapeN {L : Nat → Prop} {w : World} {lo n : Nat} {v : Value} {l : List Nd} (s : SG w lo L v l) (h : l.length = n) : ∃ a c, v = .slice a n c := by subst h; exact s.shape
theorem SE.empty (w : World) (lo : Nat) (T : Nat → Prop) (h : lo ≤ w.heap.size) : SE (w.alloc (.cells #[] 139)) lo T (.slice (some ⟨w.heap.size, 0, none⟩) 0 0) [] :=
 ⟨fun _ => undef, [], World.ownsRow_lit w #[] 0 h (Nat.zero_le _) rfl, fun i j hi => absurd hi (Nat.not_lt_zero _), fun i hi => absurd hi (Nat.not_lt_zero _)⟩
theorem SG.empty (L : Nat → Prop) (w : World) (lo : Nat) (h : lo ≤ w.heap.size) : SG (w.alloc (.cells #[] 133)) lo L (.slice (some ⟨w.heap.size, 0, none⟩) 0 0) [] :=
 ⟨fun _ => undef, [], World.ownsRow_lit w #[] 0 h (Nat.zero_le _) rfl, fun i j hi => absurd hi (Nat.not_lt_zero _), fun i hi => absurd hi (Nat.not_lt_zero _)⟩
theorem SG.setE {L : Nat → Prop} {w : World} {lo g cap m : Nat} {l : List Nd} (s : SG w lo L (.slice (some ⟨g, 0, none⟩) m cap) l) {d : Nat} (hd : d < l.length) {x : Value} {es : List En} (hx : RdV w (fun b => L b ∧ b < w.heap.size ∧ b ≠ g) x (ensDt es)) :
  SG (w.setCell ⟨g, d * 9 + 8, none⟩ x) lo L (.slice (some ⟨g, 0, none⟩) m cap) (l.set d ((l[d]?.getD nd0).setEs es)) := by
 obtain ⟨a, c, hv⟩ := s.shape
 simp only [Value.slice.injEq] at hv
 obtain ⟨-, rfl, -⟩ := hv
 obtain ⟨V, C, h1, h2, h3⟩ := s
 have hst := h1.stored (d * 9 + 8) x
 have hCl : C.length = l.length * 9 := h1.1
 have hln : (l.set d ((l[d]?.getD nd0).setEs es)).length = l.length := List.length_set
 have kp : ∀ (y : Value) (ys : List En), RdV w (EntL w L (.slice (some ⟨g, 0, none⟩) l.length cap)) y (ensDt ys) → RdV (w.setCell ⟨g, d * 9 + 8, none⟩ x) (EntL (w.setCell ⟨g, d * 9 + 8, none⟩ x) L (.slice (some ⟨g, 0, none⟩) l.length cap)) y (ensDt ys) := fun y ys r =>
  RdV.mono (fun b hb => ⟨hb.1, by simpa using hb.2.1, hb.2.2⟩) (RdV.keep ⟨by simp, fun b hb _ => heap_setCell_other w _ b x (fun e => hb.2.2 (by rw [e]; rfl))⟩ r)
 refine ⟨fun i => if i = d then x else V i, _, by rw [hln]; exact hst.1, fun i j hi hj => ?_, fun i hi => ?_⟩
 ·rw [hln] at hi
  rw [List.getElem?_set]
  by_cases he : i = d
  ·subst he
   simp only [if_true]
   rw [List.getElem?_set_self hi]
   by_cases h8 : j = 8
   ·subst h8
    rw [if_pos rfl, if_pos (by rw [hCl]; exact place_lt hi hj)]
    rfl
   ·rw [if_neg (by omega), h2 i j hi hj]
    match j, hj with
    | 0, _ => rfl
    | 1, _ => rfl
    | 2, _ => rfl
    | 3, _ => rfl
    | 4, _ => rfl
    | 5, _ => rfl
    | 6, _ => rfl
    | 7, _ => rfl
    | 8, _ => omega
  ·simp only [he, if_false]
   rw [if_neg (fun e => he (by have := place_inj (k := 9) (by omega) hj e; omega)), List.getElem?_set_ne (by omega)]
   exact h2 i j hi hj
 ·rw [hln] at hi
  by_cases he : i = d
  ·subst he
   simp only [if_true]
   rw [List.getElem?_set_self hi]
   exact kp _ _ (RdV.mono (fun b hb => ⟨hb.1, hb.2.1, fun e => hb.2.2 (by simpa [Value.ownBlock] using e.symm)⟩) hx)
  ·simp only [he, if_false]
   rw [List.getElem?_set_ne (by omega)]
   exact kp _ _ (h3 i hi)
theorem SG.setN {L : Nat → Prop} {w : World} {lo g cap m : Nat} {l : List Nd} (s : SG w lo L (.slice (some ⟨g, 0, none⟩) m cap) l) {d j : Nat} (hd : d < l.length) (hj8 : j < 8) {u : Value} {n : Nd} (hes : n.es = (l[d]?.getD nd0).es) (hu : ∀ x, ndVal n x j = u) (ho : ∀ x j', j' < 8 → j' ≠ j → ndVal n x j' = ndVal (l[d]?.getD nd0) x j') :
  SG (w.setCell ⟨g, d * 9 + j, none⟩ u) lo L (.slice (some ⟨g, 0, none⟩) m cap) (l.set d n) := by
 obtain ⟨a, c, hv⟩ := s.shape
 simp only [Value.slice.injEq] at hv
 obtain ⟨-, rfl, -⟩ := hv
 obtain ⟨V, C, h1, h2, h3⟩ := s
 have hst := h1.stored (d * 9 + j) u
 have hCl : C.length = l.length * 9 := h1.1
 have hln : (l.set d n).length = l.length := List.length_set
 have kp : ∀ (y : Value) (ys : List En), RdV w (EntL w L (.slice (some ⟨g, 0, none⟩) l.length cap)) y (ensDt ys) → RdV (w.setCell ⟨g, d * 9 + j, none⟩ u) (EntL (w.setCell ⟨g, d * 9 + j, none⟩ u) L (.slice (some ⟨g, 0, none⟩) l.length cap)) y (ensDt ys) := fun y ys r =>
  RdV.mono (fun b hb => ⟨hb.1, by simpa using hb.2.1, hb.2.2⟩) (RdV.keep ⟨by simp, fun b hb _ => heap_setCell_other w _ b u (fun e => hb.2.2 (by rw [e]; rfl))⟩ r)
 refine ⟨V, _, by rw [hln]; exact hst.1, fun i j' hi hj => ?_, fun i hi => ?_⟩
 ·rw [hln] at hi
  rw [List.getElem?_set]
  by_cases he : i = d
  ·subst he
   rw [List.getElem?_set_self hi]
   by_cases h8 : j' = j
   ·subst h8
    rw [if_pos rfl, if_pos (by rw [hCl]; exact place_lt hi hj)]
    rw [Option.getD_some, hu]
   ·rw [if_neg (by omega), h2 i j' hi hj, Option.getD_some]
    by_cases h9 : j' < 8
    ·rw [ho _ _ h9 h8]
    ·obtain rfl : j' = 8 := by omega
     rfl
  ·rw [if_neg (fun e => he (by have := place_inj (k := 9) (by omega) hj e; omega)), List.getElem?_set_ne (by omega)]
   exact h2 i j' hi hj
 ·rw [hln] at hi
  by_cases he : i = d
  ·subst he
   rw [List.getElem?_set_self hi, Option.getD_some, hes]
   exact kp _ _ (h3 i hi)
  ·rw [List.getElem?_set_ne (by omega)]
   exact kp _ _ (h3 i hi)
theorem step_appE {ops : Array Oper} {o : Oper} {a : Act} {K : Act → World → Prop} {Q : Exit → Act → World → Prop} {E : Prop} (w : World) (hgd : o.guard = none) (s x : Operand)
  (ho : o.op = .call { callee := .builtin .append, args := #[s, x], argTypes := #[27, 27] })
  (v : Value) (hs : a.eval s = v) (l l2 : List En) (lo c : Nat) (ao : Option Addr) (T : Nat → Prop) (hx : a.eval x = .slice ao l2.length c) (V2 : Nat → Value)
  (hsrc : Lies w ao c l2 V2) (hr : ∀ i, i < l2.length → RdV w (Nm w T v) (V2 i) (.bytes (l2[i]?.getD en0).nm))
  (hown : SE w lo T v l) (hlo : lo ≤ w.heap.size) (hl : l.length + l2.length ≤ 8000)
  (h : ∀ v' w', SE w' lo T v' (l ++ l2) → w.grownBy w' v.ownBlock → (v'.ownBlock = v.ownBlock ∨ v'.ownBlock = some w.heap.size) → K (a.put o.dst v') w') : if Region.wanted o (yielded ops a.tmps) = true then Oper.wp Tryz.prog o a w K Q else E := by
 have hw : Region.wanted o (yielded ops a.tmps) = true := by simp [Region.wanted, hgd]
 rw [if_pos hw]
 obtain ⟨i0, hi0, hz0, hz1, hz2⟩ := info_parts Tryz.infoEn
 obtain ⟨V, C, h1, h2, h3⟩ := hown
 rcases hsrc with ⟨rfl, rfl, rfl⟩ | ⟨ad, rfl, hcell⟩
 ·have hrun := run_append_owned_none (P := Tryz.prog) (w := w) lo 27 o.type 139 i0 4 Tryz.underlying27 hi0 v l.length C h1
  have hx' : a.eval x = .slice none 0 0 := hx
  unfold Oper.wp execOp
  simp only [ho, resolve, invoke, builtin, Sem.run_bind, Sem.run_pure, Result.andThen_ok, List.map_toArray, List.map_cons, List.map_nil, hs, hx', hrun]
  exact h v w (by rw [List.append_nil]; exact ⟨V, C, h1, h2, h3⟩) ⟨rfl, rfl, rfl, Nat.le_refl _, fun _ _ _ => rfl⟩ (.inl rfl)
 ·obtain ⟨v', w', hrun, ho', hg, _, hgg⟩ := run_append_own_at (P := Tryz.prog) w lo 27 o.type 139 i0 (.agg #[.slice none 0 0, .int .i64 0, .int .i64 0, .bool false]) 4 48 Tryz.underlying27 hi0 hz0 hz1 hz2 rfl (by decide) v l.length C h1 ad l2.length c (enRow l2 V2) (by simp [enRow]) hcell (fun u hu => by
    obtain ⟨t, ht⟩ := List.getElem?_of_mem hu
    obtain ⟨ht1, rfl⟩ := enRow_of ht
    refine enVal_one _ _ ?_ _
    obtain ⟨a', c', e'⟩ := RdV.sliceB (hr (t / 4) (by omega))
    rw [e']
    rfl) (by unfold maxLen; omega) (by omega) hlo
  have hse := SE.manyV V V2 C (enRow l2 V2) h1 h2 h3 (fun i j hi hj => enRow_at l2 V2 i j hi hj) hr ho' hg hgg
  unfold Oper.wp execOp
  simp only [ho, resolve, invoke, builtin, Sem.run_bind, Sem.run_pure, Result.andThen_ok, List.map_toArray, List.map_cons, List.map_nil, hs, hx, hrun]
  exact h v' w' hse hg hgg
def ndRow (l : List Nd) (V : Nat → Value) : List Value := (List.range (l.length * 9)).map (fun t => ndVal (l[t / 9]?.getD nd0) (V (t / 9)) (t % 9))
theorem ndRow_at (l : List Nd) (V : Nat → Value) (i j : Nat) (hi : i < l.length) (hj : j < 9) : (ndRow l V)[i * 9 + j]? = some (ndVal (l[i]?.getD nd0) (V i) j) := by
 unfold ndRow
 rw [List.getElem?_map, List.getElem?_range (place_lt hi hj)]
 simp only [Option.map_some]
 rw [show (i * 9 + j) / 9 = i by omega, show (i * 9 + j) % 9 = j by omega]
theorem ndRow_of {l : List Nd} {V : Nat → Value} {t : Nat} {u : Value} (h : (ndRow l V)[t]? = some u) : t < l.length * 9 ∧ u = ndVal (l[t / 9]?.getD nd0) (V (t / 9)) (t % 9) := by
 unfold ndRow at h
 rw [List.getElem?_map] at h
 by_cases ht : t < l.length * 9
 ·rw [List.getElem?_range ht] at h
  simp only [Option.map_some, Option.some.injEq] at h
  exact ⟨ht, h.symm⟩
 ·rw [List.getElem?_eq_none (by simpa using ht)] at h
  cases h
theorem ndVal_one (n : Nd) (x : Value) (hx : x.oneCell' = true) : ∀ j, (ndVal n x j).oneCell' = true
 | 0 => rfl
 | 1 => rfl
 | 2 => rfl
 | 3 => rfl
 | 4 => rfl
 | 5 => rfl
 | 6 => rfl
 | 7 => rfl
 | (_ + 8) => hx
theorem SG.manyV {L : Nat → Prop} {w w' : World} {lo : Nat} {v v' : Value} {l l2 : List Nd} (V V2 : Nat → Value) (C news : List Value) (h1 : w.ownsRow lo 133 9 v l.length C)
  (h2 : ∀ i j, i < l.length → j < 9 → C[i * 9 + j]? = some (ndVal (l[i]?.getD nd0) (V i) j)) (h3 : ∀ i, i < l.length → RdV w (EntL w L v) (V i) (ensDt (l[i]?.getD nd0).es))
  (hn : ∀ i j, i < l2.length → j < 9 → news[i * 9 + j]? = some (ndVal (l2[i]?.getD nd0) (V2 i) j)) (hr : ∀ i, i < l2.length → RdV w (EntL w L v) (V2 i) (ensDt (l2[i]?.getD nd0).es))
  (ho : w'.ownsRow lo 133 9 v' (l.length + l2.length) (C ++ news)) (hg : w.grownBy w' v.ownBlock) (hgg : v'.ownBlock = v.ownBlock ∨ v'.ownBlock = some w.heap.size) :
  SG w' lo L v' (l ++ l2) := by
 have hsz := hg.size
 have hCl : C.length = l.length * 9 := h1.1
 have hln : (l ++ l2).length = l.length + l2.length := List.length_append
 have hrd : ∀ (y : Value) (es : List En), RdV w (EntL w L v) y (ensDt es) → RdV w' (EntL w' L v') y (ensDt es) := fun y es r =>
  RdV.mono (fun b hb => ⟨hb.1, by have := hb.2.1; omega, fun e => by
   rcases hgg with h | h
   ·exact hb.2.2 (by rw [← h, e])
   ·rw [h] at e
    have e' : w.heap.size = b := by simpa using e
    have := hb.2.1
    omega⟩) (RdV.keep ⟨hsz, fun b hb hlt => hg.block b hlt (fun h => hb.2.2 h.symm)⟩ r)
 refine ⟨fun i => if i < l.length then V i else V2 (i - l.length), _, by rw [hln]; exact ho, fun i j hi hj => ?_, fun i hi => ?_⟩
 ·rw [hln] at hi
  by_cases hlt : i < l.length
  ·simp only [hlt, if_true]
   rw [List.getElem?_append_left (by rw [hCl]; exact place_lt hlt hj), List.getElem?_append_left hlt]
   exact h2 i j hlt hj
  ·simp only [hlt, if_false]
   rw [List.getElem?_append_right (by omega), hCl, show i * 9 + j - l.length * 9 = (i - l.length) * 9 + j by omega, List.getElem?_append_right (by omega)]
   exact hn (i - l.length) j (by omega) hj
 ·rw [hln] at hi
  by_cases hlt : i < l.length
  ·simp only [hlt, if_true]
   rw [List.getElem?_append_left hlt]
   exact hrd _ _ (h3 i hlt)
  ·simp only [hlt, if_false]
   rw [List.getElem?_append_right (by omega)]
   exact hrd _ _ (hr (i - l.length) (by omega))
def LiesN (w : World) (ao : Option Addr) (c : Nat) (l2 : List Nd) (V2 : Nat → Value) : Prop :=
 (ao = none ∧ l2 = [] ∧ c = 0) ∨ ∃ ad, ao = some ad ∧ ∀ t u, (ndRow l2 V2)[t]? = some u → w.cell? (ad.add t) = some u
theorem run_appN {L : Nat → Prop} (w : World) (ty : TypeId) (v : Value) (l l2 : List Nd) (lo c : Nat) (ao : Option Addr) (V2 : Nat → Value)
  (hsrc : LiesN w ao c l2 V2) (hr : ∀ i, i < l2.length → RdV w (EntL w L v) (V2 i) (ensDt (l2[i]?.getD nd0).es)) (hown : SG w lo L v l) (hlo : lo ≤ w.heap.size) (hl : l.length + l2.length ≤ 8000) :
  ∃ v' w', (Builtin.append_ #[53, 53] ty #[v, .slice ao l2.length c]).run Tryz.prog w = .ok v' w' ∧ SG w' lo L v' (l ++ l2) ∧ w.grownBy w' v.ownBlock ∧ (v'.ownBlock = v.ownBlock ∨ v'.ownBlock = some w.heap.size) := by
 obtain ⟨i0, hi0, hz0, hz1, hz2⟩ := info_parts Tryz.infoNd
 obtain ⟨V, C, h1, h2, h3⟩ := hown
 rcases hsrc with ⟨rfl, rfl, rfl⟩ | ⟨ad, rfl, hcell⟩
 ·exact ⟨v, w, run_append_owned_none (P := Tryz.prog) (w := w) lo 53 ty 133 i0 9 Tryz.underlying53 hi0 v l.length C h1, by rw [List.append_nil]; exact ⟨V, C, h1, h2, h3⟩, ⟨rfl, rfl, rfl, Nat.le_refl _, fun _ _ _ => rfl⟩, .inl rfl⟩
 ·obtain ⟨v', w', hrun, ho', hg, _, hgg⟩ := run_append_own_at (P := Tryz.prog) w lo 53 ty 133 i0 _ 9 _ Tryz.underlying53 hi0 hz0 hz1 hz2 rfl (by decide) v l.length C h1 ad l2.length c (ndRow l2 V2) (by simp [ndRow]) hcell (fun u hu => by
    obtain ⟨t, ht⟩ := List.getElem?_of_mem hu
    obtain ⟨ht1, rfl⟩ := ndRow_of ht
    refine ndVal_one _ _ ?_ _
    obtain ⟨a', c', e', _⟩ := RdV.sliced (hr (t / 9) (by omega))
    rw [e']
    rfl) (by unfold maxLen; omega) (by omega) hlo
  exact ⟨v', w', hrun, SG.manyV V V2 C (ndRow l2 V2) h1 h2 h3 (fun i j hi hj => ndRow_at l2 V2 i j hi hj) hr ho' hg hgg, hg, hgg⟩
theorem step_appN {L : Nat → Prop} {ops : Array Oper} {o : Oper} {a : Act} {K : Act → World → Prop} {Q : Exit → Act → World → Prop} {E : Prop} (w : World) (hgd : o.guard = none) (s x : Operand)
  (ho : o.op = .call { callee := .builtin .append, args := #[s, x], argTypes := #[53, 53] })
  (v : Value) (hs : a.eval s = v) (l l2 : List Nd) (lo c : Nat) (ao : Option Addr) (hx : a.eval x = .slice ao l2.length c) (V2 : Nat → Value)
  (hsrc : LiesN w ao c l2 V2) (hr : ∀ i, i < l2.length → RdV w (EntL w L v) (V2 i) (ensDt (l2[i]?.getD nd0).es))
  (hown : SG w lo L v l) (hlo : lo ≤ w.heap.size) (hl : l.length + l2.length ≤ 8000)
  (h : ∀ v' w', SG w' lo L v' (l ++ l2) → w.grownBy w' v.ownBlock → (v'.ownBlock = v.ownBlock ∨ v'.ownBlock = some w.heap.size) → K (a.put o.dst v') w') : if Region.wanted o (yielded ops a.tmps) = true then Oper.wp Tryz.prog o a w K Q else E := by
 have hw : Region.wanted o (yielded ops a.tmps) = true := by simp [Region.wanted, hgd]
 rw [if_pos hw]
 obtain ⟨v', w', hrun, hs', hg, hgg⟩ := run_appN w o.type v l l2 lo c ao V2 hsrc hr hown hlo hl
 unfold Oper.wp execOp
 simp only [ho, resolve, invoke, builtin, Sem.run_bind, Sem.run_pure, Result.andThen_ok, List.map_toArray, List.map_cons, List.map_nil, hs, hx, hrun]
 exact h v' w' hs' hg hgg
theorem wpList_appN {L : Nat → Prop} {ops : Array Oper} {rest : List Oper} {o : Oper} {a : Act} {Q : Exit → Act → World → Prop} (w : World) (hgd : o.guard = none) (s x : Operand)
  (ho : o.op = .call { callee := .builtin .append, args := #[s, x], argTypes := #[53, 53] })
  (v : Value) (hs : a.eval s = v) (l l2 : List Nd) (lo c : Nat) (ao : Option Addr) (hx : a.eval x = .slice ao l2.length c) (V2 : Nat → Value)
  (hsrc : LiesN w ao c l2 V2) (hr : ∀ i, i < l2.length → RdV w (EntL w L v) (V2 i) (ensDt (l2[i]?.getD nd0).es))
  (hown : SG w lo L v l) (hlo : lo ≤ w.heap.size) (hl : l.length + l2.length ≤ 8000)
  (h : ∀ v' w', SG w' lo L v' (l ++ l2) → w.grownBy w' v.ownBlock → (v'.ownBlock = v.ownBlock ∨ v'.ownBlock = some w.heap.size) → wpList Tryz.prog ops Q rest (a.put o.dst v') w') : wpList Tryz.prog ops Q (o :: rest) a w := by
 obtain ⟨v', w', hrun, hs', hg, hgg⟩ := run_appN w o.type v l l2 lo c ao V2 hsrc hr hown hlo hl
 refine wpList_plain hgd fun K hK => ?_
 unfold Oper.wp execOp
 simp only [ho, resolve, invoke, builtin, Sem.run_bind, Sem.run_pure, Result.andThen_ok, List.map_toArray, List.map_cons, List.map_nil, hs, hx, hrun]
 exact hK _ _ (h v' w' hs' hg hgg)
theorem getD_take {α : Type} (l : List α) (k i : Nat) (z : α) (hi : i < (l.take k).length) : (l.take k)[i]?.getD z = l[i]?.getD z := by
 rw [List.getElem?_take, if_pos (by rw [List.length_take] at hi; omega)]
theorem getD_drop {α : Type} (l : List α) (k i : Nat) (z : α) : (l.drop k)[i]?.getD z = l[k + i]?.getD z := by rw [List.getElem?_drop]
theorem sliceH_run (t : TypeId) (h : Tryz.prog.underlying t = some (.slice (Tryz.prog.elem t))) {s : Nat} (hs : ∀ W, (sizeOf (Tryz.prog.elem t)).run Tryz.prog W = .ok s W) (xa : Option Addr) (n c k : Nat) (hk : k ≤ c) (W : World) : (Instr.sliceAt t (.slice xa n c) none (some (.int .i64 (k : Int))) none).run Tryz.prog W = .ok (.slice xa k c) W := by
 rw [run_sliceAt_slice W t _ _ _ _ h, run_slice_h W t xa n c h .i64 (k : Int) (by omega) (by omega), hs]
 simp [Result.andThen, sliced]
 intro _
 cases xa with
 | none => rfl
 | some ad => obtain ⟨b, o, p⟩ := ad; cases p <;> simp [Addr.add]
theorem sliceL_run (t : TypeId) (h : Tryz.prog.underlying t = some (.slice (Tryz.prog.elem t))) {s : Nat} (hs : ∀ W, (sizeOf (Tryz.prog.elem t)).run Tryz.prog W = .ok s W) (xa : Option Addr) (n c k : Nat) (hk : k ≤ n) (W : World) : (Instr.sliceAt t (.slice xa n c) (some (.int .i64 (k : Int))) none none).run Tryz.prog W = .ok (.slice (if c = k then xa else xa.map (·.add (k * s))) (n - k) (c - k)) W := by
 rw [run_sliceAt_slice W t _ _ _ _ h, run_slice_l W t xa n c h .i64 (k : Int) (by omega) (by omega), hs]
 simp [Result.andThen, sliced]
theorem size_of_info {t : TypeId} {x : Option Value} {s b : Nat} (h : (Tryz.prog.info? t).map (fun i => (i.zero, i.size, i.bytes)) = some (x, s, b)) (W : World) : (sizeOf t).run Tryz.prog W = .ok s W := by
 cases hq : Tryz.prog.info? t with
 | none => rw [hq] at h; cases h
 | some i => rw [hq] at h; simp only [Option.map_some, Option.some.injEq, Prod.mk.injEq] at h; simp [sizeOf, typeInfo, hq, h.2.1]
theorem elemEn : Tryz.prog.underlying 27 = some (.slice (Tryz.prog.elem 27)) := by kernel_rfl
theorem elemNd : Tryz.prog.underlying 53 = some (.slice (Tryz.prog.elem 53)) := by kernel_rfl
theorem sizeEn (W : World) : (sizeOf (Tryz.prog.elem 27)).run Tryz.prog W = .ok 4 W := by
 rw [show Tryz.prog.elem 27 = 139 by kernel_rfl]; exact size_of_info Tryz.infoEn W
theorem sizeNd (W : World) : (sizeOf (Tryz.prog.elem 53)).run Tryz.prog W = .ok 9 W := by
 rw [show Tryz.prog.elem 53 = 133 by kernel_rfl]; exact size_of_info Tryz.infoNd W
theorem sliceHE (xa : Option Addr) (n c k : Nat) (hk : k ≤ c) (W : World) : (Instr.sliceAt 27 (.slice xa n c) none (some (.int .i64 (k : Int))) none).run Tryz.prog W = .ok (.slice xa k c) W := sliceH_run _ elemEn sizeEn xa n c k hk W
theorem sliceLE (xa : Option Addr) (n c k : Nat) (hk : k ≤ n) (W : World) : (Instr.sliceAt 27 (.slice xa n c) (some (.int .i64 (k : Int))) none none).run Tryz.prog W = .ok (.slice (if c = k then xa else xa.map (·.add (k * 4))) (n - k) (c - k)) W := sliceL_run _ elemEn sizeEn xa n c k hk W
theorem sliceHN (xa : Option Addr) (n c k : Nat) (hk : k ≤ c) (W : World) : (Instr.sliceAt 53 (.slice xa n c) none (some (.int .i64 (k : Int))) none).run Tryz.prog W = .ok (.slice xa k c) W := sliceH_run _ elemNd sizeNd xa n c k hk W
theorem sliceLN (xa : Option Addr) (n c k : Nat) (hk : k ≤ n) (W : World) : (Instr.sliceAt 53 (.slice xa n c) (some (.int .i64 (k : Int))) none none).run Tryz.prog W = .ok (.slice (if c = k then xa else xa.map (·.add (k * 9))) (n - k) (c - k)) W := sliceL_run _ elemNd sizeNd xa n c k hk W
theorem wpList_sl {ops : Array Oper} {rest : List Oper} {t t' : TypeId} {dst : Option Tmp} {x : Operand} {lo hi : Option Operand} {pos : String} {af : Array Edge} {a : Act} {Q : Exit → Act → World → Prop} {w : World} (v : Value)
  (hrun : (Instr.sliceAt t (a.eval x) (lo.map a.eval) (hi.map a.eval) none).run Tryz.prog w = .ok v w) (hK : wpList Tryz.prog ops Q rest (a.put dst v) w) : wpList Tryz.prog ops Q (⟨dst, .slice t x lo hi none, t', pos, af, none⟩ :: rest) a w := by
 refine wpList_plain rfl fun K' hK' => ?_
 unfold Oper.wp execOp
 simp only [Option.map_none, hrun, Sem.run_bind, Sem.run_pure, Result.andThen_ok]
 exact hK' _ _ hK
theorem RdV.lies {w : World} {S : Nat → Prop} {xa : Option Addr} {xc : Nat} {es : List En} (r : RdV w S (.slice xa es.length xc) (ensDt es)) :
  ∃ V : Nat → Value, (∀ i, i < es.length → RdV w S (V i) (.bytes (es[i]?.getD en0).nm)) ∧ ∀ k, k ≤ es.length → Lies w xa xc (es.take k) V ∧ Lies w (if xc = k then xa else xa.map (·.add (k * 4))) (xc - k) (es.drop k) (fun i => V (k + i)) := by
 unfold ensDt at r
 obtain ⟨a, cap, V, hv, hh, hc, he⟩ := r.inv
 simp only [Value.slice.injEq] at hv
 obtain ⟨rfl, -, rfl⟩ := hv
 refine ⟨fun i => V i 0, fun i hi => he i 0 hi (by omega), fun k hk => ?_⟩
 have hval : ∀ i j, i < es.length → j < 4 → V i j = enVal (es[i]?.getD en0) (V i 0) j := fun i j hi hj => by
  have := he i j hi hj
  match j, hj with
  | 0, _ => rfl
  | 1, _ => exact this
  | 2, _ => exact this
  | 3, _ => exact this
 cases xa with
 | none =>
  obtain ⟨h0, h1⟩ := hh.2.2 rfl
  have : es = [] := List.eq_nil_of_length_eq_zero h0
  subst this
  subst h1
  exact ⟨.inl ⟨rfl, by simp, rfl⟩, .inl ⟨by simp, by simp, by simp⟩⟩
 | some ad =>
  rcases hc with h0 | ⟨b, off, ha, h1, h2, hc⟩
  ·have : es = [] := List.eq_nil_of_length_eq_zero h0
   subst this
   refine ⟨.inr ⟨ad, rfl, fun t u ht => by simp [enRow] at ht⟩, .inr ?_⟩
   obtain ⟨ad2, e2⟩ : ∃ ad2, (if xc = k then some ad else Option.map (fun x => x.add (k * 4)) (some ad)) = some ad2 := by split <;> exact ⟨_, rfl⟩
   exact ⟨ad2, e2, fun t u ht => by simp [enRow] at ht⟩
  ·simp only [Option.some.injEq] at ha
   subst ha
   refine ⟨.inr ⟨_, rfl, fun t u ht => ?_⟩, .inr ?_⟩
   ·obtain ⟨ht1, rfl⟩ := enRow_of ht
    have hlt : t / 4 < (es.take k).length := by omega
    have hlt2 : t / 4 < es.length := by rw [List.length_take] at hlt; omega
    rw [add_plainT, getD_take _ _ _ _ hlt, ← hval _ _ hlt2 (by omega), ← hc (t / 4) (t % 4) hlt2 (by omega), show t / 4 * 4 + t % 4 = t by omega]
   ·by_cases hck : xc = k
    ·refine ⟨⟨b, off, none⟩, by rw [if_pos hck], fun t u ht => ?_⟩
     obtain ⟨ht1, rfl⟩ := enRow_of ht
     have := hh.1
     rw [List.length_drop] at ht1
     omega
    ·refine ⟨(Addr.mk b off none).add (k * 4), by rw [if_neg hck]; rfl, fun t u ht => ?_⟩
     obtain ⟨ht1, rfl⟩ := enRow_of ht
     rw [List.length_drop] at ht1
     have hlt2 : k + t / 4 < es.length := by omega
     rw [add_plainT, add_plainT, getD_drop, ← hval _ _ hlt2 (by omega), ← hc (k + t / 4) (t % 4) hlt2 (by omega), show off + k * 4 + t = off + ((k + t / 4) * 4 + t % 4) by omega]
theorem SG.lies {L : Nat → Prop} {w : World} {lo g c : Nat} {l : List Nd} (s : SG w lo L (.slice (some ⟨g, 0, none⟩) l.length c) l) :
  ∃ V : Nat → Value, (∀ i, i < l.length → RdV w (fun b => L b ∧ b < w.heap.size ∧ b ≠ g) (V i) (ensDt (l[i]?.getD nd0).es)) ∧ l.length ≤ c ∧ ∀ k, k ≤ l.length → LiesN w (some ⟨g, 0, none⟩) c (l.take k) V ∧ LiesN w (if c = k then some ⟨g, 0, none⟩ else (some (Addr.mk g 0 none)).map (·.add (k * 9))) (c - k) (l.drop k) (fun i => V (k + i)) := by
 obtain ⟨V, C, h1, h2, h3⟩ := s
 have hcap : l.length ≤ c := by
  rcases h1.2 with ⟨hv, h0⟩ | ⟨g', c', cur, hv, hg, hh, hnc, hm, _⟩
  ·cases hv
  ·simp only [Value.slice.injEq] at hv; obtain ⟨-, -, rfl⟩ := hv; exact hnc
 refine ⟨V, fun i hi => RdV.mono (fun b hb => ⟨hb.1, hb.2.1, fun e => hb.2.2 (by rw [e]; rfl)⟩) (h3 i hi), hcap, fun k hk => ⟨.inr ⟨_, rfl, fun t u ht => ?_⟩, .inr ?_⟩⟩
 ·obtain ⟨ht1, rfl⟩ := ndRow_of ht
  have hlt : t / 9 < (l.take k).length := by omega
  have hlt2 : t / 9 < l.length := by rw [List.length_take] at hlt; omega
  rw [add_plainT, getD_take _ _ _ _ hlt, ← h2 _ _ hlt2 (by omega), Nat.zero_add, show t / 9 * 9 + t % 9 = t by omega]
  exact World.ownsRow.cellAt h1 t (by omega)
 ·by_cases hck : c = k
  ·refine ⟨⟨g, 0, none⟩, by rw [if_pos hck], fun t u ht => ?_⟩
   obtain ⟨ht1, rfl⟩ := ndRow_of ht
   rw [List.length_drop] at ht1
   omega
  ·refine ⟨(Addr.mk g 0 none).add (k * 9), by rw [if_neg hck]; rfl, fun t u ht => ?_⟩
   obtain ⟨ht1, rfl⟩ := ndRow_of ht
   rw [List.length_drop] at ht1
   have hlt2 : k + t / 9 < l.length := by omega
   rw [add_plainT, add_plainT, getD_drop, ← h2 _ _ hlt2 (by omega), Nat.zero_add, show (k + t / 9) * 9 + t % 9 = k * 9 + t by omega]
   exact World.ownsRow.cellAt h1 _ (by omega)
theorem LiesN.step {w W : World} {ao : Option Addr} {c : Nat} {l2 : List Nd} {V2 : Nat → Value} (h : LiesN w ao c l2 V2) (hb : Below w.heap.size w W) : LiesN W ao c l2 V2 := by
 rcases h with h | ⟨ad, ha, hc⟩
 ·exact .inl h
 ·exact .inr ⟨ad, ha, fun t u ht => (hb.cell (p := ad.add t) (block_lt_of_cell (hc t u ht))).trans (hc t u ht)⟩
theorem SG.low {w : World} {lo lo' : Nat} {L : Nat → Prop} {v : Value} {l : List Nd} (s : SG w lo L v l) (h : lo' ≤ lo) : SG w lo' L v l := by
 obtain ⟨V, C, h1, h2, h3⟩ := s
 exact ⟨V, C, ⟨h1.1, h1.2.imp id (fun ⟨g, c, cur, hv, hg, r⟩ => ⟨g, c, cur, hv, Nat.le_trans h hg, r⟩)⟩, h2, h3⟩
theorem ndRow_one (n : Nd) (V : Nat → Value) : ndRow [n] V = [.int .i64 n.h.sh, .int .i64 n.h.ino, .bool n.h.dir, .int .i64 n.par.sh, .int .i64 n.par.ino, .bool n.par.dir, .int .i64 n.links, .int .i64 n.val, V 0] := by simp [ndRow, List.range, List.range.loop, ndVal]
end
section
def bsOf (s : ByteArray) : List Int := s.data.toList.map (fun b => (b.toNat : Int))
theorem bsOf_bytes (s : ByteArray) : isBytes (bsOf s) := fun j => by
 unfold bsOf
 rw [List.getElem?_map]
 cases h : s.data.toList[j]? with
 | none => simp
 | some b => have := b.toNat_lt; simp; omega
theorem bsOf_len (s : ByteArray) : (bsOf s).length = s.size := by unfold bsOf; rw [List.length_map, Array.length_toList]; rfl
theorem bytesWorld_below (W : World) (s : ByteArray) : Below W.heap.size W (Lib.bytesWorld W 5 s) :=
 ⟨rfl, rfl, rfl, by rw [Lib.bytesWorld_size]; omega, fun k hk => Lib.bytesWorld_at_old W _ s k hk⟩
theorem bytesWorld_rd (W : World) (s : ByteArray) (hm : s.size ≤ 100) : RdV (Lib.bytesWorld W 5 s) (fun b => b = W.heap.size) (.slice (some ⟨W.heap.size, 0, none⟩) s.size (grownCap W s.size 0 5)) (.bytes (bsOf s)) :=
 ⟨bsOf_bytes s, _, s.size, _, rfl, (bsOf_len s).symm, ⟨grownCap_ge _ _ _ _, grownCap_le_maxLen _ _ _ _ (by unfold maxLen; omega), fun e => by cases e⟩, .inr ⟨W.heap.size, 0, rfl, rfl, by rw [Lib.bytesWorld_size]; omega, fun i hi => by
  rw [bsOf_len] at hi
  rw [Nat.zero_add, Lib.bytesWorld_cell W _ s i hi]
  have hi' : i < s.data.toList.length := by rw [Array.length_toList]; exact hi
  unfold bsOf
  rw [List.getElem?_map, List.getElem?_eq_getElem hi']
  simp [List.getD, List.getElem?_eq_getElem hi']⟩⟩
set_option maxHeartbeats 2000000 in
theorem draws4_any (pb : Nat) (w : World) (h : CurAt w pb) :
  Calls Tryz.prog 167 #[.pointer (some ⟨pb, 0, none⟩)] w fun e w' => ∃ a n c zs, e = .returned (.slice a n c) ∧ RdV w' (fun b => w.heap.size ≤ b ∧ b < w'.heap.size) (.slice a n c) (.bytes zs) ∧ zs.length ≤ 2 ∧ CurAt w' pb ∧ w.grownBy w' (some pb) := by
 have hpb := h.lt
 have hcv : ∀ s W, (convert 9 22 (.string s)).run Tryz.prog W = .ok (.slice (some ⟨W.heap.size, 0, none⟩) s.size (grownCap W s.size 0 5)) (Lib.bytesWorld W 5 s) := fun s W => Lib.run_convert_string_bytes W _ _ _ s Tryz.underlying9 Tryz.underlying22 Tryz.underlying5
 have HCV : Hid _ := hcv
 clear hcv
 go_enter Tryz.func167, Tryz.ntmps167
 go_wp2_with fail
 refine (below_any pb 6 _ (h.alloc _) (by omega) (by omega)).mono ?_
 rintro e w1 ⟨x, rfl, hx0, hx1, hc1, hg1⟩
 have hV : VarA w1 w.heap.size 9 _ := (hg1.block w.heap.size (by simp) (fun e => by have e2 : w.heap.size = pb := (by simpa using e); omega)).trans (heap_alloc_new w _)
 have v0 := hV.c 0 rfl
 have v1 := hV.c 1 rfl
 have v2 := hV.c 2 rfl
 have v3 := hV.c 3 rfl
 have v4 := hV.c 4 rfl
 have v5 := hV.c 5 rfl
 have HC1 : Hid (CurAt w1 pb) := hc1
 have HG1 : Hid _ := hg1
 have z1 := hg1.size
 rw [World.size_alloc] at z1
 have HFIN : Hid (∀ s : ByteArray, s.size ≤ 2 → ∃ a n c zs, Ending.returned (.slice (some ⟨w1.heap.size, 0, none⟩) s.size (grownCap w1 s.size 0 5)) = Ending.returned (.slice a n c) ∧ RdV (Lib.bytesWorld w1 5 s) (fun b => w.heap.size ≤ b ∧ b < (Lib.bytesWorld w1 5 s).heap.size) (.slice a n c) (.bytes zs) ∧ zs.length ≤ 2 ∧ CurAt (Lib.bytesWorld w1 5 s) pb ∧ w.grownBy (Lib.bytesWorld w1 5 s) (some pb)) := fun s hs =>
  ⟨_, _, _, bsOf s, rfl, RdV.mono (fun b hb => ⟨by omega, by rw [Lib.bytesWorld_size]; omega⟩) (bytesWorld_rd w1 s (by omega)), by rw [bsOf_len]; exact hs, hc1.below (bytesWorld_below w1 s), grown_trans (grown_trans (World.grownBy_alloc w _ _) hg1) (grown_below (bytesWorld_below w1 s))⟩
 clear hV hg1 hc1 h
 have hx : x = 0 ∨ x = 1 ∨ x = 2 ∨ x = 3 ∨ x = 4 ∨ x = 5 := by omega
 rcases hx with rfl | rfl | rfl | rfl | rfl | rfl
 ·have hcv := HCV.out ⟨#[97]⟩ w1
  go_wp2
  go_ret
  exact HFIN.out ⟨#[97]⟩ (by decide)
 ·have hcv := HCV.out ⟨#[98]⟩ w1
  go_wp2
  go_ret
  exact HFIN.out ⟨#[98]⟩ (by decide)
 ·have hcv := HCV.out ⟨#[99]⟩ w1
  go_wp2
  go_ret
  exact HFIN.out ⟨#[99]⟩ (by decide)
 ·have hcv := HCV.out ⟨#[100]⟩ w1
  go_wp2
  go_ret
  exact HFIN.out ⟨#[100]⟩ (by decide)
 ·have hcv := HCV.out ⟨#[97, 98]⟩ w1
  go_wp2
  go_ret
  exact HFIN.out ⟨#[97, 98]⟩ (by decide)
 ·have hcv := HCV.out ⟨#[122, 122]⟩ w1
  go_wp2
  go_ret
  exact HFIN.out ⟨#[122, 122]⟩ (by decide)
end
section
theorem guardSlice {ops : Array Oper} {rest : List Oper} {t t' : TypeId} {dst : Option Tmp} {x : Operand} {lo hi : Option Operand} {pos : String} {af : Array Edge} {a : Act} {Q : Exit → Act → World → Prop} {w : World}
  (h : wpList Tryz.prog ops Q (⟨dst, .slice t x lo hi none, t', pos, af, none⟩ :: rest) a w) : wpList Tryz.prog ops Q (⟨dst, .slice t x lo hi none, t', pos, af, none⟩ :: rest) a w := h
theorem enRow_one (e : En) (V : Nat → Value) : enRow [e] V = [V 0, .int .i64 e.h.sh, .int .i64 e.h.ino, .bool e.h.dir] := by simp [enRow, List.range, List.range.loop, enVal]
def pl (es : List En) (nm : List Int) : Nat := es.findIdx (fun e => geS e.nm nm)
theorem pl_at (es : List En) (nm : List Int) (k : Nat) (hk : k ≤ es.length) (h1 : ∀ i, i < k → geS (es[i]?.getD en0).nm nm = false) (h2 : k < es.length → geS (es[k]?.getD en0).nm nm = true) : pl es nm = k := by
 unfold pl
 by_cases hlt : k < es.length
 ·rw [List.findIdx_eq hlt]
  refine ⟨by simpa [hlt] using h2 hlt, fun j hj => ?_⟩
  have := h1 j hj
  have hj' : j < es.length := by omega
  simpa [hj'] using this
 ·have he : k = es.length := by omega
  rw [List.findIdx_eq_length.2, he]
  intro x hx
  obtain ⟨i, hi, rfl⟩ := List.getElem_of_mem hx
  have := h1 i (by omega)
  simpa [hi] using this
def addE (es : List En) (nm : List Int) (h : Hd) : List En := es.take (pl es nm) ++ [⟨nm, h⟩] ++ es.drop (pl es nm)

set_option maxHeartbeats 4000000 in
theorem specAdd_any (g o : Nat) (xa : Option Addr) (xc : Nat) (y : Value) (es : List En) (nm : List Int) (h : Hd) (S S2 : Nat → Prop) (w : World) (c8 : w.cell? ⟨g, o + 8, none⟩ = some (.slice xa es.length xc)) (hfz : w.frozen? ⟨g, o + 8, none⟩ = false) (r : RdV w S (.slice xa es.length xc) (ensDt es)) (hS : ∀ b, S b → b < w.heap.size) (r2 : RdV w S2 y (.bytes nm)) (hn : es.length ≤ 4000) (hnm : nm.length ≤ 2097152) :
  Calls Tryz.prog 192 #[.pointer (some ⟨g, o, none⟩), y, h.v] w fun e w' => e = .returned (.tuple #[]) ∧ ∃ W x, w' = W.setCell ⟨g, o + 8, none⟩ x ∧ Below w.heap.size w W ∧ RdV W (fun b => (S b ∨ w.heap.size ≤ b) ∧ b < W.heap.size) x (ensDt (addE es nm h)) := by
 obtain ⟨ya, yc, rfl⟩ := r2.sliceB
 obtain ⟨p, q, d⟩ := h
 have hgl : g < w.heap.size := block_lt_of_cell (a := ⟨g, o + 8, none⟩) c8
 have hcap : es.length ≤ xc := by obtain ⟨a', cap', V', hv', hh', _⟩ := RdV.inv r; simp only [Value.slice.injEq] at hv'; obtain ⟨-, -, rfl⟩ := hv'; exact hh'.1
 have HR : Hid (∀ W, Below w.heap.size w W → RdV W S (.slice xa es.length xc) (.rows 139 4 es.length (fun i j => enCell (es[i]?.getD en0) j))) := RdV.old r
 have HY : Hid (∀ W, Below w.heap.size w W → RdV W S2 (.slice ya nm.length yc) (.bytes nm)) := fun W hW => r2.step hW
 have HZ : Hid (isBytes nm) := r2.b.1
 have HRB : Hid (∀ W, Below w.heap.size w W → Reads W ya nm ∧ Headed ya nm.length yc) := fun W hW => by
  obtain ⟨a', cap', he, hh, hr⟩ := (r2.step hW).b.reads
  simp only [Value.slice.injEq, true_and] at he
  obtain ⟨rfl, rfl⟩ := he
  exact ⟨hr, hh⟩
 have HC8 : Hid (∀ W, Below w.heap.size w W → W.cell? ⟨g, o + 8, none⟩ = some (.slice xa es.length xc)) := fun W hW => (hW.cell (p := ⟨g, o + 8, none⟩) hgl).trans c8
 have HFZ : Hid (∀ W, Below w.heap.size w W → W.frozen? ⟨g, o + 8, none⟩ = false) := fun W hW => (hW.frozen (p := ⟨g, o + 8, none⟩) hgl).trans hfz
 have HS : Hid (∀ b, S b → b < w.heap.size) := hS
 clear r r2 c8 hfz hS
 go_enter Tryz.func192, Tryz.ntmps192
 go_wp2
 go_loopw [6] (fun i wr => ∃ k : Nat, k ≤ es.length ∧ i = .int .i64 k ∧ Below w.heap.size w wr ∧ VarA wr w.heap.size 24 #[.int .i64 p, .int .i64 q, .bool d] ∧ Hid (∀ i, i < k → geS (es[i]?.getD en0).nm nm = false)) (fun i _ => es.length - (intOf i).toNat)
 case atStart => exact ⟨0, Nat.zero_le _, rfl, Below.newH _, VarA.new w _ _, fun i hi => absurd hi (Nat.not_lt_zero _)⟩
 case round =>
  obtain ⟨k, hk, rfl, bw, vH, HA⟩ := hrel
  have c8 := HC8.out _ bw
  have hgw : g < wr.heap.size := Nat.lt_of_lt_of_le hgl bw.size
  haveI : Nonempty (Cls wr) := Cls.ne wr
  have kc8 := Cls.cell hgw c8
  by_cases hlt : k < es.length
  ·have hlt9 : (k : Int) < (es.length : Int) := by omega
   obtain ⟨b, off, rfl, hbl, _, hx⟩ := RdV.at (HR.out wr bw) hlt
   obtain ⟨x0, c1, r0⟩ := hx 0 (by omega)
   simp only [Nat.add_zero] at c1
   have kc1 := Cls.cell hbl c1
   obtain ⟨e, he⟩ : ∃ e, es[k]?.getD en0 = e := ⟨_, rfl⟩
   rw [he] at r0
   have HE : Hid _ := he
   clear hx he
   obtain ⟨nm1, hh⟩ := e
   have RB : RdV wr S x0 (.bytes nm1) := r0
   have hcv : ∀ i : Cls wr, (convert 22 9 x0).run Tryz.prog i.W = .ok (.string (strOfNums nm1)) i.W := fun i => conv_d _ nm1 S _ (RdV.step RB i.h)
   have hcy : ∀ i : Cls wr, (convert 22 9 (.slice ya nm.length yc)).run Tryz.prog i.W = .ok (.string (strOfNums nm)) i.W := fun i => conv_d _ nm S2 _ (HY.out _ (bw.trans (i.h.mono bw.size)))
   obtain ⟨xa, xc', rfl⟩ := RdV.sliceB RB
   have hgs : geS nm1 nm = !Op.bytesLess (strOfNums nm1).toList (strOfNums nm).toList := rfl
   generalize nm1.length = xn at *
   generalize strOfNums nm1 = s1 at *
   generalize strOfNums nm = s2 at *
   clear r0 RB
   by_cases hge : Op.bytesLess s1.toList s2.toList = true
   ·have HF : Hid (∀ i, i < k + 1 → geS (es[i]?.getD en0).nm nm = false) := fun i hi => by
     by_cases h1 : i < k
     ·exact HA.out i h1
     ·obtain rfl : i = k := by omega
      rw [HE.out]; rw [hgs, hge]; rfl
    go_wp2
    refine wp_region_cls (by kernel_rfl) (by kernel_rfl) ?_
    repeat (go_big_quiet_step (fail))
    refine wpQuiet_nil ?_
    rintro w' ⟨⟨w', hb'⟩, rfl⟩
    have vH' := vH.step hb'
    have hb3 := bw.trans (hb'.mono bw.size)
    go_wp2
    go_roundw
    case rel => exact ⟨k + 1, by omega, by go_num, hb3, vH', HF.out⟩
    case measure => simp [intOf]; omega
   ·have hg2 : Op.bytesLess s1.toList s2.toList = false := by simpa using hge
    have HP : Hid (pl es nm = k) := pl_at es nm k hk HA.out (fun _ => by rw [HE.out]; rw [hgs, hg2]; rfl)
    go_wp2
    refine wp_region_cls (by kernel_rfl) (by kernel_rfl) ?_
    repeat (go_big_quiet_step (fail))
    refine wpQuiet_nil ?_
    rintro w' ⟨⟨w', hb'⟩, rfl⟩
    have B1 : Below w.heap.size w w' := bw.trans (hb'.mono bw.size)
    have V1 : VarA w' w.heap.size 24 #[.int .i64 p, .int .i64 q, .bool d] := vH.step hb'
    have s1 := B1.size
    have hvl := V1.lt
    have c81 := HC8.out _ B1
    obtain ⟨VV, hV1, hV2⟩ := RdV.lies (HR.out _ B1)
    have hL := (hV2 k hk).1
    have hkc : k ≤ xc := Nat.le_trans hk hcap
    have htl : (es.take k).length = k := by rw [List.length_take]; omega
    have hr1 : ∀ i, i < (es.take k).length → RdV w' (Nm w' (fun b => S b ∨ w.heap.size ≤ b) (.slice none 0 0)) (VV i) (.bytes ((es.take k)[i]?.getD en0).nm) := fun i hi => by
     rw [getD_take _ _ _ _ hi]
     exact RdV.mono (fun b hb => ⟨.inl hb, Nat.lt_of_lt_of_le (HS.out b hb) s1, fun e => by cases e⟩) (hV1 i (by rw [List.length_take] at hi; omega))
    have H1 : Hid _ := hr1
    have H2 : Hid _ := hL
    have HB1 : Hid (Below w.heap.size w w') := B1
    have HV1 : Hid (VarA w' w.heap.size 24 #[.int .i64 p, .int .i64 q, .bool d]) := V1
    clear hr1 hL hV1 hV2 B1 V1 vH bw hb'
    go_wp2_with (first | ((with_reducible refine guardSlice ?_); refine wpList_sl _ (sliceHE _ _ _ k hkc _) ?_) | (at_builtin; go_must (refine wpList_appE _ rfl (.tmp 31) (.tmp 37) rfl (.slice none 0 0) rfl [] (es.take k) (w.heap.size + 1) _ _ (fun b => S b ∨ w.heap.size ≤ b) (by rw [htl]; rfl) VV H2.out H1.out (SE.nil _ _ _) (by omega) (by rw [htl]; simp; omega) ?_; intro v5 w5 se5 hg5 hgg5)))
    rw [List.nil_append] at se5
    obtain ⟨a5, c5, rfl⟩ := se5.shapeN htl
    have B5 : Below w.heap.size w w5 := Below.grown HB1.out hg5 s1 (fun q hq => by cases hq)
    have V5 : VarA w5 w.heap.size 24 #[.int .i64 p, .int .i64 q, .bool d] := (hg5.block _ hvl (fun e => by cases e)).trans HV1.out
    have s5 := B5.size
    have hvl5 := V5.lt
    have hb5 := se5.lt
    have HSE5 : Hid _ := se5
    have HB5 : Hid (Below w.heap.size w w5) := B5
    have HV5 : Hid (VarA w5 w.heap.size 24 #[.int .i64 p, .int .i64 q, .bool d]) := V5
    clear H1 H2 HB1 HV1 c81 hgg5 hg5 se5 B5 V5
    go_wp2
    refine wp_region_noPanic ?_
    refine wp_region_held_drew (S := fun W => W.cell? ⟨w.heap.size, 0, none⟩ = some (.int .i64 p) ∧ W.cell? ⟨w.heap.size, 1, none⟩ = some (.int .i64 q) ∧ W.cell? ⟨w.heap.size, 2, none⟩ = some (.bool d)) (by kernel_rfl) (HV5.out.dr.l3) (fun hHeld => ?_)
    refine wpAnyH_take (i := 0) (v := ?_) rfl (by kernel_rfl) (by kernel_rfl) (by kernel_rfl) (fun _ _ _ h => h) (Or.inl ⟨by rfl, ?_⟩) (by assumption) ?_
    rotate_left
    ·(intro _ h; (try dsimp only at h); go_simp; try with_reducible rfl)
    try simp only [Act.put, qz1, qz2, qz3, qz4, qz5, qz6]
    refine wpAnyH_take (i := 2) (v := ?_) rfl (by kernel_rfl) (by kernel_rfl) (by kernel_rfl) (fun _ _ _ h => h) (Or.inl ⟨by rfl, ?_⟩) (by assumption) ?_
    rotate_left
    ·(intro _ h; (try dsimp only at h); go_simp; try with_reducible rfl)
    try simp only [Act.put, qz1, qz2, qz3, qz4, qz5, qz6]
    refine wpAnyH_take (i := 4) (v := ?_) rfl (by kernel_rfl) (by kernel_rfl) (by kernel_rfl) (fun _ _ _ h => h) (Or.inl ⟨by rfl, ?_⟩) (by assumption) ?_
    rotate_left
    ·(intro _ h; (try dsimp only at h); go_simp; try with_reducible rfl)
    try simp only [Act.put, qz1, qz2, qz3, qz4, qz5, qz6]
    refine wpAnyH_ready (rs := [1]) (by kernel_rfl) (by simp) ?_
    refine AllReadyH.cons rfl (fun K hK => ?_) AllReadyH.nil
    go_simp
    have b6 : Below w5.heap.size w5 (w5.drew.alloc (.cells #[] 5)) := Below.alloc (Below.drew (Below.refl w5.heap.size w5)) (Nat.le_refl _) _
    refine hK.out _ _ (HV5.out.step b6).l3 (fun hHeld => ?_)
    clear hK K
    try simp only [Act.put, qz1, qz2, qz3, qz4, qz5, qz6]
    refine wpAnyH_ready (rs := [3]) (by kernel_rfl) (by simp) ?_
    refine AllReadyH.cons rfl (fun K hK => ?_) AllReadyH.nil
    have hry := HRB.out _ (HB5.out.trans (b6.mono s5))
    refine step_appS rfl (.tmp 40) (.tmp 41) (by rfl) w5.heap.size _ [] nm (by rfl) (owns_empty w5.drew) ya nm.length yc (by rfl) rfl hry.1 (by simp) (by omega) (by simp) (fun h => hry.2.2.2 h) ?_
    intro v6 w6 ho6 hg6
    rw [List.nil_append] at ho6
    obtain ⟨ua, uc, rfl, _⟩ := ho6.shape
    have b7 : Below w5.heap.size w5 w6 := Below.grown b6 hg6 (by simp) (fun q hq => ((owns_empty w5.drew).lt q hq).1)
    have s7 := b7.size
    refine hK.out _ _ (HV5.out.step b7).l3 (fun hHeld => ?_)
    clear hK K
    try simp only [Act.put, qz1, qz2, qz3, qz4, qz5, qz6]
    refine wpAnyH_take (i := 5) (v := ?_) rfl (by kernel_rfl) (by kernel_rfl) (by kernel_rfl) (fun _ _ _ h => h) (Or.inl ⟨by rfl, ?_⟩) (by assumption) ?_
    rotate_left
    ·(intro _ h; (try dsimp only at h); go_simp; try with_reducible rfl)
    try simp only [Act.put, qz1, qz2, qz3, qz4, qz5, qz6]
    refine wpAnyH_ready (rs := [6]) (by kernel_rfl) (by simp) ?_
    refine AllReadyH.cons rfl (fun K hK => ?_) AllReadyH.nil
    go_simp
    have b8 : Below w5.heap.size w5 (w6.alloc (.cells #[.slice ua nm.length uc, .int .i64 p, .int .i64 q, .bool d] 139)) := Below.alloc b7 s7 _
    refine hK.out _ _ (HV5.out.step b8).l3 (fun hHeld => ?_)
    clear hK K
    try simp only [Act.put, qz1, qz2, qz3, qz4, qz5, qz6]
    refine wpAnyH_ready (rs := [7]) (by kernel_rfl) (by simp) ?_
    refine AllReadyH.cons rfl (fun K hK => ?_) AllReadyH.nil
    refine step_appE (w6.alloc (.cells #[.slice ua nm.length uc, .int .i64 p, .int .i64 q, .bool d] 139)) rfl (.tmp 39) (.tmp 45) (by rfl) _ (by rfl) (es.take k) [⟨nm, (p, q, d)⟩] (w.heap.size + 1) 1 (some ⟨w6.heap.size, 0, none⟩) (fun b => S b ∨ w.heap.size ≤ b) (by rfl) (fun _ => .slice ua nm.length uc) (.inr ⟨_, rfl, fun t u ht => World.news_of_block (heap_alloc_new _ _) t u (by rw [enRow_one] at ht; exact ht)⟩) ?_ (SE.step HSE5.out b8) (by simp; omega) (by rw [htl]; simp; omega) ?_
    ·intro i hi
     obtain rfl : i = 0 := by simpa using hi
     refine RdV.mono (fun b hb => ⟨.inr (by omega), by simp; omega, fun e => by have := hb5 b e; omega⟩) (RdV.step (OwV.rd (OwV.ofOwns HZ.out ho6)) (Below.newH _))
    intro v9 w9 se9 hg9 hgg9
    have V9 : VarA w9 w.heap.size 24 _ := (hg9.block _ (by simp; omega) (fun e => by have := hb5 _ e.symm; omega)).trans (HV5.out.step b8)
    have B9 : Below w.heap.size w w9 := Below.grown (HB5.out.trans (b8.mono s5)) hg9 (by simp; omega) (fun q hq => by have := hb5 q hq; omega)
    refine hK.out _ _ V9.l3 (fun hHeld => ?_)
    clear hK K
    try simp only [Act.put, qz1, qz2, qz3, qz4, qz5, qz6]
    refine wpAnyH_take (i := 8) (v := ?_) rfl (by kernel_rfl) (by kernel_rfl) (by kernel_rfl) (fun _ _ _ h => h) (Or.inl ⟨by rfl, ?_⟩) (by assumption) ?_
    rotate_left
    ·(intro _ h; (try dsimp only at h); go_simp; try with_reducible rfl)
    try simp only [Act.put, qz1, qz2, qz3, qz4, qz5, qz6]
    refine wpAnyH_done (by kernel_rfl) (NoPanic.normal ?_) _
    clear hHeld
    have hlen9 : (es.take k ++ [(⟨nm, (p, q, d)⟩ : En)]).length = k + 1 := by rw [List.length_append, htl]; rfl
    obtain ⟨a9, c9, rfl⟩ := se9.shapeN hlen9
    have hb9 := se9.lt
    have s9 := B9.size
    have hvl9 := V9.lt
    obtain ⟨VV, hV1, hV2⟩ := RdV.lies (HR.out _ B9)
    have hL := (hV2 k hk).2
    have hdl : (es.drop k).length = es.length - k := List.length_drop
    have hr1 : ∀ i, i < (es.drop k).length → RdV w9 (Nm w9 (fun b => S b ∨ w.heap.size ≤ b) (.slice a9 (k + 1) c9)) (VV (k + i)) (.bytes ((es.drop k)[i]?.getD en0).nm) := fun i hi => by
     rw [getD_drop]
     exact RdV.mono (fun b hb => ⟨.inl hb, Nat.lt_of_lt_of_le (HS.out b hb) s9, fun e => by have := hb9 b e; have := HS.out b hb; omega⟩) (hV1 (k + i) (by omega))
    have H1 : Hid _ := hr1
    have H2 : Hid _ := hL
    have HB9 : Hid (Below w.heap.size w w9) := B9
    have HSE9 : Hid _ := se9
    have c89 := HC8.out _ B9
    clear hr1 hL hV1 hV2 B9 V9 se9 hg9 hgg9 b6 b7 b8 ho6 hg6 hry
    go_wp2_with (first | ((with_reducible refine guardSlice ?_); refine wpList_sl _ (sliceLE _ _ _ k hk _) ?_) | (at_builtin; go_must (refine wpList_appE _ rfl (.tmp 48) (.tmp 54) rfl _ rfl _ (es.drop k) (w.heap.size + 1) _ _ (fun b => S b ∨ w.heap.size ≤ b) (by rw [hdl]; rfl) (fun i => VV (k + i)) H2.out H1.out HSE9.out (by omega) (by rw [hlen9, hdl]; omega) ?_; intro v10 w10 se10 hg10 hgg10; obtain ⟨n10, hn10⟩ : ∃ n, (es.take k ++ [(⟨nm, (p, q, d)⟩ : En)] ++ es.drop k).length = n := ⟨_, rfl⟩; obtain ⟨a10, c10, rfl⟩ := se10.shapeN hn10; clear hn10; have B10 : Below w.heap.size w w10 := Below.grown HB9.out hg10 s9 (fun q hq => by have := hb9 q hq; omega); have fz := HFZ.out _ B10; have c810 := HC8.out _ B10)))
    all_goals (have HSE10 : Hid (SE w10 (w.heap.size + 1) _ _ _) := se10; have HB10 : Hid (Below w.heap.size w w10) := B10; clear H1 H2 HB9 HSE9 hgg10 hg10 se10 B10; go_end0; refine ⟨rfl, w10, _, rfl, HB10.out, ?_⟩; unfold addE; rw [HP.out]; exact RdV.mono (fun b hb => ⟨hb.1.elim id (fun h => .inr (by omega)), hb.2⟩) (SE.rd HSE10.out))
  ·have HP : Hid (pl es nm = k) := pl_at es nm k hk HA.out (fun h => absurd h hlt)
   have hlt9 : ¬ (k : Int) < (es.length : Int) := by omega
   go_wp2
   refine wp_region_cls (by kernel_rfl) (by kernel_rfl) ?_
   repeat (go_big_quiet_step (fail))
   refine wpQuiet_nil ?_
   rintro w' ⟨⟨w', hb'⟩, rfl⟩
   have B1 : Below w.heap.size w w' := bw.trans (hb'.mono bw.size)
   have V1 : VarA w' w.heap.size 24 #[.int .i64 p, .int .i64 q, .bool d] := vH.step hb'
   have s1 := B1.size
   have hvl := V1.lt
   have c81 := HC8.out _ B1
   obtain ⟨VV, hV1, hV2⟩ := RdV.lies (HR.out _ B1)
   have hL := (hV2 k hk).1
   have hkc : k ≤ xc := Nat.le_trans hk hcap
   have htl : (es.take k).length = k := by rw [List.length_take]; omega
   have hr1 : ∀ i, i < (es.take k).length → RdV w' (Nm w' (fun b => S b ∨ w.heap.size ≤ b) (.slice none 0 0)) (VV i) (.bytes ((es.take k)[i]?.getD en0).nm) := fun i hi => by
    rw [getD_take _ _ _ _ hi]
    exact RdV.mono (fun b hb => ⟨.inl hb, Nat.lt_of_lt_of_le (HS.out b hb) s1, fun e => by cases e⟩) (hV1 i (by rw [List.length_take] at hi; omega))
   have H1 : Hid _ := hr1
   have H2 : Hid _ := hL
   have HB1 : Hid (Below w.heap.size w w') := B1
   have HV1 : Hid (VarA w' w.heap.size 24 #[.int .i64 p, .int .i64 q, .bool d]) := V1
   clear hr1 hL hV1 hV2 B1 V1 vH bw hb'
   go_wp2_with (first | ((with_reducible refine guardSlice ?_); refine wpList_sl _ (sliceHE _ _ _ k hkc _) ?_) | (at_builtin; go_must (refine wpList_appE _ rfl (.tmp 31) (.tmp 37) rfl (.slice none 0 0) rfl [] (es.take k) (w.heap.size + 1) _ _ (fun b => S b ∨ w.heap.size ≤ b) (by rw [htl]; rfl) VV H2.out H1.out (SE.nil _ _ _) (by omega) (by rw [htl]; simp; omega) ?_; intro v5 w5 se5 hg5 hgg5)))
   rw [List.nil_append] at se5
   obtain ⟨a5, c5, rfl⟩ := se5.shapeN htl
   have B5 : Below w.heap.size w w5 := Below.grown HB1.out hg5 s1 (fun q hq => by cases hq)
   have V5 : VarA w5 w.heap.size 24 #[.int .i64 p, .int .i64 q, .bool d] := (hg5.block _ hvl (fun e => by cases e)).trans HV1.out
   have s5 := B5.size
   have hvl5 := V5.lt
   have hb5 := se5.lt
   have HSE5 : Hid _ := se5
   have HB5 : Hid (Below w.heap.size w w5) := B5
   have HV5 : Hid (VarA w5 w.heap.size 24 #[.int .i64 p, .int .i64 q, .bool d]) := V5
   clear H1 H2 HB1 HV1 c81 hgg5 hg5 se5 B5 V5
   go_wp2
   refine wp_region_noPanic ?_
   refine wp_region_held_drew (S := fun W => W.cell? ⟨w.heap.size, 0, none⟩ = some (.int .i64 p) ∧ W.cell? ⟨w.heap.size, 1, none⟩ = some (.int .i64 q) ∧ W.cell? ⟨w.heap.size, 2, none⟩ = some (.bool d)) (by kernel_rfl) (HV5.out.dr.l3) (fun hHeld => ?_)
   refine wpAnyH_take (i := 0) (v := ?_) rfl (by kernel_rfl) (by kernel_rfl) (by kernel_rfl) (fun _ _ _ h => h) (Or.inl ⟨by rfl, ?_⟩) (by assumption) ?_
   rotate_left
   ·(intro _ h; (try dsimp only at h); go_simp; try with_reducible rfl)
   try simp only [Act.put, qz1, qz2, qz3, qz4, qz5, qz6]
   refine wpAnyH_take (i := 2) (v := ?_) rfl (by kernel_rfl) (by kernel_rfl) (by kernel_rfl) (fun _ _ _ h => h) (Or.inl ⟨by rfl, ?_⟩) (by assumption) ?_
   rotate_left
   ·(intro _ h; (try dsimp only at h); go_simp; try with_reducible rfl)
   try simp only [Act.put, qz1, qz2, qz3, qz4, qz5, qz6]
   refine wpAnyH_take (i := 4) (v := ?_) rfl (by kernel_rfl) (by kernel_rfl) (by kernel_rfl) (fun _ _ _ h => h) (Or.inl ⟨by rfl, ?_⟩) (by assumption) ?_
   rotate_left
   ·(intro _ h; (try dsimp only at h); go_simp; try with_reducible rfl)
   try simp only [Act.put, qz1, qz2, qz3, qz4, qz5, qz6]
   refine wpAnyH_ready (rs := [1]) (by kernel_rfl) (by simp) ?_
   refine AllReadyH.cons rfl (fun K hK => ?_) AllReadyH.nil
   go_simp
   have b6 : Below w5.heap.size w5 (w5.drew.alloc (.cells #[] 5)) := Below.alloc (Below.drew (Below.refl w5.heap.size w5)) (Nat.le_refl _) _
   refine hK.out _ _ (HV5.out.step b6).l3 (fun hHeld => ?_)
   clear hK K
   try simp only [Act.put, qz1, qz2, qz3, qz4, qz5, qz6]
   refine wpAnyH_ready (rs := [3]) (by kernel_rfl) (by simp) ?_
   refine AllReadyH.cons rfl (fun K hK => ?_) AllReadyH.nil
   have hry := HRB.out _ (HB5.out.trans (b6.mono s5))
   refine step_appS rfl (.tmp 40) (.tmp 41) (by rfl) w5.heap.size _ [] nm (by rfl) (owns_empty w5.drew) ya nm.length yc (by rfl) rfl hry.1 (by simp) (by omega) (by simp) (fun h => hry.2.2.2 h) ?_
   intro v6 w6 ho6 hg6
   rw [List.nil_append] at ho6
   obtain ⟨ua, uc, rfl, _⟩ := ho6.shape
   have b7 : Below w5.heap.size w5 w6 := Below.grown b6 hg6 (by simp) (fun q hq => ((owns_empty w5.drew).lt q hq).1)
   have s7 := b7.size
   refine hK.out _ _ (HV5.out.step b7).l3 (fun hHeld => ?_)
   clear hK K
   try simp only [Act.put, qz1, qz2, qz3, qz4, qz5, qz6]
   refine wpAnyH_take (i := 5) (v := ?_) rfl (by kernel_rfl) (by kernel_rfl) (by kernel_rfl) (fun _ _ _ h => h) (Or.inl ⟨by rfl, ?_⟩) (by assumption) ?_
   rotate_left
   ·(intro _ h; (try dsimp only at h); go_simp; try with_reducible rfl)
   try simp only [Act.put, qz1, qz2, qz3, qz4, qz5, qz6]
   refine wpAnyH_ready (rs := [6]) (by kernel_rfl) (by simp) ?_
   refine AllReadyH.cons rfl (fun K hK => ?_) AllReadyH.nil
   go_simp
   have b8 : Below w5.heap.size w5 (w6.alloc (.cells #[.slice ua nm.length uc, .int .i64 p, .int .i64 q, .bool d] 139)) := Below.alloc b7 s7 _
   refine hK.out _ _ (HV5.out.step b8).l3 (fun hHeld => ?_)
   clear hK K
   try simp only [Act.put, qz1, qz2, qz3, qz4, qz5, qz6]
   refine wpAnyH_ready (rs := [7]) (by kernel_rfl) (by simp) ?_
   refine AllReadyH.cons rfl (fun K hK => ?_) AllReadyH.nil
   refine step_appE (w6.alloc (.cells #[.slice ua nm.length uc, .int .i64 p, .int .i64 q, .bool d] 139)) rfl (.tmp 39) (.tmp 45) (by rfl) _ (by rfl) (es.take k) [⟨nm, (p, q, d)⟩] (w.heap.size + 1) 1 (some ⟨w6.heap.size, 0, none⟩) (fun b => S b ∨ w.heap.size ≤ b) (by rfl) (fun _ => .slice ua nm.length uc) (.inr ⟨_, rfl, fun t u ht => World.news_of_block (heap_alloc_new _ _) t u (by rw [enRow_one] at ht; exact ht)⟩) ?_ (SE.step HSE5.out b8) (by simp; omega) (by rw [htl]; simp; omega) ?_
   ·intro i hi
    obtain rfl : i = 0 := by simpa using hi
    refine RdV.mono (fun b hb => ⟨.inr (by omega), by simp; omega, fun e => by have := hb5 b e; omega⟩) (RdV.step (OwV.rd (OwV.ofOwns HZ.out ho6)) (Below.newH _))
   intro v9 w9 se9 hg9 hgg9
   have V9 : VarA w9 w.heap.size 24 _ := (hg9.block _ (by simp; omega) (fun e => by have := hb5 _ e.symm; omega)).trans (HV5.out.step b8)
   have B9 : Below w.heap.size w w9 := Below.grown (HB5.out.trans (b8.mono s5)) hg9 (by simp; omega) (fun q hq => by have := hb5 q hq; omega)
   refine hK.out _ _ V9.l3 (fun hHeld => ?_)
   clear hK K
   try simp only [Act.put, qz1, qz2, qz3, qz4, qz5, qz6]
   refine wpAnyH_take (i := 8) (v := ?_) rfl (by kernel_rfl) (by kernel_rfl) (by kernel_rfl) (fun _ _ _ h => h) (Or.inl ⟨by rfl, ?_⟩) (by assumption) ?_
   rotate_left
   ·(intro _ h; (try dsimp only at h); go_simp; try with_reducible rfl)
   try simp only [Act.put, qz1, qz2, qz3, qz4, qz5, qz6]
   refine wpAnyH_done (by kernel_rfl) (NoPanic.normal ?_) _
   clear hHeld
   have hlen9 : (es.take k ++ [(⟨nm, (p, q, d)⟩ : En)]).length = k + 1 := by rw [List.length_append, htl]; rfl
   obtain ⟨a9, c9, rfl⟩ := se9.shapeN hlen9
   have hb9 := se9.lt
   have s9 := B9.size
   have hvl9 := V9.lt
   obtain ⟨VV, hV1, hV2⟩ := RdV.lies (HR.out _ B9)
   have hL := (hV2 k hk).2
   have hdl : (es.drop k).length = es.length - k := List.length_drop
   have hr1 : ∀ i, i < (es.drop k).length → RdV w9 (Nm w9 (fun b => S b ∨ w.heap.size ≤ b) (.slice a9 (k + 1) c9)) (VV (k + i)) (.bytes ((es.drop k)[i]?.getD en0).nm) := fun i hi => by
    rw [getD_drop]
    exact RdV.mono (fun b hb => ⟨.inl hb, Nat.lt_of_lt_of_le (HS.out b hb) s9, fun e => by have := hb9 b e; have := HS.out b hb; omega⟩) (hV1 (k + i) (by omega))
   have H1 : Hid _ := hr1
   have H2 : Hid _ := hL
   have HB9 : Hid (Below w.heap.size w w9) := B9
   have HSE9 : Hid _ := se9
   have c89 := HC8.out _ B9
   clear hr1 hL hV1 hV2 B9 V9 se9 hg9 hgg9 b6 b7 b8 ho6 hg6 hry
   go_wp2_with (first | ((with_reducible refine guardSlice ?_); refine wpList_sl _ (sliceLE _ _ _ k hk _) ?_) | (at_builtin; go_must (refine wpList_appE _ rfl (.tmp 48) (.tmp 54) rfl _ rfl _ (es.drop k) (w.heap.size + 1) _ _ (fun b => S b ∨ w.heap.size ≤ b) (by rw [hdl]; rfl) (fun i => VV (k + i)) H2.out H1.out HSE9.out (by omega) (by rw [hlen9, hdl]; omega) ?_; intro v10 w10 se10 hg10 hgg10; obtain ⟨n10, hn10⟩ : ∃ n, (es.take k ++ [(⟨nm, (p, q, d)⟩ : En)] ++ es.drop k).length = n := ⟨_, rfl⟩; obtain ⟨a10, c10, rfl⟩ := se10.shapeN hn10; clear hn10; have B10 : Below w.heap.size w w10 := Below.grown HB9.out hg10 s9 (fun q hq => by have := hb9 q hq; omega); have fz := HFZ.out _ B10; have c810 := HC8.out _ B10)))
   all_goals (have HSE10 : Hid (SE w10 (w.heap.size + 1) _ _ _) := se10; have HB10 : Hid (Below w.heap.size w w10) := B10; clear H1 H2 HB9 HSE9 hgg10 hg10 se10 B10; go_end0; refine ⟨rfl, w10, _, rfl, HB10.out, ?_⟩; unfold addE; rw [HP.out]; exact RdV.mono (fun b hb => ⟨hb.1.elim id (fun h => .inr (by omega)), hb.2⟩) (SE.rd HSE10.out))
end
section
theorem wrapI (x : Int) (h1 : -9223372036854775808 ≤ x) (h2 : x ≤ 9223372036854775807) : IntKind.i64.wrap x = x := by
 simp only [IntKind.wrap, IntKind.bits, IntKind.signed]
 simp
 omega
theorem exec_sl {t t' : TypeId} {dst : Option Tmp} {x : Operand} {lo hi : Option Operand} {pos : String} {af : Array Edge} {gd : Option (Nat × Bool)} {ρ : Operand → Value} {w : World} {v : Value}
  (h : (Instr.sliceAt t (ρ x) (lo.map ρ) (hi.map ρ) none).run Tryz.prog w = .ok v w) : (execOp ρ ⟨dst, .slice t x lo hi none, t', pos, af, gd⟩).run Tryz.prog w = .ok (.value v) w := by
 unfold execOp
 simp only [Option.map_none, h, Sem.run_bind, Sem.run_pure, Result.andThen_ok]
theorem exec_slH {t t' : TypeId} {dst : Option Tmp} {x y : Operand} {pos : String} {af : Array Edge} {gd : Option (Nat × Bool)} {ρ : Operand → Value} {w : World} {v u z : Value}
  (hx : ρ x = u) (hy : ρ y = z) (h : (Instr.sliceAt t u none (some z) none).run Tryz.prog w = .ok v w) : (execOp ρ ⟨dst, .slice t x none (some y) none, t', pos, af, gd⟩).run Tryz.prog w = .ok (.value v) w :=
 exec_sl (by rw [hx, Option.map_some, hy]; exact h)
theorem exec_slL {t t' : TypeId} {dst : Option Tmp} {x y : Operand} {pos : String} {af : Array Edge} {gd : Option (Nat × Bool)} {ρ : Operand → Value} {w : World} {v u z : Value}
  (hx : ρ x = u) (hy : ρ y = z) (h : (Instr.sliceAt t u (some z) none none).run Tryz.prog w = .ok v w) : (execOp ρ ⟨dst, .slice t x (some y) none none, t', pos, af, gd⟩).run Tryz.prog w = .ok (.value v) w :=
 exec_sl (by rw [hx, Option.map_some, hy]; exact h)
def cutE (es : List En) (i : Nat) : List En := es.take i ++ es.drop (i + 1)
set_option maxHeartbeats 4000000 in
theorem specCut_any (g o : Nat) (xa : Option Addr) (xc : Nat) (es : List En) (i : Nat) (S : Nat → Prop) (w : World) (c8 : w.cell? ⟨g, o + 8, none⟩ = some (.slice xa es.length xc)) (hfz : w.frozen? ⟨g, o + 8, none⟩ = false) (r : RdV w S (.slice xa es.length xc) (ensDt es)) (hS : ∀ b, S b → b < w.heap.size) (hn : es.length ≤ 4000) (hi : i < es.length) :
  Calls Tryz.prog 237 #[.pointer (some ⟨g, o, none⟩), .int .i64 i] w fun e w' => e = .returned (.tuple #[]) ∧ ∃ W x, w' = W.setCell ⟨g, o + 8, none⟩ x ∧ Below w.heap.size w W ∧ RdV W (fun b => (S b ∨ w.heap.size ≤ b) ∧ b < W.heap.size) x (ensDt (cutE es i)) := by
 have hgl : g < w.heap.size := block_lt_of_cell (a := ⟨g, o + 8, none⟩) c8
 have hcap : es.length ≤ xc := by obtain ⟨a', cap', V', hv', hh', _⟩ := RdV.inv r; simp only [Value.slice.injEq] at hv'; obtain ⟨-, -, rfl⟩ := hv'; exact hh'.1
 have HR : Hid (∀ W, Below w.heap.size w W → RdV W S (.slice xa es.length xc) (.rows 139 4 es.length (fun i j => enCell (es[i]?.getD en0) j))) := RdV.old r
 have HC8 : Hid (∀ W, Below w.heap.size w W → W.cell? ⟨g, o + 8, none⟩ = some (.slice xa es.length xc)) := fun W hW => (hW.cell (p := ⟨g, o + 8, none⟩) hgl).trans c8
 have HFZ : Hid (∀ W, Below w.heap.size w W → W.frozen? ⟨g, o + 8, none⟩ = false) := fun W hW => (hW.frozen (p := ⟨g, o + 8, none⟩) hgl).trans hfz
 have HS : Hid (∀ b, S b → b < w.heap.size) := hS
 have hic : i ≤ xc := by omega
 have hwi : IntKind.i64.wrap ((i : Int) + 1) = (i : Int) + 1 := wrapI _ (by omega) (by omega)
 have htl : (es.take i).length = i := by rw [List.length_take]; omega
 have hdl : (es.drop (i + 1)).length = es.length - (i + 1) := List.length_drop
 clear r c8 hfz hS
 go_enter Tryz.func237, Tryz.ntmps237
 refine wp_region_noPanic ?_
 refine wp_region_Z (fun W => W.cell? ⟨g, o + 8, none⟩ = some (.slice xa es.length xc)) 19 (by kernel_rfl) (HC8.out _ (Below.drew (Below.refl w.heap.size w))) (fun hHeld => ?_)
 refine wpAnyZ_take (i := 0) (v := ?_) rfl (by kernel_rfl) (by kernel_rfl) (by kernel_rfl) (by kernel_rfl) (fun _ _ _ h => h) (Or.inl ⟨by rfl, ?_⟩) (by assumption) ?_
 rotate_left
 ·(intro _ h; (try dsimp only at h); go_simp; try with_reducible rfl)
 try simp only [Act.put, qz1, qz2, qz3, qz4, qz5, qz6]
 refine wpAnyZ_take (i := 2) (v := ?_) rfl (by kernel_rfl) (by kernel_rfl) (by kernel_rfl) (by kernel_rfl) (fun _ _ _ h => h) (Or.inl ⟨by rfl, ?_⟩) (by assumption) ?_
 rotate_left
 ·(intro _ h; (try dsimp only at h); go_simp; try with_reducible rfl)
 try simp only [Act.put, qz1, qz2, qz3, qz4, qz5, qz6]
 refine wpAnyZ_take (i := 3) (v := ?_) rfl (by kernel_rfl) (by kernel_rfl) (by kernel_rfl) (by kernel_rfl) (fun _ _ _ h => h) (Or.inl ⟨by rfl, ?_⟩) (by assumption) ?_
 rotate_left
 ·(intro _ h; (try dsimp only at h); go_simp; try with_reducible rfl)
 try simp only [Act.put, qz1, qz2, qz3, qz4, qz5, qz6]
 refine wpAnyZ_take (i := 4) (v := ?_) rfl (by kernel_rfl) (by kernel_rfl) (by kernel_rfl) (by kernel_rfl) (fun _ _ _ h => h) (Or.inl ⟨by rfl, ?_⟩) (by assumption) ?_
 rotate_left
 ·(intro _ h; (try dsimp only at h); go_simp; try with_reducible rfl)
 try simp only [Act.put, qz1, qz2, qz3, qz4, qz5, qz6]
 refine wpAnyZ_take (i := 5) (v := ?_) rfl (by kernel_rfl) (by kernel_rfl) (by kernel_rfl) (by kernel_rfl) (fun _ _ _ h => h) (Or.inl ⟨by rfl, ?_⟩) (by assumption) ?_
 rotate_left
 ·(intro _ h; (try dsimp only at h); go_simp; try with_reducible rfl)
 try simp only [Act.put, qz1, qz2, qz3, qz4, qz5, qz6]
 refine wpAnyZ_take (i := 6) (v := ?_) rfl (by kernel_rfl) (by kernel_rfl) (by kernel_rfl) (by kernel_rfl) (fun _ _ _ h => h) (Or.inl ⟨by rfl, ?_⟩) (by assumption) ?_
 rotate_left
 ·(intro _ h; (try dsimp only at h); go_simp; try with_reducible rfl)
 try simp only [Act.put, qz1, qz2, qz3, qz4, qz5, qz6]
 refine wpAnyZ_take (i := 7) (v := (.slice xa i xc)) rfl (by kernel_rfl) (by kernel_rfl) (by kernel_rfl) (by kernel_rfl) (fun _ _ _ h => h) (Or.inl ⟨by rfl, ?_⟩) (by assumption) ?_
 ·(intro w_ hSw_; (try dsimp only at hSw_); exact exec_slH (u := .slice xa es.length xc) (z := .int .i64 (i : Int)) (by rfl) (by rfl) (sliceHE xa es.length xc i hic w_))
 try simp only [Act.put, qz1, qz2, qz3, qz4, qz5, qz6]
 refine wpAnyZ_take (i := 9) (v := ?_) rfl (by kernel_rfl) (by kernel_rfl) (by kernel_rfl) (by kernel_rfl) (fun _ _ _ h => h) (Or.inl ⟨by rfl, ?_⟩) (by assumption) ?_
 rotate_left
 ·(intro _ h; (try dsimp only at h); go_simp; try with_reducible rfl)
 try simp only [Act.put, qz1, qz2, qz3, qz4, qz5, qz6]
 refine wpAnyZ_take (i := 10) (v := ?_) rfl (by kernel_rfl) (by kernel_rfl) (by kernel_rfl) (by kernel_rfl) (fun _ _ _ h => h) (Or.inl ⟨by rfl, ?_⟩) (by assumption) ?_
 rotate_left
 ·(intro _ h; (try dsimp only at h); go_simp; try with_reducible rfl)
 try simp only [Act.put, qz1, qz2, qz3, qz4, qz5, qz6]
 refine wpAnyZ_take (i := 11) (v := ?_) rfl (by kernel_rfl) (by kernel_rfl) (by kernel_rfl) (by kernel_rfl) (fun _ _ _ h => h) (Or.inl ⟨by rfl, ?_⟩) (by assumption) ?_
 rotate_left
 ·(intro _ h; (try dsimp only at h); go_simp; try with_reducible rfl)
 try simp only [Act.put, qz1, qz2, qz3, qz4, qz5, qz6]
 refine wpAnyZ_take (i := 12) (v := ?_) rfl (by kernel_rfl) (by kernel_rfl) (by kernel_rfl) (by kernel_rfl) (fun _ _ _ h => h) (Or.inl ⟨by rfl, ?_⟩) (by assumption) ?_
 rotate_left
 ·(intro _ h; (try dsimp only at h); go_simp; try with_reducible rfl)
 try simp only [Act.put, qz1, qz2, qz3, qz4, qz5, qz6]
 refine wpAnyZ_take (i := 13) (v := ?_) rfl (by kernel_rfl) (by kernel_rfl) (by kernel_rfl) (by kernel_rfl) (fun _ _ _ h => h) (Or.inl ⟨by rfl, ?_⟩) (by assumption) ?_
 rotate_left
 ·(intro _ h; (try dsimp only at h); go_simp; try with_reducible rfl)
 try simp only [Act.put, qz1, qz2, qz3, qz4, qz5, qz6]
 refine wpAnyZ_take (i := 14) (v := ?_) rfl (by kernel_rfl) (by kernel_rfl) (by kernel_rfl) (by kernel_rfl) (fun _ _ _ h => h) (Or.inl ⟨by rfl, ?_⟩) (by assumption) ?_
 rotate_left
 ·(intro _ h; (try dsimp only at h); go_simp; try with_reducible rfl)
 try simp only [Act.put, qz1, qz2, qz3, qz4, qz5, qz6]
 refine wpAnyZ_take (i := 15) (v := (.slice (if xc = i + 1 then xa else xa.map (·.add ((i + 1) * 4))) (es.length - (i + 1)) (xc - (i + 1)))) rfl (by kernel_rfl) (by kernel_rfl) (by kernel_rfl) (by kernel_rfl) (fun _ _ _ h => h) (Or.inl ⟨by rfl, ?_⟩) (by assumption) ?_
 ·(intro w_ hSw_; (try dsimp only at hSw_); exact exec_slL (u := .slice xa es.length xc) (z := .int .i64 ((i + 1 : Nat) : Int)) (by rfl) (by rfl) (sliceLE xa es.length xc (i + 1) hi w_))
 try simp only [Act.put, qz1, qz2, qz3, qz4, qz5, qz6]
 refine wpAnyZ_one (i := 1) (by kernel_rfl) rfl (fun K hK => ?_)
 go_simp
 have b1 : Below w.heap.size w (w.drew.alloc (.cells #[] 139)) := Below.alloc (Below.drew (Below.refl w.heap.size w)) (Nat.le_refl _) _
 refine hK.out _ _ (HC8.out _ b1) (fun hHeld => ?_)
 clear hK K
 try simp only [Act.put, qz1, qz2, qz3, qz4, qz5, qz6]
 refine wpAnyZ_one (i := 8) (by kernel_rfl) rfl (fun K hK => ?_)
 obtain ⟨VV, hV1, hV2⟩ := RdV.lies (HR.out _ b1)
 refine step_appE (w.drew.alloc (.cells #[] 139)) rfl (.tmp 5) (.tmp 11) (by rfl) (.slice (some ⟨w.heap.size, 0, none⟩) 0 0) (by rfl) [] (es.take i) w.heap.size xc xa (fun b => S b ∨ w.heap.size ≤ b) (by rw [htl]; rfl) VV (hV2 i (by omega)).1 ?_ (SE.empty w.drew w.heap.size (fun b => S b ∨ w.heap.size ≤ b) (Nat.le_refl _)) (by simp) (by rw [htl]; simp; omega) ?_
 ·intro j hj
  rw [getD_take _ _ _ _ hj]
  rw [htl] at hj
  exact RdV.mono (fun b hb => ⟨.inl hb, by have := HS.out b hb; simp; omega, fun e => by have := HS.out b hb; have e2 : w.heap.size = b := (by simpa [Value.ownBlock] using e); omega⟩) (hV1 j (by omega))
 intro v2 w2 se2 hg2 hgg2
 rw [List.nil_append] at se2
 have b2 : Below w.heap.size w w2 := Below.grown b1 hg2 (by simp) (fun q hq => by have e2 : w.heap.size = q := (by simpa [Value.ownBlock] using hq); omega)
 obtain ⟨a2, c2, rfl⟩ := se2.shapeN htl
 refine hK.out _ _ (HC8.out _ b2) (fun hHeld => ?_)
 clear hK K
 try simp only [Act.put, qz1, qz2, qz3, qz4, qz5, qz6]
 refine wpAnyZ_one (i := 16) (by kernel_rfl) rfl (fun K hK => ?_)
 obtain ⟨VW, hW1, hW2⟩ := RdV.lies (HR.out _ b2)
 have hb2 := se2.lt
 have s2 := b2.size
 refine step_appE w2 rfl (.tmp 12) (.tmp 19) (by rfl) (.slice a2 i c2) (by rfl) (es.take i) (es.drop (i + 1)) w.heap.size (xc - (i + 1)) _ (fun b => S b ∨ w.heap.size ≤ b) (by rw [hdl]; rfl) (fun j => VW (i + 1 + j)) (hW2 (i + 1) (by omega)).2 ?_ se2 s2 (by rw [htl, hdl]; omega) ?_
 ·intro j hj
  rw [getD_drop]
  rw [hdl] at hj
  exact RdV.mono (fun b hb => ⟨.inl hb, by have := HS.out b hb; omega, fun e => by have := HS.out b hb; have := hb2 b e; omega⟩) (hW1 (i + 1 + j) (by omega))
 intro v3 w3 se3 hg3 hgg3
 have b3 : Below w.heap.size w w3 := Below.grown b2 hg3 s2 (fun q hq => (hb2 q hq).1)
 obtain ⟨n3, hn3⟩ : ∃ n, (es.take i ++ es.drop (i + 1)).length = n := ⟨_, rfl⟩
 obtain ⟨a3, c3, rfl⟩ := se3.shapeN hn3
 clear hn3
 refine hK.out _ _ (HC8.out _ b3) (fun hHeld => ?_)
 clear hK K
 try simp only [Act.put, qz1, qz2, qz3, qz4, qz5, qz6]
 refine wpAnyZ_one (i := 17) (by kernel_rfl) rfl (fun K hK => ?_)
 go_simp
 refine hK.out _ _ (by assumption) (fun hHeld => ?_)
 clear hK K
 try simp only [Act.put, qz1, qz2, qz3, qz4, qz5, qz6]
 refine wpAnyZ_take (i := 18) (v := ?_) rfl (by kernel_rfl) (by kernel_rfl) (by kernel_rfl) (by kernel_rfl) (fun _ _ _ h => h) (Or.inl ⟨by rfl, ?_⟩) (by assumption) ?_
 rotate_left
 ·(intro _ h; (try dsimp only at h); go_simp; try with_reducible rfl)
 try simp only [Act.put, qz1, qz2, qz3, qz4, qz5, qz6]
 refine wpAnyZ_last (by kernel_rfl) rfl (fun K hK => ?_)
 have fz := HFZ.out _ b3
 have c83 := HC8.out _ b3
 go_simp
 refine hK.out _ _ ?_
 clear hK K
 try simp only [Act.put, qz1, qz2, qz3, qz4, qz5, qz6]
 refine wpAnyZ_done (by kernel_rfl) (NoPanic.normal ?_) _
 have HSE3 : Hid (SE w3 w.heap.size _ _ _) := se3
 have HB3 : Hid (Below w.heap.size w w3) := b3
 clear se3 b3 b1 b2 hHeld
 go_end0
 refine ⟨rfl, w3, _, rfl, HB3.out, ?_⟩
 unfold cutE
 exact RdV.mono (fun b hb => ⟨hb.1.elim id (fun h => .inr h), hb.2⟩) (SE.rd HSE3.out)
end
section
theorem step_stF2 {ty t' : TypeId} {dst : Option Tmp} {x y : Operand} {pos : String} {af : Array Edge} {ops : Array Oper} {a : Act} {K : Act → World → Prop} {Q : Exit → Act → World → Prop} {E : Prop} {w : World} {g off : Nat} {T : TypeId} {old vs new : Array Value}
  (hv : VarA w g T old) (hx : a.eval x = .pointer (some ⟨g, off, none⟩)) (hy : a.eval y = .agg vs) (hi : (Tryz.prog.info? ty).map (·.size) = some vs.size) (h1 : vs.toList.all (·.oneCell') = true) (hl : off + vs.size ≤ old.size)
  (hnew : (old.toList.take off ++ vs.toList ++ old.toList.drop (off + vs.size)).toArray = new)
  (hK : ∀ w', VarA w' g T new → Turned (fun b => b = g) w w' → K (a.put dst undef) w') :
  if Region.wanted ⟨dst, .store ty x y, t', pos, af, none⟩ (yielded ops a.tmps) = true then Oper.wp Tryz.prog ⟨dst, .store ty x y, t', pos, af, none⟩ a w K Q else E := by
 rw [if_pos (by simp [Region.wanted])]
 unfold Oper.wp execOp
 simp only [hx, hy, Instr.storeAt, Instr.sureAddr, Sem.run_bind, Sem.run_pure, Result.andThen_ok, storeF_run hv hl hi h1]
 rw [hnew]
 exact hK _ (VarA.row hv) (turned_row w g new)
def HdR (h : Hd) : Prop := 0 ≤ h.sh ∧ h.sh < 4 ∧ 0 ≤ h.ino ∧ h.ino ≤ 2147483647
theorem cur_keep {w w' : World} {pb q : Nat} (h : CurAt w pb) (t : Turned (fun b => b = q) w w') (hq : pb < q) : CurAt w' pb :=
 h.grown (r := some q) ⟨t.os, t.tape, t.output, t.size, fun k hk hne => t.block k hk (fun e => hne (by rw [e]))⟩ (fun k hk => by cases hk; exact hq)
theorem grown_keep {w w1 w' : World} {pb q : Nat} (h : w.grownBy w1 (some pb)) (t : Turned (fun b => b = q) w1 w') (hq : w.heap.size ≤ q) : w.grownBy w' (some pb) :=
 ⟨t.os.trans h.os, t.tape.trans h.tape, t.output.trans h.output, Nat.le_trans h.size t.size, fun k hk hne => (t.block k (Nat.lt_of_lt_of_le hk h.size) (fun e => by omega)).trans (h.block k hk hne)⟩
def HdSaid (w : World) (pb : Nat) (e : Ending) (w' : World) : Prop := ∃ hd : Hd, e = .returned hd.v ∧ HdR hd ∧ CurAt w' pb ∧ w.grownBy w' (some pb)
set_option maxHeartbeats 4000000 in
theorem handle4_any (pb : Nat) (x : Value) (l : List Nd) (S : Nat → Prop) (w : World) (h : CurAt w pb) (r : RdV w S x (ndsDt l)) (hS : ∀ b, S b → b ≠ pb) (hl : l.length ≤ 2097152) (hP : ∀ i : Nat, i < l.length → HdR (l[i]?.getD nd0).h) :
  Calls Tryz.prog 143 #[.pointer (some ⟨pb, 0, none⟩), .agg #[x]] w (HdSaid w pb) := by
 obtain ⟨xa, xc, rfl, _⟩ := RdV.sliced r
 have hpb := h.lt
 go_enter Tryz.func143, Tryz.ntmps143
 go_wp2_with fail
 obtain ⟨w0, hw0⟩ : ∃ W, W = (w.alloc (.cells #[.slice xa l.length xc] 55)).alloc (.cells #[.int .i64 0, .int .i64 0, .bool false] 24) := ⟨_, rfl⟩
 have B0 : Below w.heap.size w w0 := by rw [hw0]; exact Below.newH2 _ _
 have VT0 : VarA w0 w.heap.size 55 #[.slice xa l.length xc] := by rw [hw0]; exact (VarA.new w _ _).alloc _
 have VR0 : VarA w0 (w.heap.size + 1) 24 #[.int .i64 0, .int .i64 0, .bool false] := by rw [hw0]; have := VarA.new (w.alloc (.cells #[.slice xa l.length xc] 55)) 24 #[.int .i64 0, .int .i64 0, .bool false]; simpa using this
 rw [← hw0]
 clear hw0
 refine (once_any pb 10 _ (h.below B0) (by omega) (by omega)).mono ?_
 rintro e1 w1 ⟨b1, rfl, hc1, hg1⟩
 have T1 := Turned.ofGrown (S := fun b => b = pb) hg1 (fun k hk => by cases hk; rfl)
 have VT1 := VT0.turn T1 (by show w.heap.size ≠ pb; omega)
 have VR1 := VR0.turn T1 (by show w.heap.size + 1 ≠ pb; omega)
 have HG1 : w.grownBy w1 (some pb) := grown_trans (grown_below B0) hg1
 have z1 := HG1.size
 have HRW : Hid (∀ W, w.grownBy W (some pb) → RdV W S (.slice xa l.length xc) (ndsDt l)) := fun W hg => RdV.keep ((Turned.ofGrown (S := fun b => b = pb) hg (fun k hk => by cases hk; rfl)).keeps (fun b hb e => hS b hb e)) r
 have t1 := VT1.l1
 clear B0 VT0 VR0 T1 hg1 r h
 cases b1 with
 | true =>
  go_wp2_with fail
  refine (below_any pb 4 _ hc1 (by omega) (by omega)).mono ?_
  rintro e2 w2 ⟨x2, rfl, hx20, hx21, hc2, hg2⟩
  go_wp2_with fail
  refine (below_any pb 9 _ hc2 (by omega) (by omega)).mono ?_
  rintro e3 w3 ⟨x3, rfl, hx30, hx31, hc3, hg3⟩
  have hw3 : IntKind.i64.wrap (1 + x3) = 1 + x3 := wrapI _ (by omega) (by omega)
  go_wp2_with fail
  refine (once_any pb 2 _ hc3 (by omega) (by omega)).mono ?_
  rintro e4 w4 ⟨x4, rfl, hc4, hg4⟩
  have T4 := Turned.ofGrown (S := fun b => b = pb) (grown_trans (grown_trans hg2 hg3) hg4) (fun k hk => by cases hk; rfl)
  have HV4 : Hid _ := VR1.turn T4 (by show w.heap.size + 1 ≠ pb; omega)
  have HG4 : Hid (w.grownBy w4 (some pb)) := grown_trans HG1 (grown_trans (grown_trans hg2 hg3) hg4)
  have z4 := HG4.out.size
  clear hg2 hg3 hg4 T4
  go_wp2_with ((with_reducible refine guardStore (ty := 24) ?_); refine wpList_storeF HV4.out rfl rfl (by kernel_rfl) rfl (of_decide_eq_true rfl) rfl ?_; intro wz vZ t_)
  refine bodyPost_ret (results_cell_row Tryz.results143 _ _ _ _ _ _ _ rfl vZ Tryz.underlying24 rfl (by kernel_rfl)) rfl ?_
  exact ⟨(x2, 1 + x3, x4), rfl, ⟨by show 0 ≤ x2; omega, by show x2 < 4; omega, by show 0 ≤ 1 + x3; omega, by show 1 + x3 ≤ 2147483647; omega⟩, cur_keep hc4 t_ (by omega), grown_keep HG4.out t_ (by omega)⟩
 | false =>
  by_cases hl0 : l.length = 0
  ·rw [hl0] at t1
   go_wp2_with fail
   refine (below_any pb 4 _ hc1 (by omega) (by omega)).mono ?_
   rintro e2 w2 ⟨x2, rfl, hx20, hx21, hc2, hg2⟩
   go_wp2_with fail
   refine (below_any pb 9 _ hc2 (by omega) (by omega)).mono ?_
   rintro e3 w3 ⟨x3, rfl, hx30, hx31, hc3, hg3⟩
   have hw3 : IntKind.i64.wrap (1 + x3) = 1 + x3 := wrapI _ (by omega) (by omega)
   go_wp2_with fail
   refine (once_any pb 2 _ hc3 (by omega) (by omega)).mono ?_
   rintro e4 w4 ⟨x4, rfl, hc4, hg4⟩
   have T4 := Turned.ofGrown (S := fun b => b = pb) (grown_trans (grown_trans hg2 hg3) hg4) (fun k hk => by cases hk; rfl)
   have HV4 : Hid _ := VR1.turn T4 (by show w.heap.size + 1 ≠ pb; omega)
   have HG4 : Hid (w.grownBy w4 (some pb)) := grown_trans HG1 (grown_trans (grown_trans hg2 hg3) hg4)
   have z4 := HG4.out.size
   clear hg2 hg3 hg4 T4
   go_wp2_with ((with_reducible refine guardStore (ty := 24) ?_); refine wpList_storeF HV4.out rfl rfl (by kernel_rfl) rfl (of_decide_eq_true rfl) rfl ?_; intro wz vZ t_)
   refine bodyPost_ret (results_cell_row Tryz.results143 _ _ _ _ _ _ _ rfl vZ Tryz.underlying24 rfl (by kernel_rfl)) rfl ?_
   exact ⟨(x2, 1 + x3, x4), rfl, ⟨by show 0 ≤ x2; omega, by show x2 < 4; omega, by show 0 ≤ 1 + x3; omega, by show 1 + x3 ≤ 2147483647; omega⟩, cur_keep hc4 t_ (by omega), grown_keep HG4.out t_ (by omega)⟩
  ·have hpos : (0 : Int) < (l.length : Int) := by omega
   have hne : ¬ ((l.length : Int) = 0) := by omega
   go_wp2
   refine wp_region_noPanic ?_
   refine wp_region_held_drew (S := fun W => W.cell? ⟨w.heap.size, 0, none⟩ = some (.slice xa l.length xc)) (by kernel_rfl) (VT1.step (Below.drew (Below.refl w1.heap.size w1))).l1 (fun hHeld => ?_)
   refine wpAnyH_take (i := 0) (v := ?_) rfl (by kernel_rfl) (by kernel_rfl) (by kernel_rfl) (fun _ _ _ h => h) (Or.inl ⟨by rfl, ?_⟩) (by assumption) ?_
   rotate_left
   ·(intro _ h; (try dsimp only at h); go_simp; try with_reducible rfl)
   try simp only [Act.put, qz1, qz2, qz3, qz4, qz5, qz6]
   refine wpAnyH_take (i := 1) (v := ?_) rfl (by kernel_rfl) (by kernel_rfl) (by kernel_rfl) (fun _ _ _ h => h) (Or.inl ⟨by rfl, ?_⟩) (by assumption) ?_
   rotate_left
   ·(intro _ h; (try dsimp only at h); go_simp; try with_reducible rfl)
   try simp only [Act.put, qz1, qz2, qz3, qz4, qz5, qz6]
   refine wpAnyH_take (i := 2) (v := ?_) rfl (by kernel_rfl) (by kernel_rfl) (by kernel_rfl) (fun _ _ _ h => h) (Or.inl ⟨by rfl, ?_⟩) (by assumption) ?_
   rotate_left
   ·(intro _ h; (try dsimp only at h); go_simp; try with_reducible rfl)
   try simp only [Act.put, qz1, qz2, qz3, qz4, qz5, qz6]
   refine wpAnyH_take (i := 3) (v := ?_) rfl (by kernel_rfl) (by kernel_rfl) (by kernel_rfl) (fun _ _ _ h => h) (Or.inl ⟨by rfl, ?_⟩) (by assumption) ?_
   rotate_left
   ·(intro _ h; (try dsimp only at h); go_simp; try with_reducible rfl)
   try simp only [Act.put, qz1, qz2, qz3, qz4, qz5, qz6]
   refine wpAnyH_take (i := 4) (v := ?_) rfl (by kernel_rfl) (by kernel_rfl) (by kernel_rfl) (fun _ _ _ h => h) (Or.inl ⟨by rfl, ?_⟩) (by assumption) ?_
   rotate_left
   ·(intro _ h; (try dsimp only at h); go_simp; try with_reducible rfl)
   try simp only [Act.put, qz1, qz2, qz3, qz4, qz5, qz6]
   refine wpAnyH_take (i := 5) (v := ?_) rfl (by kernel_rfl) (by kernel_rfl) (by kernel_rfl) (fun _ _ _ h => h) (Or.inl ⟨by rfl, ?_⟩) (by assumption) ?_
   rotate_left
   ·(intro _ h; (try dsimp only at h); go_simp; try with_reducible rfl)
   try simp only [Act.put, qz1, qz2, qz3, qz4, qz5, qz6]
   refine wpAnyH_ready (rs := [6]) (by kernel_rfl) (by simp) ?_
   refine AllReadyH.cons rfl (fun K hK => ?_) AllReadyH.nil
   go_simp
   refine (below_any pb l.length _ (hc1.below (Below.drew (Below.refl w1.heap.size w1))) hpos (by omega)).mono ?_
   rintro e2 w2 ⟨x2, rfl, hx20, hx21, hc2, hg2⟩
   dsimp only
   have T2 := Turned.ofGrown (S := fun b => b = pb) hg2 (fun k hk => by cases hk; rfl)
   have VT2 := (VT1.step (Below.drew (Below.refl w1.heap.size w1))).turn T2 (by show w.heap.size ≠ pb; omega)
   have VR2 := (VR1.step (Below.drew (Below.refl w1.heap.size w1))).turn T2 (by show w.heap.size + 1 ≠ pb; omega)
   have HG2 : w.grownBy w2 (some pb) := grown_trans HG1 (grown_trans (grown_below (Below.drew (Below.refl w1.heap.size w1))) hg2)
   obtain ⟨i, rfl⟩ : ∃ i : Nat, x2 = (i : Int) := ⟨x2.toNat, by omega⟩
   have hi : i < l.length := by omega
   obtain ⟨b, off, rfl, hbl, _, hx⟩ := RdV.at (HRW.out w2 HG2) hi
   obtain ⟨y0, q0, s0⟩ := hx 0 (by omega)
   obtain ⟨y1, q1, s1⟩ := hx 1 (by omega)
   obtain ⟨y2, q2, s2⟩ := hx 2 (by omega)
   have HPi := hP i hi
   generalize l[i]?.getD nd0 = nd at *
   obtain ⟨⟨p, q, d⟩, pp, ll, vv, ee⟩ := nd
   obtain rfl : y0 = .int .i64 p := s0
   obtain rfl : y1 = .int .i64 q := s1
   obtain rfl : y2 = .bool d := s2
   simp only [Nat.add_zero] at q0
   refine hK.out _ _ VT2.l1 (fun hHeld => ?_)
   clear hK K
   try simp only [Act.put, qz1, qz2, qz3, qz4, qz5, qz6]
   refine wpAnyH_take (i := 7) (v := ?_) rfl (by kernel_rfl) (by kernel_rfl) (by kernel_rfl) (fun _ _ _ h => h) (Or.inl ⟨by rfl, ?_⟩) (by assumption) ?_
   rotate_left
   ·(intro _ h; (try dsimp only at h); go_simp; try with_reducible rfl)
   try simp only [Act.put, qz1, qz2, qz3, qz4, qz5, qz6]
   refine wpAnyH_take (i := 8) (v := ?_) rfl (by kernel_rfl) (by kernel_rfl) (by kernel_rfl) (fun _ _ _ h => h) (Or.inl ⟨by rfl, ?_⟩) (by assumption) ?_
   rotate_left
   ·(intro _ h; (try dsimp only at h); go_simp; try with_reducible rfl)
   try simp only [Act.put, qz1, qz2, qz3, qz4, qz5, qz6]
   refine wpAnyH_ready (rs := [9]) (by kernel_rfl) (by simp) ?_
   refine AllReadyH.cons rfl (fun K hK => ?_) AllReadyH.nil
   go_simp
   refine hK.out _ _ VT2.l1 (fun hHeld => ?_)
   clear hK K
   try simp only [Act.put, qz1, qz2, qz3, qz4, qz5, qz6]
   refine wpAnyH_ready (rs := [10]) (by kernel_rfl) (by simp) ?_
   refine AllReadyH.cons rfl (fun K hK => ?_) AllReadyH.nil
   refine step_stF2 VR2 (by rfl) (by rfl) (by kernel_rfl) rfl (of_decide_eq_true rfl) rfl ?_
   intro wz vZ t_
   refine hK.out _ _ (VT2.turn t_ (by show w.heap.size ≠ w.heap.size + 1; omega)).l1 (fun hHeld => ?_)
   clear hK K
   try simp only [Act.put, qz1, qz2, qz3, qz4, qz5, qz6]
   refine wpAnyH_done (by kernel_rfl) (NoPanic.normal ?_) _
   clear hHeld
   have z2 := HG2.size
   go_wp2
   refine bodyPost_ret (results_cell_row Tryz.results143 _ _ _ _ _ _ _ rfl vZ Tryz.underlying24 rfl (by kernel_rfl)) rfl ?_
   exact ⟨(p, q, d), rfl, HPi, cur_keep hc2 t_ (by omega), grown_keep HG2 t_ (by omega)⟩
end
section
def DirRel (w : World) (pb : Nat) (x : Value) (i : Value) (wr : World) : Prop :=
  ∃ k : Nat, k ≤ 4 ∧ i = .int .i64 k ∧ CurAt wr pb ∧ w.grownBy wr (some pb) ∧ VarA wr w.heap.size 55 #[x] ∧ VarA wr (w.heap.size + 1) 24 #[.int .i64 0, .int .i64 0, .bool false]
set_option maxHeartbeats 4000000 in
theorem dir4_any (pb : Nat) (x : Value) (l : List Nd) (S : Nat → Prop) (w : World) (h : CurAt w pb) (r : RdV w S x (ndsDt l)) (hS : ∀ b, S b → b ≠ pb) (hl : l.length ≤ 2097152) (hP : ∀ i : Nat, i < l.length → HdR (l[i]?.getD nd0).h) :
    Calls Tryz.prog 142 #[.pointer (some ⟨pb, 0, none⟩), .agg #[x]] w (HdSaid w pb) := by
  obtain ⟨xa, xc, rfl, _⟩ := RdV.sliced r
  have hpb := h.lt
  have HH : Hid (∀ W, CurAt W pb → w.grownBy W (some pb) → Calls Tryz.prog 143 #[.pointer (some ⟨pb, 0, none⟩), .agg #[.slice xa l.length xc]] W (HdSaid W pb)) := fun W hc hg => handle4_any pb _ l S W hc (RdV.keep ((Turned.ofGrown (S := fun b => b = pb) hg (fun k hk => by cases hk; rfl)).keeps (fun b hb e => hS b hb e)) r) hS hl hP
  have HC0 : Hid (CurAt w pb) := h
  clear r h hP hS
  go_enter Tryz.func142, Tryz.ntmps142
  go_wp2
  go_loopw [5] (fun i wr => DirRel w pb (.slice xa l.length xc) i wr) (fun i _ => 4 - (intOf i).toNat)
  case atStart =>
    refine ⟨0, Nat.zero_le _, rfl, HC0.out.below (Below.newH2 _ _), grown_below (Below.newH2 _ _), (VarA.new w _ _).alloc _, ?_⟩
    have := VarA.new (w.alloc (.cells #[.slice xa l.length xc] 55)) 24 #[.int .i64 0, .int .i64 0, .bool false]
    simpa using this
  case round =>
    obtain ⟨k, hk, rfl, hc, hg, vT, vR⟩ := hrel
    have t0 := vT.l1
    have z0 := hg.size
    have HG : Hid (w.grownBy wr (some pb)) := hg
    have HC : Hid (CurAt wr pb) := hc
    have HVT : Hid (VarA wr w.heap.size 55 _) := vT
    have HVR : Hid (VarA wr (w.heap.size + 1) 24 _) := vR
    have HCALL : Hid _ := HH.out wr hc hg
    clear hc hg vT vR
    by_cases hk4 : k < 4
    · have hki : (k : Int) < 4 := by omega
      go_wp2_with fail
      refine Calls.mono HCALL.out ?_
      rintro e2 w2 ⟨⟨p, q, d⟩, rfl, hr, hc2, hg2⟩
      have T2 := Turned.ofGrown (S := fun b => b = pb) hg2 (fun k hk => by cases hk; rfl)
      have z2 := hg2.size
      obtain ⟨w3, hw3⟩ : ∃ W, W = w2.alloc (.cells #[.int .i64 p, .int .i64 q, .bool d] 24) := ⟨_, rfl⟩
      have b3 : Below w2.heap.size w2 (w2.alloc (.cells #[.int .i64 p, .int .i64 q, .bool d] 24)) := Below.newH _
      have HT3 : Hid (VarA (w2.alloc (.cells #[.int .i64 p, .int .i64 q, .bool d] 24)) w.heap.size 55 #[.slice xa l.length xc]) := (HVT.out.turn T2 (by show w.heap.size ≠ pb; omega)).step b3
      have HR3 : Hid (VarA (w2.alloc (.cells #[.int .i64 p, .int .i64 q, .bool d] 24)) (w.heap.size + 1) 24 #[.int .i64 0, .int .i64 0, .bool false]) := (HVR.out.turn T2 (by show w.heap.size + 1 ≠ pb; omega)).step b3
      have HG3 : Hid (w.grownBy (w2.alloc (.cells #[.int .i64 p, .int .i64 q, .bool d] 24)) (some pb)) := grown_trans (grown_trans HG.out hg2) (grown_below b3)
      have HC3 : Hid (CurAt (w2.alloc (.cells #[.int .i64 p, .int .i64 q, .bool d] 24)) pb) := hc2.below b3
      obtain ⟨a0, a1, a2⟩ := (VarA.new w2 24 #[.int .i64 p, .int .i64 q, .bool d]).l3
      clear hw3 w3 T2 hg2 hc2 b3 HCALL
      cases d with
      | true =>
        go_wp2_with ((with_reducible refine guardStore (ty := 24) ?_); refine wpList_storeF HR3.out rfl rfl (by kernel_rfl) rfl (of_decide_eq_true rfl) rfl ?_; intro wz vZ t_)
        refine bodyPost_ret (results_cell_row Tryz.results142 _ _ _ _ _ _ _ rfl vZ Tryz.underlying24 rfl (by kernel_rfl)) rfl ?_
        exact ⟨(p, q, true), rfl, hr, cur_keep HC3.out t_ (by omega), grown_keep HG3.out t_ (by omega)⟩
      | false =>
        go_wp2
        first
        | exact ⟨⟨k + 1, by omega, by go_num, HC3.out, HG3.out, HT3.out, HR3.out⟩, by simp [intOf]; omega⟩
        | (go_roundw
           case rel => exact ⟨k + 1, by omega, by go_num, HC3.out, HG3.out, HT3.out, HR3.out⟩
           case measure => simp [intOf]; omega)
    · have hki : ¬ (k : Int) < 4 := by omega
      go_wp2_with fail
      refine Calls.mono HCALL.out ?_
      rintro e2 w2 ⟨⟨p, q, d⟩, rfl, hr, hc2, hg2⟩
      have T2 := Turned.ofGrown (S := fun b => b = pb) hg2 (fun k hk => by cases hk; rfl)
      have HR3 : Hid (VarA w2 (w.heap.size + 1) 24 #[.int .i64 0, .int .i64 0, .bool false]) := HVR.out.turn T2 (by show w.heap.size + 1 ≠ pb; omega)
      have HG3 : Hid (w.grownBy w2 (some pb)) := grown_trans HG.out hg2
      clear T2 hg2 HCALL
      go_wp2_with ((with_reducible refine guardStore (ty := 24) ?_); refine wpList_storeF HR3.out rfl rfl (by kernel_rfl) rfl (of_decide_eq_true rfl) rfl ?_; intro wz vZ t_)
      refine bodyPost_ret (results_cell_row Tryz.results142 _ _ _ _ _ _ _ rfl vZ Tryz.underlying24 rfl (by kernel_rfl)) rfl ?_
      exact ⟨(p, q, d), rfl, hr, cur_keep hc2 t_ (by omega), grown_keep HG3.out t_ (by omega)⟩
end
section
def In64 (n : Int) : Prop := -9223372036854775808 ≤ n ∧ n ≤ 9223372036854775807
def TxSaid (w : World) (pb : Nat) (e : Ending) (w' : World) : Prop := ∃ a b c : Int, e = .returned (.agg #[.int .i64 a, .int .i64 b, .int .i64 c]) ∧ (In64 a ∧ In64 b ∧ In64 c) ∧ CurAt w' pb ∧ w.grownBy w' (some pb)
structure TD (w wc : World) (pb X : Nat) (xc : Array Value) : Prop where
 c : CurAt wc pb
 g : w.grownBy wc (some pb)
 vR : VarA wc w.heap.size 31 #[.int .i64 0, .int .i64 0, .int .i64 0]
 vX : VarA wc X 31 xc
theorem TD.grow {w wc wd : World} {pb X : Nat} {xc : Array Value} (m : TD w wc pb X xc) (hc : CurAt wd pb) (hg : wc.grownBy wd (some pb)) (hp : pb < w.heap.size) (hX : w.heap.size ≤ X) : TD w wd pb X xc :=
 have T := Turned.ofGrown (S := fun b => b = pb) hg (fun k hk => by cases hk; rfl)
 ⟨hc, grown_trans m.g hg, m.vR.turn T (by show w.heap.size ≠ pb; omega), m.vX.turn T (by show X ≠ pb; omega)⟩
theorem TD.put {w wc wd : World} {pb X : Nat} {xc xd : Array Value} (m : TD w wc pb X xc) (t : Turned (fun b => b = X) wc wd) (v : VarA wd X 31 xd) (hp : pb < w.heap.size) (hX : w.heap.size < X) : TD w wd pb X xd :=
 ⟨cur_keep m.c t (by omega), grown_keep m.g t (by omega), m.vR.turn t (by show w.heap.size ≠ X; omega), v⟩
set_option maxHeartbeats 4000000 in
theorem tx5_any (pb : Nat) (w : World) (h : CurAt w pb) : Calls Tryz.prog 139 #[.pointer (some ⟨pb, 0, none⟩)] w (TxSaid w pb) := by
 have hpb := h.lt
 go_enter Tryz.func139, Tryz.ntmps139
 go_wp2_with fail
 refine Calls.mono (below_any pb 4 _ (h.alloc _) (by omega) (by omega)) ?_
 rintro e1 w1 ⟨a1, rfl, ha0, ha1, c1, g1⟩
 go_wp2_with fail
 refine Calls.mono (below_any pb 4 _ c1 (by omega) (by omega)) ?_
 rintro e2 w2 ⟨a2, rfl, hb0, hb1, c2, g2⟩
 go_wp2_with fail
 refine Calls.mono (below_any pb 200 _ c2 (by omega) (by omega)) ?_
 rintro e3 w3 ⟨a3, rfl, hc0, hc1, c3, g3⟩
 have G3 := grown_trans (grown_trans g1 g2) g3
 have T3 := Turned.ofGrown (S := fun b => b = pb) G3 (fun k hk => by cases hk; rfl)
 have V3 := (VarA.new w 31 #[.int .i64 0, .int .i64 0, .int .i64 0]).turn T3 (by show w.heap.size ≠ pb; omega)
 have hX : w.heap.size < w3.heap.size := V3.lt
 have H4 : Hid (TD w (w3.alloc (.cells #[.int .i64 a1, .int .i64 a2, .int .i64 a3] 31)) pb w3.heap.size #[.int .i64 a1, .int .i64 a2, .int .i64 a3]) := ⟨c3.alloc _, grown_trans (grown_trans (World.grownBy_alloc w _ _) G3) (World.grownBy_alloc w3 _ _), V3.alloc _, VarA.new _ _ _⟩
 clear G3 T3 V3 g1 g2 g3 c1 c2 c3 h
 generalize hXe : w3.heap.size = X at *
 go_wp2_with fail
 refine Calls.mono (once_any pb 15 _ H4.out.c (by omega) (by omega)) ?_
 rintro e5 w5 ⟨b5, rfl, c5, g5⟩
 have H5 : Hid (TD w w5 pb X #[.int .i64 a1, .int .i64 a2, .int .i64 a3]) := H4.out.grow c5 g5 hpb (by omega)
 clear c5 g5
 cases b5 with
 | false =>
  go_wp2_with fail
  refine Calls.mono (once_any pb 30 _ H5.out.c (by omega) (by omega)) ?_
  rintro e7 w7 ⟨b7, rfl, c7, g7⟩
  have H7 : Hid (TD w w7 pb X #[.int .i64 a1, .int .i64 a2, .int .i64 a3]) := H5.out.grow c7 g7 hpb (by omega)
  clear c7 g7
  cases b7 with
  | false =>
   obtain ⟨x0, x1, x2⟩ := H7.out.vX.l3
   go_wp2_with ((with_reducible refine guardStore (ty := 31) ?_); refine wpList_storeF H7.out.vR rfl rfl (by kernel_rfl) rfl (of_decide_eq_true rfl) rfl ?_; intro wz vZ t_)
   refine bodyPost_ret (results_cell_row Tryz.results139 _ _ _ _ _ _ _ rfl vZ Tryz.underlying31 rfl (by kernel_rfl)) rfl ?_
   exact ⟨a1, a2, a3, rfl, ⟨⟨by omega, by omega⟩, ⟨by omega, by omega⟩, ⟨by omega, by omega⟩⟩, cur_keep H7.out.c t_ (by omega), grown_keep H7.out.g t_ (by omega)⟩
  | true =>
   go_wp2_with fail
   refine Calls.mono (pick_any pb w7.heap.size [-1, 4] _ (H7.out.c.alloc _) (by simp) (by simp) (by have := H7.out.c.lt; omega) (heap_alloc_new w7 _)) ?_
   rintro e8 w8 ⟨x8, rfl, hm8, c8, g8⟩
   have H8 : Hid (TD w w8 pb X #[.int .i64 a1, .int .i64 a2, .int .i64 a3]) := (H7.out.grow (H7.out.c.alloc _) (World.grownBy_alloc w7 _ _) hpb (by omega)).grow c8 g8 hpb (by omega)
   clear c8 g8
   have hx8 : x8 = -1 ∨ x8 = 4 := by simpa using hm8
   go_wp2_with (first | ((with_reducible refine guardStore (ty := 31) ?_); refine wpList_storeF K9.out.vR rfl rfl (by kernel_rfl) rfl (of_decide_eq_true rfl) rfl ?_; intro wz vZ t_) | ((with_reducible refine guardStore (ty := 3) ?_); refine wpList_storeG H8.out.vX rfl rfl rfl (by kernel_rfl) rfl (of_decide_eq_true rfl) rfl ?_; intro y9 v9 t9; have K9 : Hid (TD w y9 pb X #[.int .i64 x8, .int .i64 a2, .int .i64 a3]) := H8.out.put t9 v9 hpb hX; obtain ⟨x0, x1, x2⟩ := K9.out.vX.l3))
   refine bodyPost_ret (results_cell_row Tryz.results139 _ _ _ _ _ _ _ rfl vZ Tryz.underlying31 rfl (by kernel_rfl)) rfl ?_
   exact ⟨x8, a2, a3, rfl, ⟨⟨by omega, by omega⟩, ⟨by omega, by omega⟩, ⟨by omega, by omega⟩⟩, cur_keep K9.out.c t_ (by omega), grown_keep K9.out.g t_ (by omega)⟩
 | true =>
  go_wp2_with fail
  refine Calls.mono (num_any pb _ H5.out.c) ?_
  rintro e6 w6 ⟨n6, rfl, hn0, hn1, c6, g6⟩
  have H6 : Hid (TD w w6 pb X #[.int .i64 a1, .int .i64 a2, .int .i64 a3]) := H5.out.grow c6 g6 hpb (by omega)
  clear c6 g6
  go_wp2_with ((with_reducible refine guardStore (ty := 3) ?_); refine wpList_storeG H6.out.vX rfl rfl rfl (by kernel_rfl) rfl (of_decide_eq_true rfl) rfl ?_; intro y6 v6 t6; have K6 : Hid (TD w y6 pb X #[.int .i64 a1, .int .i64 a2, .int .i64 n6]) := H6.out.put t6 v6 hpb hX)
  refine Calls.mono (once_any pb 30 _ K6.out.c (by omega) (by omega)) ?_
  rintro e7 w7 ⟨b7, rfl, c7, g7⟩
  have H7 : Hid (TD w w7 pb X #[.int .i64 a1, .int .i64 a2, .int .i64 n6]) := K6.out.grow c7 g7 hpb (by omega)
  clear c7 g7
  cases b7 with
  | false =>
   obtain ⟨x0, x1, x2⟩ := H7.out.vX.l3
   go_wp2_with ((with_reducible refine guardStore (ty := 31) ?_); refine wpList_storeF H7.out.vR rfl rfl (by kernel_rfl) rfl (of_decide_eq_true rfl) rfl ?_; intro wz vZ t_)
   refine bodyPost_ret (results_cell_row Tryz.results139 _ _ _ _ _ _ _ rfl vZ Tryz.underlying31 rfl (by kernel_rfl)) rfl ?_
   exact ⟨a1, a2, n6, rfl, ⟨⟨by omega, by omega⟩, ⟨by omega, by omega⟩, ⟨by omega, by omega⟩⟩, cur_keep H7.out.c t_ (by omega), grown_keep H7.out.g t_ (by omega)⟩
  | true =>
   go_wp2_with fail
   refine Calls.mono (pick_any pb w7.heap.size [-1, 4] _ (H7.out.c.alloc _) (by simp) (by simp) (by have := H7.out.c.lt; omega) (heap_alloc_new w7 _)) ?_
   rintro e8 w8 ⟨x8, rfl, hm8, c8, g8⟩
   have H8 : Hid (TD w w8 pb X #[.int .i64 a1, .int .i64 a2, .int .i64 n6]) := (H7.out.grow (H7.out.c.alloc _) (World.grownBy_alloc w7 _ _) hpb (by omega)).grow c8 g8 hpb (by omega)
   clear c8 g8
   have hx8 : x8 = -1 ∨ x8 = 4 := by simpa using hm8
   go_wp2_with (first | ((with_reducible refine guardStore (ty := 31) ?_); refine wpList_storeF K9.out.vR rfl rfl (by kernel_rfl) rfl (of_decide_eq_true rfl) rfl ?_; intro wz vZ t_) | ((with_reducible refine guardStore (ty := 3) ?_); refine wpList_storeG H8.out.vX rfl rfl rfl (by kernel_rfl) rfl (of_decide_eq_true rfl) rfl ?_; intro y9 v9 t9; have K9 : Hid (TD w y9 pb X #[.int .i64 x8, .int .i64 a2, .int .i64 n6]) := H8.out.put t9 v9 hpb hX; obtain ⟨x0, x1, x2⟩ := K9.out.vX.l3))
   refine bodyPost_ret (results_cell_row Tryz.results139 _ _ _ _ _ _ _ rfl vZ Tryz.underlying31 rfl (by kernel_rfl)) rfl ?_
   exact ⟨x8, a2, n6, rfl, ⟨⟨by omega, by omega⟩, ⟨by omega, by omega⟩, ⟨by omega, by omega⟩⟩, cur_keep K9.out.c t_ (by omega), grown_keep K9.out.g t_ (by omega)⟩
end
section
def AsI (w : World) (X : Nat) (v : Value) (zs : List Int) : Prop :=
 isBytes zs ∧ ((v = .slice none 0 0 ∧ zs = []) ∨ ∃ (g : Nat) (cs : Array Value), X < g ∧ v = .slice (some ⟨g, 0, none⟩) zs.length cs.size ∧ w.heap[g]? = some (.cells cs 5 (cs.size, cs.size + 1)) ∧ zs.length ≤ cs.size ∧ cs.size ≤ maxLen ∧ ∀ i, i < zs.length → cs[i]? = some (.int .u8 (zs[i]?.getD 0)))
theorem AsI.nil (w : World) (X : Nat) : AsI w X (.slice none 0 0) [] := ⟨isBytes_nil, .inl ⟨rfl, rfl⟩⟩
theorem AsI.le {w : World} {X Y : Nat} {v : Value} {zs : List Int} (h : AsI w X v zs) (hY : Y ≤ X) : AsI w Y v zs := by
 refine ⟨h.1, ?_⟩
 rcases h.2 with h | ⟨g, cs, h1, h⟩
 ·exact .inl h
 ·exact .inr ⟨g, cs, by omega, h⟩
theorem AsI.turn {w w' : World} {X : Nat} {v : Value} {zs : List Int} {S : Nat → Prop} (h : AsI w X v zs) (t : Turned S w w') (hS : ∀ b, S b → b ≤ X) : AsI w' X v zs := by
 refine ⟨h.1, ?_⟩
 rcases h.2 with h | ⟨g, cs, h1, h2, h3, h⟩
 ·exact .inl h
 ·exact .inr ⟨g, cs, h1, h2, (t.block g (lt_of_block h3) (fun e => by have := hS g e; omega)).trans h3, h⟩
theorem AsI.form {w : World} {X : Nat} {v : Value} {zs : List Int} (h : AsI w X v zs) : ∃ a c, v = .slice a zs.length c := by
 rcases h.2 with ⟨rfl, rfl⟩ | ⟨g, cs, _, rfl, _⟩
 ·exact ⟨_, _, rfl⟩
 ·exact ⟨_, _, rfl⟩
theorem AsI.rd {w : World} {X : Nat} {v : Value} {zs : List Int} (h : AsI w X v zs) : RdV w (fun b => X < b ∧ b < w.heap.size) v (.bytes zs) := by
 obtain ⟨hb, ⟨rfl, rfl⟩ | ⟨g, cs, h1, rfl, h3, h4, h5, h6⟩⟩ := h
 ·exact OwV.rd (OwV.nilB _ _)
 ·have hl := lt_of_block h3
  refine ⟨hb, _, _, _, rfl, rfl, ⟨h4, h5, fun e => by cases e⟩, .inr ⟨g, 0, rfl, ⟨h1, hl⟩, hl, fun i hi => ?_⟩⟩
  rw [Nat.zero_add, cell_of_row _ _ _ _ _ _ h3]
  exact h6 i hi
theorem rdOne {w : World} {g n c : Nat} {zs : List Int} {T : TypeId} {f : Nat × Nat} {cs : Array Value} (hb : isBytes zs) (hn : n = zs.length) (h3 : w.heap[g]? = some (.cells cs T f)) (h4 : n ≤ c) (h5 : c ≤ maxLen) (h6 : ∀ i, i < zs.length → cs[i]? = some (.int .u8 (zs[i]?.getD 0))) {S : Nat → Prop} (hS : S g) : RdV w S (.slice (some ⟨g, 0, none⟩) n c) (.bytes zs) := by
 subst hn
 refine ⟨hb, _, _, _, rfl, rfl, ⟨h4, h5, fun e => by cases e⟩, .inr ⟨g, 0, rfl, hS, lt_of_block h3, fun i hi => ?_⟩⟩
 rw [Nat.zero_add, cell_of_row _ _ _ _ _ _ h3]
 exact h6 i hi
theorem bcells_at {zs : List Int} {i : Nat} (hi : i < zs.length) : (bcells zs)[i]? = some (.int .u8 (zs[i]?.getD 0)) := by
 unfold bcells
 rw [List.getElem?_map, List.getElem?_eq_getElem hi]
 simp
theorem app_at {zs : List Int} {x : Int} {r : Array Value} {i : Nat} (hi : i < (zs ++ [x]).length) : ((bcells zs).toArray ++ #[Value.int .u8 x] ++ r)[i]? = some (.int .u8 ((zs ++ [x])[i]?.getD 0)) := by
 have := bcells_at hi
 rw [← this]
 rw [Array.getElem?_append_left (by simp at hi ⊢; omega)]
 simp [bcells]
theorem AsI.app {W : World} {X : Nat} {v : Value} {zs : List Int} (h : AsI W X v zs) (hl : zs.length ≤ 100) (hX : X < W.heap.size) (ty : TypeId) (a : Addr) (c : Nat) (x : Int) (h0 : 0 ≤ x) (h1 : x ≤ 255) (ha : W.cell? a = some (.int .u8 x)) :
  ∃ v' w', (Builtin.append_ #[22, 22] ty #[v, .slice (some a) 1 c]).run Tryz.prog W = .ok v' w' ∧ RdV w' (fun b => X < b ∧ b < w'.heap.size) v' (.bytes (zs ++ [x])) ∧ Turned (fun b => X < b) W w' := by
 obtain ⟨i0, hi, hz0, hz1, hz2⟩ := info_parts Tryz.infoB
 have hbs : isBytes (zs ++ [x]) := isBytes_append h.1 (isBytes_cons h0 h1 isBytes_nil)
 have hnews : ∀ j u, ([Value.int .u8 x])[j]? = some u → W.cell? (a.add j) = some u := by
  intro j u hu
  cases j with
  | zero =>
   have e : a.add 0 = a := by cases a; simp [Addr.add]
   rw [e, ha]; simpa using hu
  | succ j => simp at hu
 have TN : ∀ cs, Turned (fun b => X < b) W (W.drew.alloc (.cells cs 5)) := fun cs => Turned.ofBelow (Below.alloc (Below.drew (Below.refl _ _)) (Nat.le_refl _) _)
 have HN : ∀ cs, (W.drew.alloc (.cells cs 5)).heap[W.heap.size]? = some (.cells cs 5 (0, 0)) := fun cs => heap_alloc_new W.drew _
 have HS : ∀ cs, X < W.heap.size ∧ W.heap.size < (W.drew.alloc (.cells cs 5)).heap.size := fun cs => ⟨hX, by simp⟩
 rcases h.2 with ⟨rfl, rfl⟩ | ⟨g, cs, hg, rfl, hh, hn, hm, hc⟩
 ·have hr := run_append_nil (P := Tryz.prog) W 22 ty 5 i0 (.int .u8 0) Tryz.underlying22 hi hz0 a 1 c [.int .u8 x] (by simp [hz1]) hnews (by omega) (by omega) (by omega)
  refine ⟨_, _, hr, rdOne hbs (by simp) (HN _) (grownCap_ge _ _ _ _) (grownCap_le_maxLen _ _ _ _ (by unfold maxLen; omega)) (fun i hi => ?_) (HS _), TN _⟩
  have := app_at (zs := []) (x := x) (r := Builtin.zeroCells (Value.int .u8 0).cells (grownCap W 1 0 5 - 1)) hi
  simpa [bcells] using this
 ·by_cases hroom : zs.length + 1 ≤ cs.size
  ·have hcell : W.cell? ⟨g, zs.length, none⟩ = some cs[zs.length] := by simp [World.cell?, hh, show zs.length < cs.size by omega]
   have hfro : W.frozen? ⟨g, zs.length, none⟩ = false := by simp [World.frozen?, hh]; omega
   have hadd : (⟨g, 0, none⟩ : Addr).add (zs.length * 1) = ⟨g, zs.length, none⟩ := by unfold Addr.add; split <;> simp_all
   have hadd0 : (⟨g, zs.length, none⟩ : Addr).add 0 = ⟨g, zs.length, none⟩ := by simp [Addr.add]
   have hst : (store ⟨g, zs.length, none⟩ (.int .u8 x)).run Tryz.prog W = .ok () (W.setCell ⟨g, zs.length, none⟩ (.int .u8 x)) := by
    rw [run_store Tryz.prog W _ _ _ rfl, hcell]; simp [hfro]
   have hsc : (storeCells ((⟨g, 0, none⟩ : Addr).add (zs.length * 1)) [.int .u8 x]).run Tryz.prog W = .ok () (W.setCell ⟨g, zs.length, none⟩ (.int .u8 x)) := by
    rw [hadd]; simp [storeCells, hadd0, hst]
   have hf := run_firstCells_some (P := Tryz.prog) W 1 1 a 1 c [.int .u8 x] rfl hnews
   refine ⟨.slice (some ⟨g, 0, none⟩) (zs.length + 1) cs.size, W.setCell ⟨g, zs.length, none⟩ (.int .u8 x), ?_, ?_, (Turned.refl _ W).set _ _ hg⟩
   ·simp [Builtin.append_, run_underlying Tryz.underlying22, sizeOf, typeInfo, hi, hz1, Builtin.lenOf, hroom, hf]
    simp only [Nat.mul_one] at hsc
    rw [hsc]; rfl
   ·have hh2 : (W.setCell ⟨g, zs.length, none⟩ (.int .u8 x)).heap[g]? = some (.cells (cs.setIfInBounds zs.length (.int .u8 x)) 5 (cs.size, cs.size + 1)) := by
     have hlt := lt_of_block hh
     have hget : W.heap[g] = .cells cs 5 (cs.size, cs.size + 1) := by have := hh; rw [Array.getElem?_eq_getElem hlt] at this; simpa using this
     have hlt2 : g < (W.setCell ⟨g, zs.length, none⟩ (.int .u8 x)).heap.size := by simpa [World.setCell] using hlt
     rw [Array.getElem?_eq_getElem hlt2]
     simp only [World.setCell]
     rw [Array.getElem_modify_self]
     simp [hget]
    have hlt : g < (W.setCell ⟨g, zs.length, none⟩ (.int .u8 x)).heap.size := lt_of_block hh2
    refine rdOne hbs (by simp) hh2 hroom hm (fun i hi => ?_) ⟨hg, hlt⟩
    have hi' : i < zs.length + 1 := by simpa using hi
    by_cases hiz : i = zs.length
    ·subst hiz
     simp [show zs.length < cs.size by omega]
    ·have h3 := hc i (by omega)
     rw [Array.getElem?_setIfInBounds_ne (by omega), h3, List.getElem?_append_left (by omega)]
  ·have hr := run_append_grow (P := Tryz.prog) W 22 ty 5 i0 (.int .u8 0) Tryz.underlying22 hi hz0 ⟨g, 0, none⟩ zs.length cs.size (bcells zs) (by simp [hz1]) (fun j u hu => ?_) a 1 c [.int .u8 x] (by simp [hz1]) hnews (by omega) (by omega) (growslice_fits (by omega) (by rw [hz2]; omega))
   ·refine ⟨_, _, hr, rdOne hbs (by simp) (HN _) (grownCap_ge _ _ _ _) (grownCap_le_maxLen _ _ _ _ (by unfold maxLen; omega)) (fun i hi => ?_) (HS _), TN _⟩
    exact app_at hi
   ·have hj : j < zs.length := by
     rcases Nat.lt_or_ge j zs.length with h | h
     ·exact h
     ·rw [List.getElem?_eq_none (by simpa using h)] at hu; cases hu
    have hadd : (⟨g, 0, none⟩ : Addr).add j = ⟨g, j, none⟩ := by unfold Addr.add; split <;> simp_all
    rw [bcells_at hj] at hu
    rw [hadd, cell_of_row _ _ _ _ _ _ hh, ← hu]
    exact hc j hj
theorem wpList_appF {ops : Array Oper} {rest : List Oper} {o : Oper} {a : Act} {Q : Exit → Act → World → Prop} (w : World) (hgd : o.guard = none) (s x : Operand)
  (ho : o.op = .call { callee := .builtin .append, args := #[s, x], argTypes := #[22, 22] })
  (v : Value) (hs : a.eval s = v) (X : Nat) (zs : List Int) (hA : AsI w X v zs) (hl : zs.length ≤ 100) (hX : X < w.heap.size) (ad : Addr) (c : Nat) (y : Int) (hx : a.eval x = .slice (some ad) 1 c) (h0 : 0 ≤ y) (h1 : y ≤ 255) (ha : w.cell? ad = some (.int .u8 y))
  (h : ∀ va vn vc w', RdV w' (fun b => X < b ∧ b < w'.heap.size) (.slice va vn vc) (.bytes (zs ++ [y])) → Turned (fun b => X < b) w w' → wpList Tryz.prog ops Q rest (a.put o.dst (.slice va vn vc)) w') : wpList Tryz.prog ops Q (o :: rest) a w := by
 obtain ⟨v', w', hrun, hr, ht⟩ := hA.app hl hX o.type ad c y h0 h1 ha
 obtain ⟨va, vc, rfl⟩ := RdV.sliceB hr
 refine wpList_plain hgd fun K hK => ?_
 unfold Oper.wp execOp
 simp only [ho, resolve, invoke, builtin, Sem.run_bind, Sem.run_pure, Result.andThen_ok, List.map_toArray, List.map_cons, List.map_nil, hs, hx, hrun]
 exact hK _ _ (h _ _ _ w' hr ht)
set_option maxHeartbeats 2000000 in
theorem draws4b_any (pb : Nat) (w : World) (h : CurAt w pb) :
  Calls Tryz.prog 167 #[.pointer (some ⟨pb, 0, none⟩)] w fun e w' => ∃ a n c zs, e = .returned (.slice a n c) ∧ AsI w' w.heap.size (.slice a n c) zs ∧ zs.length ≤ 2 ∧ CurAt w' pb ∧ w.grownBy w' (some pb) := by
 have hpb := h.lt
 have hcv : ∀ s W, (convert 9 22 (.string s)).run Tryz.prog W = .ok (.slice (some ⟨W.heap.size, 0, none⟩) s.size (grownCap W s.size 0 5)) (Lib.bytesWorld W 5 s) := fun s W => Lib.run_convert_string_bytes W _ _ _ s Tryz.underlying9 Tryz.underlying22 Tryz.underlying5
 have HCV : Hid _ := hcv
 clear hcv
 go_enter Tryz.func167, Tryz.ntmps167
 go_wp2_with fail
 refine (below_any pb 6 _ (h.alloc _) (by omega) (by omega)).mono ?_
 rintro e w1 ⟨x, rfl, hx0, hx1, hc1, hg1⟩
 have hV : VarA w1 w.heap.size 9 _ := (hg1.block w.heap.size (by simp) (fun e => by have e2 : w.heap.size = pb := (by simpa using e); omega)).trans (heap_alloc_new w _)
 have v0 := hV.c 0 rfl
 have v1 := hV.c 1 rfl
 have v2 := hV.c 2 rfl
 have v3 := hV.c 3 rfl
 have v4 := hV.c 4 rfl
 have v5 := hV.c 5 rfl
 have z1 := hg1.size
 rw [World.size_alloc] at z1
 have HFIN : Hid (∀ s : ByteArray, s.size ≤ 2 → ∃ a n c zs, Ending.returned (.slice (some ⟨w1.heap.size, 0, none⟩) s.size (grownCap w1 s.size 0 5)) = Ending.returned (.slice a n c) ∧ AsI (Lib.bytesWorld w1 5 s) w.heap.size (.slice a n c) zs ∧ zs.length ≤ 2 ∧ CurAt (Lib.bytesWorld w1 5 s) pb ∧ w.grownBy (Lib.bytesWorld w1 5 s) (some pb)) := fun s hs => by
  have hge := grownCap_ge w1 s.size 0 5
  have hsz : (Lib.bytesCells w1 5 s).size = grownCap w1 s.size 0 5 := by
   have : s.data.size = s.size := rfl
   simp [Lib.bytesCells]; omega
  refine ⟨_, _, _, bsOf s, rfl, ⟨bsOf_bytes s, .inr ⟨w1.heap.size, Lib.bytesCells w1 5 s, by omega, by rw [bsOf_len, hsz], Lib.bytesWorld_at_new w1 _ s, by rw [bsOf_len, hsz]; exact hge, by rw [hsz]; exact grownCap_le_maxLen _ _ _ _ (by unfold maxLen; omega), fun i hi => ?_⟩⟩, by rw [bsOf_len]; exact hs, hc1.below (bytesWorld_below w1 s), grown_trans (grown_trans (World.grownBy_alloc w _ _) hg1) (grown_below (bytesWorld_below w1 s))⟩
  rw [bsOf_len] at hi
  have hc := Lib.bytesWorld_cell w1 5 s i hi
  rw [cell_of_row _ _ _ _ _ _ (Lib.bytesWorld_at_new w1 _ s)] at hc
  have hi' : i < s.data.toList.length := by rw [Array.length_toList]; exact hi
  rw [hc]
  unfold bsOf
  rw [List.getElem?_map, List.getElem?_eq_getElem hi']
  simp [List.getD, List.getElem?_eq_getElem hi']
 clear hV hg1 hc1 h
 have hx : x = 0 ∨ x = 1 ∨ x = 2 ∨ x = 3 ∨ x = 4 ∨ x = 5 := by omega
 rcases hx with rfl | rfl | rfl | rfl | rfl | rfl
 ·have hcv := HCV.out ⟨#[97]⟩ w1
  go_wp2
  go_ret
  exact HFIN.out ⟨#[97]⟩ (by decide)
 ·have hcv := HCV.out ⟨#[98]⟩ w1
  go_wp2
  go_ret
  exact HFIN.out ⟨#[98]⟩ (by decide)
 ·have hcv := HCV.out ⟨#[99]⟩ w1
  go_wp2
  go_ret
  exact HFIN.out ⟨#[99]⟩ (by decide)
 ·have hcv := HCV.out ⟨#[100]⟩ w1
  go_wp2
  go_ret
  exact HFIN.out ⟨#[100]⟩ (by decide)
 ·have hcv := HCV.out ⟨#[97, 98]⟩ w1
  go_wp2
  go_ret
  exact HFIN.out ⟨#[97, 98]⟩ (by decide)
 ·have hcv := HCV.out ⟨#[122, 122]⟩ w1
  go_wp2
  go_ret
  exact HFIN.out ⟨#[122, 122]⟩ (by decide)
end
section
def Stands (zs : List Int) (p : Int) (B : List Int) : Prop := ∃ A r, zs = A ++ (B ++ r) ∧ p = (A.length : Int)
theorem Stands.all (zs : List Int) : Stands zs 0 zs := ⟨[], [], by simp, rfl⟩
def NumR (n : Int) : Prop := 0 ≤ n ∧ n ≤ 2147483647
def HdN (h : Hd) : Prop := NumR h.sh ∧ NumR h.ino
theorem Stands.num {zs R : List Int} {p n : Int} (h : Stands zs p (putB n ++ R)) (hn : NumR n) : (getNum zs p).1 = n ∧ (getNum zs p).2 = p + (putB n).length ∧ Stands zs (getNum zs p).2 R := by
 obtain ⟨A, r, rfl, rfl⟩ := h
 have e : A ++ ((putB n ++ R) ++ r) = A ++ putB n ++ (R ++ r) := by simp [List.append_assoc]
 rw [e, getNum_put A (R ++ r) n hn.1 hn.2]
 exact ⟨rfl, rfl, A ++ putB n, r, rfl, by rw [List.length_append]; simp⟩
theorem Stands.text {zs R t : List Int} {p : Int} (h : Stands zs p (textB t ++ R)) (ht : t.length ≤ 40) : (getText zs p).1 = t ∧ (getText zs p).2 = p + (textB t).length ∧ Stands zs (getText zs p).2 R := by
 have hb : textB t = putB (t.length : Int) ++ t := by unfold textB; rw [if_neg (by omega)]
 rw [hb] at h ⊢
 rw [List.append_assoc] at h
 obtain ⟨h1, h2, h3⟩ := h.num ⟨by omega, by omega⟩
 obtain ⟨A, r, rfl, hp⟩ := h3
 have hA : (getNum (A ++ (t ++ R ++ r)) p).2 = (A.length : Int) := hp
 unfold getText
 rw [h1, hA]
 rw [if_neg (by simp only [List.length_append]; omega)]
 have e : ((A.length : Int)).toNat = A.length := by omega
 simp only [e, List.drop_left, Int.toNat_natCast, List.append_assoc, List.take_left]
 refine ⟨trivial, ?_, A ++ t, r, by simp, by rw [List.length_append]; simp⟩
 rw [List.length_append, ← hA, h2]
 omega
theorem Stands.flag {zs R : List Int} {p : Int} {b : Bool} (h : Stands zs p (flagB b ++ R)) : (rdFlag zs p).1 = b ∧ (rdFlag zs p).2 = p + (flagB b).length ∧ Stands zs (rdFlag zs p).2 R := by
 obtain ⟨A, r, rfl, rfl⟩ := h
 unfold rdFlag
 have e : ((A.length : Int)).toNat = A.length := by omega
 have hv : (A ++ (flagB b ++ R ++ r))[A.length]?.getD 0 = if b then 1 else 0 := by
  rw [List.getElem?_append_right (Nat.le_refl _)]
  cases b <;> simp [flagB]
 have hl : A.length < (A ++ (flagB b ++ R ++ r)).length := by cases b <;> simp [flagB]
 have hno : ¬ ((A.length : Int) < 0 ∨ ((A ++ (flagB b ++ R ++ r)).length : Int) ≤ (A.length : Int) ∨ (1 : Int) < if b = true then 1 else 0) := by
  rintro (hh | hh | hh)
  ·omega
  ·omega
  ·cases b <;> simp at hh
 rw [e, hv, if_neg hno]
 refine ⟨by cases b <;> rfl, by rw [flagB_len]; rfl, A ++ flagB b, r, by simp, by rw [List.length_append, flagB_len]; simp⟩
theorem Stands.hd {zs R : List Int} {p : Int} {h : Hd} (q : Stands zs p (hdB h ++ R)) (hn : HdN h) : (rdHd zs p).1 = h ∧ Stands zs (rdHd zs p).2 R := by
 unfold hdB at q
 simp only [List.append_assoc] at q
 obtain ⟨a1, _, q1⟩ := q.num hn.1
 obtain ⟨a2, _, q2⟩ := q1.num hn.2
 obtain ⟨a3, _, q3⟩ := q2.flag
 unfold rdHd
 dsimp only
 refine ⟨?_, q3⟩
 rw [a1, a2, a3]
structure OpN (o : OpD) : Prop where
 k : NumR o.kind
 d : HdN o.dir
 n : o.nm.length ≤ 40
 t : HdN o.to
 a : o.asn.length ≤ 40
 v : NumR o.val
theorem Stands.op {zs R : List Int} {p : Int} {o : OpD} (q : Stands zs p (opB o ++ R)) (hn : OpN o) : (rdOp zs p).1 = o ∧ Stands zs (rdOp zs p).2 R := by
 unfold opB at q
 simp only [List.append_assoc] at q
 obtain ⟨a1, _, q1⟩ := q.num hn.k
 obtain ⟨a2, q2⟩ := q1.hd hn.d
 obtain ⟨a3, _, q3⟩ := q2.text hn.n
 obtain ⟨a4, q4⟩ := q3.hd hn.t
 obtain ⟨a5, _, q5⟩ := q4.text hn.a
 obtain ⟨a6, _, q6⟩ := q5.num hn.v
 unfold rdOp
 dsimp only
 refine ⟨?_, q6⟩
 rw [a1, a2, a3, a4, a5, a6]
def TxN (t : TxD) : Prop := NumR t.1 ∧ NumR t.2.1 ∧ NumR t.2.2
theorem Stands.tx {zs R : List Int} {p : Int} {t : TxD} (q : Stands zs p (txB t ++ R)) (hn : TxN t) : (rdTx zs p).1 = t ∧ Stands zs (rdTx zs p).2 R := by
 unfold txB at q
 simp only [List.append_assoc] at q
 obtain ⟨a1, _, q1⟩ := q.num hn.1
 obtain ⟨a2, _, q2⟩ := q1.num hn.2.1
 obtain ⟨a3, _, q3⟩ := q2.num hn.2.2
 unfold rdTx
 dsimp only
 refine ⟨?_, q3⟩
 rw [a1, a2, a3]
structure PtN (p : PtD) : Prop where
 k : NumR p.kind
 h : HdN p.h
 a : p.asn.length ≤ 40
 t : HdN p.to
theorem Stands.pt {zs R : List Int} {p : Int} {o : PtD} (q : Stands zs p (ptB o ++ R)) (hn : PtN o) : (rdPt zs p).1 = o ∧ Stands zs (rdPt zs p).2 R := by
 unfold ptB at q
 simp only [List.append_assoc] at q
 obtain ⟨a1, _, q1⟩ := q.num hn.k
 obtain ⟨a2, q2⟩ := q1.hd hn.h
 obtain ⟨a3, _, q3⟩ := q2.text hn.a
 obtain ⟨a4, q4⟩ := q3.hd hn.t
 unfold rdPt
 dsimp only
 refine ⟨?_, q4⟩
 rw [a1, a2, a3, a4]
def EnsN (l : List En) : Prop := ∀ e ∈ l, e.nm.length ≤ 40 ∧ HdN e.h
theorem Stands.ens {zs : List Int} : ∀ (l : List En) (R : List Int) {p : Int}, Stands zs p (ensB l ++ R) → EnsN l → (rdEnsP zs l.length p).1 = l ∧ Stands zs (rdEnsP zs l.length p).2 R
 | [], R, p, q, hn => ⟨rfl, by simpa [ensB, rdEnsP] using q⟩
 | e :: l, R, p, q, hn => by
  have q' : Stands zs p (textB e.nm ++ (hdB e.h ++ (ensB l ++ R))) := by simpa [ensB, enB, List.append_assoc] using q
  have he := hn e (List.mem_cons_self ..)
  obtain ⟨a1, _, q1⟩ := q'.text he.1
  obtain ⟨a2, q2⟩ := q1.hd he.2
  obtain ⟨a3, q3⟩ := Stands.ens l R q2 (fun x hx => hn x (List.mem_cons_of_mem _ hx))
  refine ⟨?_, q3⟩
  show _ :: _ = _
  rw [a1, a2, a3]
structure RpN (r : RpD) : Prop where
 c : NumR r.code
 h : HdN r.h
 v : NumR r.val
 l : r.list.length ≤ 12
 e : EnsN r.list
theorem Stands.rp {zs R : List Int} {p : Int} {o : RpD} (q : Stands zs p (rpB o ++ R)) (hn : RpN o) : (rdRp (rdEnP zs) zs p).1 = o ∧ Stands zs (rdRp (rdEnP zs) zs p).2 R := by
 unfold rpB at q
 simp only [List.append_assoc] at q
 obtain ⟨a1, _, q1⟩ := q.num hn.c
 obtain ⟨a2, q2⟩ := q1.hd hn.h
 obtain ⟨a3, _, q3⟩ := q2.num hn.v
 obtain ⟨a4, _, q4⟩ := q3.num ⟨by omega, by have := hn.l; omega⟩
 obtain ⟨a5, q5⟩ := q4.ens _ _ hn.e
 have hl := hn.l
 have e : ∀ x, (getNum zs x).1 = (o.list.length : Int) → rdEnP zs x = rdEnsP zs o.list.length (getNum zs x).2 := by
  intro x hx
  unfold rdEnP
  rw [if_neg (by omega), hx]
  simp
 unfold rdRp
 dsimp only
 rw [e _ a4]
 refine ⟨?_, q5⟩
 rw [a1, a2, a3, a5]
end
section
set_option maxHeartbeats 8000000 in
theorem specHandF (v : Value) (xs : List Int) (p q : Int) (S S2 : Nat → Prop) (w : World) (r : RdV w S v (.bytes xs)) (hl : xs.length ≤ 1900000) : Ap 224 #[v, Hd.v (p, q, false)] w (xs ++ hdB (p, q, false)) := by
 have h1 := putB_len p
 have h2 := putB_len q
 have HR : Hid (∀ W, Below w.heap.size w W → _) := r.old
 clear r
 go_enter Tryz.func224, Tryz.ntmps224
 go_wp2
 go_region_held3 (fun w' => w'.cell? ⟨w.heap.size, 0, none⟩ = some (.int .i64 p) ∧ w'.cell? ⟨w.heap.size, 1, none⟩ = some (.int .i64 q) ∧ w'.cell? ⟨w.heap.size, 2, none⟩ = some (.bool false)) (first | go_keep | (refine ⟨?_, ?_, ?_⟩ <;> assumption)) (first
  | (go_at_call 219; (with_reducible refine Calls.mono (specPutR v xs p _ _ (HR.out _ (by repeat (first | exact Below.refl _ _ | apply Below.al2 | apply Below.drew | apply below_drewN2))) (by omega)) ?_); rintro e w2 ⟨v1, rfl, z1, o1, b_⟩; have HB1 : Hid (Below w.heap.size w w2) := Below.trans (by repeat (first | exact Below.refl _ _ | apply Below.al2 | apply Below.drew | apply below_drewN2)) (b_.mono (by simp [World.drew] <;> omega)); have vA1 : VarA w2 w.heap.size 24 #[.int .i64 p, .int .i64 q, .bool false] := VarA.step (VarA.dr (VarA.new w _ _)) b_; clear b_; obtain ⟨c1_0, c1_1, c1_2⟩ := vA1.l3)
  | (go_at_call 219; (with_reducible refine Calls.mono (specPutR v1 (xs ++ putB p) q _ _ ((Owns.step o1 (by repeat (first | exact Below.refl _ _ | apply Below.al2 | apply Below.drew | apply below_drewN2))).rdT z1) (by simp only [List.length_append]; omega)) ?_); rintro e w3 ⟨v2, rfl, z2, o2, b_⟩; have HB2 : Hid (Below w.heap.size w w3) := HB1.out.trans (Below.mono (Below.trans (by repeat (first | exact Below.refl _ _ | apply Below.al2 | apply Below.drew | apply below_drewN2)) b_) HB1.out.size); have vA2 : VarA w3 w.heap.size 24 #[.int .i64 p, .int .i64 q, .bool false] := VarA.step vA1 (Below.trans (by repeat (first | exact Below.refl _ _ | apply Below.al2 | apply Below.drew | apply below_drewN2)) b_); clear b_; obtain ⟨c2_0, c2_1, c2_2⟩ := vA2.l3))
 all_goals
  have hsz := HB1.out.size
  have hs3 := HB2.out.size
  have HO : Hid (Owns w3 w.heap.size v2 (xs ++ putB p ++ putB q)) := o2.base (b' := w.heap.size) (by omega)
  have HZ : Hid _ := z2
  obtain ⟨a0_, a1_, a2_⟩ := vA2.l3
  clear o1 o2 z1 z2 vA1 vA2
  go_wp2_with (at_builtin; go_must (refine wpList_app _ rfl (.tmp 17) (.tmp 18) rfl w.heap.size v2 (xs ++ putB p ++ putB q) [0] rfl (HO.out.alloc _) _ 1 1 rfl rfl (one_new _ 0 (by omega) (by omega)) (by simp only [List.length_append]; omega) (by simp) (by simp; omega) (fun h => by cases h) ?_; intro v3 w4 ho hg))
  go_ret
  exact ⟨v3, rfl, by simpa [hdB, flagB, List.append_assoc] using isBytes_append HZ.out (flagB_bytes false), by simpa [hdB, flagB, List.append_assoc] using ho, (HB2.out.alloc hs3 _).grown hg (by simp; omega) (fun k hk => (HO.out.lt k hk).1)⟩
set_option maxHeartbeats 8000000 in
theorem specHandD (v : Value) (xs : List Int) (p q : Int) (S S2 : Nat → Prop) (w : World) (r : RdV w S v (.bytes xs)) (hl : xs.length ≤ 1900000) : Ap 224 #[v, Hd.v (p, q, true)] w (xs ++ hdB (p, q, true)) := by
 have h1 := putB_len p
 have h2 := putB_len q
 have HR : Hid (∀ W, Below w.heap.size w W → _) := r.old
 clear r
 go_enter Tryz.func224, Tryz.ntmps224
 go_wp2
 go_region_held3 (fun w' => w'.cell? ⟨w.heap.size, 0, none⟩ = some (.int .i64 p) ∧ w'.cell? ⟨w.heap.size, 1, none⟩ = some (.int .i64 q) ∧ w'.cell? ⟨w.heap.size, 2, none⟩ = some (.bool true)) (first | go_keep | (refine ⟨?_, ?_, ?_⟩ <;> assumption)) (first
  | (go_at_call 219; (with_reducible refine Calls.mono (specPutR v xs p _ _ (HR.out _ (by repeat (first | exact Below.refl _ _ | apply Below.al2 | apply Below.drew | apply below_drewN2))) (by omega)) ?_); rintro e w2 ⟨v1, rfl, z1, o1, b_⟩; have HB1 : Hid (Below w.heap.size w w2) := Below.trans (by repeat (first | exact Below.refl _ _ | apply Below.al2 | apply Below.drew | apply below_drewN2)) (b_.mono (by simp [World.drew] <;> omega)); have vA1 : VarA w2 w.heap.size 24 #[.int .i64 p, .int .i64 q, .bool true] := VarA.step (VarA.dr (VarA.new w _ _)) b_; clear b_; obtain ⟨c1_0, c1_1, c1_2⟩ := vA1.l3)
  | (go_at_call 219; (with_reducible refine Calls.mono (specPutR v1 (xs ++ putB p) q _ _ ((Owns.step o1 (by repeat (first | exact Below.refl _ _ | apply Below.al2 | apply Below.drew | apply below_drewN2))).rdT z1) (by simp only [List.length_append]; omega)) ?_); rintro e w3 ⟨v2, rfl, z2, o2, b_⟩; have HB2 : Hid (Below w.heap.size w w3) := HB1.out.trans (Below.mono (Below.trans (by repeat (first | exact Below.refl _ _ | apply Below.al2 | apply Below.drew | apply below_drewN2)) b_) HB1.out.size); have vA2 : VarA w3 w.heap.size 24 #[.int .i64 p, .int .i64 q, .bool true] := VarA.step vA1 (Below.trans (by repeat (first | exact Below.refl _ _ | apply Below.al2 | apply Below.drew | apply below_drewN2)) b_); clear b_; obtain ⟨c2_0, c2_1, c2_2⟩ := vA2.l3))
 all_goals
  have hsz := HB1.out.size
  have hs3 := HB2.out.size
  have HO : Hid (Owns w3 w.heap.size v2 (xs ++ putB p ++ putB q)) := o2.base (b' := w.heap.size) (by omega)
  have HZ : Hid _ := z2
  obtain ⟨a0_, a1_, a2_⟩ := vA2.l3
  clear o1 o2 z1 z2 vA1 vA2
  go_wp2_with (at_builtin; go_must (refine wpList_app _ rfl (.tmp 14) (.tmp 15) rfl w.heap.size v2 (xs ++ putB p ++ putB q) [1] rfl (HO.out.alloc _) _ 1 1 rfl rfl (one_new _ 1 (by omega) (by omega)) (by simp only [List.length_append]; omega) (by simp) (by simp; omega) (fun h => by cases h) ?_; intro v3 w4 ho hg))
  go_ret
  exact ⟨v3, rfl, by simpa [hdB, flagB, List.append_assoc] using isBytes_append HZ.out (flagB_bytes true), by simpa [hdB, flagB, List.append_assoc] using ho, (HB2.out.alloc hs3 _).grown hg (by simp; omega) (fun k hk => (HO.out.lt k hk).1)⟩
theorem specHandR (v : Value) (xs : List Int) (h : Hd) (S : Nat → Prop) (w : World) (r : RdV w S v (.bytes xs)) (hl : xs.length ≤ 1900000) : Ap 224 #[v, h.v] w (xs ++ hdB h) := by
 obtain ⟨p, q, d⟩ := h
 cases d
 ·exact specHandF v xs p q S S w r hl
 ·exact specHandD v xs p q S S w r hl
theorem specHandX (v : Value) (xs : List Int) (p q : Int) (d : Bool) (S : Nat → Prop) (w : World) (r : RdV w S v (.bytes xs)) (hl : xs.length ≤ 1900000) : Ap 224 #[v, .agg #[.int .i64 p, .int .i64 q, .bool d]] w (xs ++ hdB (p, q, d)) := specHandR v xs (p, q, d) S w r hl
set_option maxHeartbeats 8000000 in
theorem specTxR (v : Value) (xs : List Int) (t : TxD) (S S2 : Nat → Prop) (w : World) (r : RdV w S v (.bytes xs)) (hl : xs.length ≤ 1800000) : Ap 222 #[v, txV t] w (xs ++ txB t) := by
 obtain ⟨p, q, s⟩ := t
 have h1 := putB_len p
 have h2 := putB_len q
 have h3 := putB_len s
 have HR : Hid (∀ W, Below w.heap.size w W → _) := r.old
 clear r
 go_enter Tryz.func222, Tryz.ntmps222
 go_wp2
 go_region_held3 (fun w' => w'.cell? ⟨w.heap.size, 0, none⟩ = some (.int .i64 p) ∧ w'.cell? ⟨w.heap.size, 1, none⟩ = some (.int .i64 q) ∧ w'.cell? ⟨w.heap.size, 2, none⟩ = some (.int .i64 s)) (first | go_keep | (refine ⟨?_, ?_, ?_⟩ <;> assumption)) (first
  | (go_at_call 219; (with_reducible refine Calls.mono (specPutR v xs p _ _ (HR.out _ (by repeat (first | exact Below.refl _ _ | apply Below.al2 | apply Below.drew | apply below_drewN2))) (by omega)) ?_); rintro e w2 ⟨v1, rfl, z1, o1, b_⟩; have HB1 : Hid (Below w.heap.size w w2) := Below.trans (by repeat (first | exact Below.refl _ _ | apply Below.al2 | apply Below.drew | apply below_drewN2)) (b_.mono (by simp [World.drew] <;> omega)); have vA1 : VarA w2 w.heap.size 31 #[.int .i64 p, .int .i64 q, .int .i64 s] := VarA.step (VarA.dr (VarA.new w _ _)) b_; clear b_; obtain ⟨c1_0, c1_1, c1_2⟩ := vA1.l3)
  | (go_at_call 219; (with_reducible refine Calls.mono (specPutR v1 (xs ++ putB p) q _ _ ((Owns.step o1 (by repeat (first | exact Below.refl _ _ | apply Below.al2 | apply Below.drew | apply below_drewN2))).rdT z1) (by simp only [List.length_append]; omega)) ?_); rintro e w3 ⟨v2, rfl, z2, o2, b_⟩; have HB2 : Hid (Below w.heap.size w w3) := HB1.out.trans (Below.mono (Below.trans (by repeat (first | exact Below.refl _ _ | apply Below.al2 | apply Below.drew | apply below_drewN2)) b_) HB1.out.size); have vA2 : VarA w3 w.heap.size 31 #[.int .i64 p, .int .i64 q, .int .i64 s] := VarA.step vA1 (Below.trans (by repeat (first | exact Below.refl _ _ | apply Below.al2 | apply Below.drew | apply below_drewN2)) b_); clear b_; obtain ⟨c2_0, c2_1, c2_2⟩ := vA2.l3)
  | (go_at_call 219; (with_reducible refine Calls.mono (specPutR v2 (xs ++ putB p ++ putB q) s _ _ ((Owns.step o2 (by repeat (first | exact Below.refl _ _ | apply Below.al2 | apply Below.drew | apply below_drewN2))).rdT z2) (by simp only [List.length_append]; omega)) ?_); rintro e w4 ⟨v3, rfl, z3, o3, b_⟩; have HB3 : Hid (Below w.heap.size w w4) := HB2.out.trans (Below.mono (Below.trans (by repeat (first | exact Below.refl _ _ | apply Below.al2 | apply Below.drew | apply below_drewN2)) b_) HB2.out.size); have vA3 : VarA w4 w.heap.size 31 #[.int .i64 p, .int .i64 q, .int .i64 s] := VarA.step vA2 (Below.trans (by repeat (first | exact Below.refl _ _ | apply Below.al2 | apply Below.drew | apply below_drewN2)) b_); clear b_; obtain ⟨c3_0, c3_1, c3_2⟩ := vA3.l3))
 all_goals
  go_wp2
  go_ret
  refine ⟨_, rfl, ?_, ?_, HB3.out⟩
  ·simpa [txB, List.append_assoc] using z3
  ·have o_ := o3.base (b' := w.heap.size) (by first | exact HB2.out.size | omega)
   simpa [txB, List.append_assoc] using o_
set_option maxHeartbeats 8000000 in
theorem specOpR (v : Value) (xs : List Int) (o : OpD) (x y : Value) (S S2 : Nat → Prop) (w : World) (r : RdV w S v (.bytes xs)) (hl : xs.length ≤ 1800000) (q1 : RdV w S2 x (.bytes o.nm)) (q2 : RdV w S2 y (.bytes o.asn)) (hn : o.nm.length ≤ 1048576) (hm : o.asn.length ≤ 1048576) : Ap 220 #[v, opV o x y] w (xs ++ opB o) := by
 obtain ⟨kd, ⟨p, q, d⟩, nm, ⟨p2, q2_, d2⟩, asn, vl⟩ := o
 dsimp only at q1 q2 hn hm ⊢
 have h1 := putB_len kd
 have h2 := hdB_len (p, q, d)
 have h3 := textB_len nm
 have h4 := hdB_len (p2, q2_, d2)
 have h5 := textB_len asn
 have h6 := putB_len vl
 have HX : Hid (∀ W, Below w.heap.size w W → _) := q1.old
 have HY : Hid (∀ W, Below w.heap.size w W → _) := q2.old
 clear q1 q2
 have HR : Hid (∀ W, Below w.heap.size w W → _) := r.old
 clear r
 go_enter Tryz.func220, Tryz.ntmps220
 go_wp2
 go_region_held3 (fun w' => w'.cell? ⟨w.heap.size, 0, none⟩ = some (.int .i64 kd) ∧ w'.cell? ⟨w.heap.size, 1, none⟩ = some (.int .i64 p) ∧ w'.cell? ⟨w.heap.size, 2, none⟩ = some (.int .i64 q) ∧ w'.cell? ⟨w.heap.size, 3, none⟩ = some (.bool d) ∧ w'.cell? ⟨w.heap.size, 4, none⟩ = some (x) ∧ w'.cell? ⟨w.heap.size, 5, none⟩ = some (.int .i64 p2) ∧ w'.cell? ⟨w.heap.size, 6, none⟩ = some (.int .i64 q2_) ∧ w'.cell? ⟨w.heap.size, 7, none⟩ = some (.bool d2) ∧ w'.cell? ⟨w.heap.size, 8, none⟩ = some (y) ∧ w'.cell? ⟨w.heap.size, 9, none⟩ = some (.int .i64 vl)) (first | go_keep | (refine ⟨?_, ?_, ?_, ?_, ?_, ?_, ?_, ?_, ?_, ?_⟩ <;> assumption)) (first
  | (go_at_call 219; (with_reducible refine Calls.mono (specPutR v xs kd _ _ (HR.out _ (by repeat (first | exact Below.refl _ _ | apply Below.al2 | apply Below.drew | apply below_drewN2))) (by omega)) ?_); rintro e w2 ⟨v1, rfl, z1, o1, b_⟩; have HB1 : Hid (Below w.heap.size w w2) := Below.trans (by repeat (first | exact Below.refl _ _ | apply Below.al2 | apply Below.drew | apply below_drewN2)) (b_.mono (by simp [World.drew] <;> omega)); have vA1 : VarA w2 w.heap.size 26 #[.int .i64 kd, .int .i64 p, .int .i64 q, .bool d, x, .int .i64 p2, .int .i64 q2_, .bool d2, y, .int .i64 vl] := VarA.step (VarA.dr (VarA.new w _ _)) b_; clear b_; obtain ⟨c1_0, c1_1, c1_2, c1_3, c1_4, c1_5, c1_6, c1_7, c1_8, c1_9⟩ := vA1.l10)
  | (go_at_call 224; (with_reducible refine Calls.mono (specHandX v1 (xs ++ putB kd) p q d _ _ ((Owns.step o1 (by repeat (first | exact Below.refl _ _ | apply Below.al2 | apply Below.drew | apply below_drewN2))).rdT z1) (by simp only [List.length_append]; omega)) ?_); rintro e w3 ⟨v2, rfl, z2, o2, b_⟩; have HB2 : Hid (Below w.heap.size w w3) := HB1.out.trans (Below.mono (Below.trans (by repeat (first | exact Below.refl _ _ | apply Below.al2 | apply Below.drew | apply below_drewN2)) b_) HB1.out.size); have vA2 : VarA w3 w.heap.size 26 #[.int .i64 kd, .int .i64 p, .int .i64 q, .bool d, x, .int .i64 p2, .int .i64 q2_, .bool d2, y, .int .i64 vl] := VarA.step vA1 (Below.trans (by repeat (first | exact Below.refl _ _ | apply Below.al2 | apply Below.drew | apply below_drewN2)) b_); clear b_; obtain ⟨c2_0, c2_1, c2_2, c2_3, c2_4, c2_5, c2_6, c2_7, c2_8, c2_9⟩ := vA2.l10)
  | (go_at_call 262; (with_reducible refine Calls.mono (specTextR v2 _ (xs ++ putB kd ++ hdB (p, q, d)) nm _ S2 _ ((Owns.step o2 (by repeat (first | exact Below.refl _ _ | apply Below.al2 | apply Below.drew | apply below_drewN2))).rdT z2) (HX.out _ (HB2.out.trans (Below.mono (by repeat (first | exact Below.refl _ _ | apply Below.al2 | apply Below.drew | apply below_drewN2)) HB2.out.size))) (by simp only [List.length_append]; omega) (by omega)) ?_); rintro e w4 ⟨v3, rfl, z3, o3, b_⟩; have HB3 : Hid (Below w.heap.size w w4) := HB2.out.trans (Below.mono (Below.trans (by repeat (first | exact Below.refl _ _ | apply Below.al2 | apply Below.drew | apply below_drewN2)) b_) HB2.out.size); have vA3 : VarA w4 w.heap.size 26 #[.int .i64 kd, .int .i64 p, .int .i64 q, .bool d, x, .int .i64 p2, .int .i64 q2_, .bool d2, y, .int .i64 vl] := VarA.step vA2 (Below.trans (by repeat (first | exact Below.refl _ _ | apply Below.al2 | apply Below.drew | apply below_drewN2)) b_); clear b_; obtain ⟨c3_0, c3_1, c3_2, c3_3, c3_4, c3_5, c3_6, c3_7, c3_8, c3_9⟩ := vA3.l10))
 go_wp2
 go_region_held3 (fun w' => w'.cell? ⟨w.heap.size, 0, none⟩ = some (.int .i64 kd) ∧ w'.cell? ⟨w.heap.size, 1, none⟩ = some (.int .i64 p) ∧ w'.cell? ⟨w.heap.size, 2, none⟩ = some (.int .i64 q) ∧ w'.cell? ⟨w.heap.size, 3, none⟩ = some (.bool d) ∧ w'.cell? ⟨w.heap.size, 4, none⟩ = some (x) ∧ w'.cell? ⟨w.heap.size, 5, none⟩ = some (.int .i64 p2) ∧ w'.cell? ⟨w.heap.size, 6, none⟩ = some (.int .i64 q2_) ∧ w'.cell? ⟨w.heap.size, 7, none⟩ = some (.bool d2) ∧ w'.cell? ⟨w.heap.size, 8, none⟩ = some (y) ∧ w'.cell? ⟨w.heap.size, 9, none⟩ = some (.int .i64 vl)) (first | go_keep | (refine ⟨?_, ?_, ?_, ?_, ?_, ?_, ?_, ?_, ?_, ?_⟩ <;> assumption)) (first
  | (go_at_call 224; (with_reducible refine Calls.mono (specHandX v3 (xs ++ putB kd ++ hdB (p, q, d) ++ textB nm) p2 q2_ d2 _ _ ((Owns.step o3 (by repeat (first | exact Below.refl _ _ | apply Below.al2 | apply Below.drew | apply below_drewN2))).rdT z3) (by simp only [List.length_append]; omega)) ?_); rintro e w5 ⟨v4, rfl, z4, o4, b_⟩; have HB4 : Hid (Below w.heap.size w w5) := HB3.out.trans (Below.mono (Below.trans (by repeat (first | exact Below.refl _ _ | apply Below.al2 | apply Below.drew | apply below_drewN2)) b_) HB3.out.size); have vA4 : VarA w5 w.heap.size 26 #[.int .i64 kd, .int .i64 p, .int .i64 q, .bool d, x, .int .i64 p2, .int .i64 q2_, .bool d2, y, .int .i64 vl] := VarA.step vA3 (Below.trans (by repeat (first | exact Below.refl _ _ | apply Below.al2 | apply Below.drew | apply below_drewN2)) b_); clear b_; obtain ⟨c4_0, c4_1, c4_2, c4_3, c4_4, c4_5, c4_6, c4_7, c4_8, c4_9⟩ := vA4.l10)
  | (go_at_call 262; (with_reducible refine Calls.mono (specTextR v4 _ (xs ++ putB kd ++ hdB (p, q, d) ++ textB nm ++ hdB (p2, q2_, d2)) asn _ S2 _ ((Owns.step o4 (by repeat (first | exact Below.refl _ _ | apply Below.al2 | apply Below.drew | apply below_drewN2))).rdT z4) (HY.out _ (HB4.out.trans (Below.mono (by repeat (first | exact Below.refl _ _ | apply Below.al2 | apply Below.drew | apply below_drewN2)) HB4.out.size))) (by simp only [List.length_append]; omega) (by omega)) ?_); rintro e w6 ⟨v5, rfl, z5, o5, b_⟩; have HB5 : Hid (Below w.heap.size w w6) := HB4.out.trans (Below.mono (Below.trans (by repeat (first | exact Below.refl _ _ | apply Below.al2 | apply Below.drew | apply below_drewN2)) b_) HB4.out.size); have vA5 : VarA w6 w.heap.size 26 #[.int .i64 kd, .int .i64 p, .int .i64 q, .bool d, x, .int .i64 p2, .int .i64 q2_, .bool d2, y, .int .i64 vl] := VarA.step vA4 (Below.trans (by repeat (first | exact Below.refl _ _ | apply Below.al2 | apply Below.drew | apply below_drewN2)) b_); clear b_; obtain ⟨c5_0, c5_1, c5_2, c5_3, c5_4, c5_5, c5_6, c5_7, c5_8, c5_9⟩ := vA5.l10)
  | (go_at_call 219; (with_reducible refine Calls.mono (specPutR v5 (xs ++ putB kd ++ hdB (p, q, d) ++ textB nm ++ hdB (p2, q2_, d2) ++ textB asn) vl _ _ ((Owns.step o5 (by repeat (first | exact Below.refl _ _ | apply Below.al2 | apply Below.drew | apply below_drewN2))).rdT z5) (by simp only [List.length_append]; omega)) ?_); rintro e w7 ⟨v6, rfl, z6, o6, b_⟩; have HB6 : Hid (Below w.heap.size w w7) := HB5.out.trans (Below.mono (Below.trans (by repeat (first | exact Below.refl _ _ | apply Below.al2 | apply Below.drew | apply below_drewN2)) b_) HB5.out.size); have vA6 : VarA w7 w.heap.size 26 #[.int .i64 kd, .int .i64 p, .int .i64 q, .bool d, x, .int .i64 p2, .int .i64 q2_, .bool d2, y, .int .i64 vl] := VarA.step vA5 (Below.trans (by repeat (first | exact Below.refl _ _ | apply Below.al2 | apply Below.drew | apply below_drewN2)) b_); clear b_; obtain ⟨c6_0, c6_1, c6_2, c6_3, c6_4, c6_5, c6_6, c6_7, c6_8, c6_9⟩ := vA6.l10))
 all_goals
  go_wp2
  go_ret
  refine ⟨_, rfl, ?_, ?_, HB6.out⟩
  ·simpa [opB, List.append_assoc] using z6
  ·have o_ := o6.base (b' := w.heap.size) (by first | exact HB5.out.size | omega)
   simpa [opB, List.append_assoc] using o_
set_option maxHeartbeats 8000000 in
theorem specPartR (v : Value) (xs : List Int) (o : PtD) (x : Value) (S S2 : Nat → Prop) (w : World) (r : RdV w S v (.bytes xs)) (hl : xs.length ≤ 1800000) (q1 : RdV w S2 x (.bytes o.asn)) (hn : o.asn.length ≤ 1048576) : Ap 223 #[v, ptV o x] w (xs ++ ptB o) := by
 obtain ⟨kd, ⟨p, q, d⟩, nm, ⟨p2, q2_, d2⟩⟩ := o
 dsimp only at q1 hn ⊢
 have h1 := putB_len kd
 have h2 := hdB_len (p, q, d)
 have h3 := textB_len nm
 have h4 := hdB_len (p2, q2_, d2)
 have HX : Hid (∀ W, Below w.heap.size w W → _) := q1.old
 clear q1
 have HR : Hid (∀ W, Below w.heap.size w W → _) := r.old
 clear r
 go_enter Tryz.func223, Tryz.ntmps223
 go_wp2
 go_region_held3 (fun w' => w'.cell? ⟨w.heap.size, 0, none⟩ = some (.int .i64 kd) ∧ w'.cell? ⟨w.heap.size, 1, none⟩ = some (.int .i64 p) ∧ w'.cell? ⟨w.heap.size, 2, none⟩ = some (.int .i64 q) ∧ w'.cell? ⟨w.heap.size, 3, none⟩ = some (.bool d) ∧ w'.cell? ⟨w.heap.size, 4, none⟩ = some (x) ∧ w'.cell? ⟨w.heap.size, 5, none⟩ = some (.int .i64 p2) ∧ w'.cell? ⟨w.heap.size, 6, none⟩ = some (.int .i64 q2_) ∧ w'.cell? ⟨w.heap.size, 7, none⟩ = some (.bool d2)) (first | go_keep | (refine ⟨?_, ?_, ?_, ?_, ?_, ?_, ?_, ?_⟩ <;> assumption)) (first
  | (go_at_call 219; (with_reducible refine Calls.mono (specPutR v xs kd _ _ (HR.out _ (by repeat (first | exact Below.refl _ _ | apply Below.al2 | apply Below.drew | apply below_drewN2))) (by omega)) ?_); rintro e w2 ⟨v1, rfl, z1, o1, b_⟩; have HB1 : Hid (Below w.heap.size w w2) := Below.trans (by repeat (first | exact Below.refl _ _ | apply Below.al2 | apply Below.drew | apply below_drewN2)) (b_.mono (by simp [World.drew] <;> omega)); have vA1 : VarA w2 w.heap.size 33 #[.int .i64 kd, .int .i64 p, .int .i64 q, .bool d, x, .int .i64 p2, .int .i64 q2_, .bool d2] := VarA.step (VarA.dr (VarA.new w _ _)) b_; clear b_; obtain ⟨c1_0, c1_1, c1_2, c1_3, c1_4, c1_5, c1_6, c1_7⟩ := vA1.l8)
  | (go_at_call 224; (with_reducible refine Calls.mono (specHandX v1 (xs ++ putB kd) p q d _ _ ((Owns.step o1 (by repeat (first | exact Below.refl _ _ | apply Below.al2 | apply Below.drew | apply below_drewN2))).rdT z1) (by simp only [List.length_append]; omega)) ?_); rintro e w3 ⟨v2, rfl, z2, o2, b_⟩; have HB2 : Hid (Below w.heap.size w w3) := HB1.out.trans (Below.mono (Below.trans (by repeat (first | exact Below.refl _ _ | apply Below.al2 | apply Below.drew | apply below_drewN2)) b_) HB1.out.size); have vA2 : VarA w3 w.heap.size 33 #[.int .i64 kd, .int .i64 p, .int .i64 q, .bool d, x, .int .i64 p2, .int .i64 q2_, .bool d2] := VarA.step vA1 (Below.trans (by repeat (first | exact Below.refl _ _ | apply Below.al2 | apply Below.drew | apply below_drewN2)) b_); clear b_; obtain ⟨c2_0, c2_1, c2_2, c2_3, c2_4, c2_5, c2_6, c2_7⟩ := vA2.l8)
  | (go_at_call 262; (with_reducible refine Calls.mono (specTextR v2 _ (xs ++ putB kd ++ hdB (p, q, d)) nm _ S2 _ ((Owns.step o2 (by repeat (first | exact Below.refl _ _ | apply Below.al2 | apply Below.drew | apply below_drewN2))).rdT z2) (HX.out _ (HB2.out.trans (Below.mono (by repeat (first | exact Below.refl _ _ | apply Below.al2 | apply Below.drew | apply below_drewN2)) HB2.out.size))) (by simp only [List.length_append]; omega) (by omega)) ?_); rintro e w4 ⟨v3, rfl, z3, o3, b_⟩; have HB3 : Hid (Below w.heap.size w w4) := HB2.out.trans (Below.mono (Below.trans (by repeat (first | exact Below.refl _ _ | apply Below.al2 | apply Below.drew | apply below_drewN2)) b_) HB2.out.size); have vA3 : VarA w4 w.heap.size 33 #[.int .i64 kd, .int .i64 p, .int .i64 q, .bool d, x, .int .i64 p2, .int .i64 q2_, .bool d2] := VarA.step vA2 (Below.trans (by repeat (first | exact Below.refl _ _ | apply Below.al2 | apply Below.drew | apply below_drewN2)) b_); clear b_; obtain ⟨c3_0, c3_1, c3_2, c3_3, c3_4, c3_5, c3_6, c3_7⟩ := vA3.l8)
  | (go_at_call 224; (with_reducible refine Calls.mono (specHandX v3 (xs ++ putB kd ++ hdB (p, q, d) ++ textB nm) p2 q2_ d2 _ _ ((Owns.step o3 (by repeat (first | exact Below.refl _ _ | apply Below.al2 | apply Below.drew | apply below_drewN2))).rdT z3) (by simp only [List.length_append]; omega)) ?_); rintro e w5 ⟨v4, rfl, z4, o4, b_⟩; have HB4 : Hid (Below w.heap.size w w5) := HB3.out.trans (Below.mono (Below.trans (by repeat (first | exact Below.refl _ _ | apply Below.al2 | apply Below.drew | apply below_drewN2)) b_) HB3.out.size); have vA4 : VarA w5 w.heap.size 33 #[.int .i64 kd, .int .i64 p, .int .i64 q, .bool d, x, .int .i64 p2, .int .i64 q2_, .bool d2] := VarA.step vA3 (Below.trans (by repeat (first | exact Below.refl _ _ | apply Below.al2 | apply Below.drew | apply below_drewN2)) b_); clear b_; obtain ⟨c4_0, c4_1, c4_2, c4_3, c4_4, c4_5, c4_6, c4_7⟩ := vA4.l8))
 all_goals
  go_wp2
  go_ret
  refine ⟨_, rfl, ?_, ?_, HB4.out⟩
  ·simpa [ptB, List.append_assoc] using z4
  ·have o_ := o4.base (b' := w.heap.size) (by first | exact HB3.out.size | omega)
   simpa [ptB, List.append_assoc] using o_
end
section
theorem ensB_next (l : List En) (k : Nat) (h : k < l.length) : ensB (l.take (k + 1)) = ensB (l.take k) ++ enB (l[k]?.getD en0) := by
 unfold ensB
 rw [← List.take_append_getElem h, List.flatMap_append, List.getElem?_eq_getElem h]; simp
set_option maxHeartbeats 8000000 in
theorem specReplyR (v : Value) (xs : List Int) (o : RpD) (x : Value) (S S2 : Nat → Prop) (w : World) (r : RdV w S v (.bytes xs)) (hl : xs.length ≤ 1700000) (q1 : RdV w S2 x (ensDt o.list)) (hn : szEns o.list ≤ 1048576) (h12 : o.list.length ≤ 12) : Ap 221 #[v, rpV o x] w (xs ++ rpB o) := by
 obtain ⟨a, cap, rfl, _⟩ := RdV.sliced q1
 obtain ⟨kd, ⟨p, q, d⟩, vl, es⟩ := o
 dsimp only at q1 hn h12 ⊢
 have HR2 : Hid (∀ W, Below w.heap.size w W → RdV W S2 (.slice a es.length cap) (.rows 139 4 es.length (fun i j => enCell (es[i]?.getD en0) j))) := RdV.old q1
 have HL : Hid _ := hn
 have HN : Hid (∀ k, k < es.length → ensB (es.take (k + 1)) = ensB (es.take k) ++ enB (es[k]?.getD en0)) := fun k hk => ensB_next es k hk
 have HEL : Hid (∀ k, k ≤ es.length → (ensB (es.take k)).length ≤ 56 * 12) := fun k hk => by have := ensB_len (es.take k); rw [List.length_take] at this; omega
 have HEA : Hid (ensB (es.take es.length) = ensB es) := by show _ = _; rw [List.take_length]
 obtain ⟨m, hm⟩ : ∃ m, es.length = m := ⟨_, rfl⟩
 have HF : Hid (rpB ⟨kd, (p, q, d), vl, es⟩ = putB kd ++ (hdB (p, q, d) ++ (putB vl ++ (putB (m : Int) ++ ensB es)))) := by show _ = _; rw [← hm]; rfl
 rw [HF.out]
 rw [hm] at HR2 HN HEL HEA h12 ⊢
 clear q1 hn hm HF
 have h1 := putB_len kd
 have h2 := hdB_len (p, q, d)
 have h3 := putB_len vl
 have h4 := putB_len (m : Int)
 have HR : Hid (∀ W, Below w.heap.size w W → _) := r.old
 clear r
 go_enter Tryz.func221, Tryz.ntmps221
 go_wp2
 go_region_held3 (fun w' => w'.cell? ⟨w.heap.size, 0, none⟩ = some (.int .i64 kd) ∧ w'.cell? ⟨w.heap.size, 1, none⟩ = some (.int .i64 p) ∧ w'.cell? ⟨w.heap.size, 2, none⟩ = some (.int .i64 q) ∧ w'.cell? ⟨w.heap.size, 3, none⟩ = some (.bool d) ∧ w'.cell? ⟨w.heap.size, 4, none⟩ = some (.int .i64 vl) ∧ w'.cell? ⟨w.heap.size, 5, none⟩ = some (.slice a m cap)) (first | go_keep | (refine ⟨?_, ?_, ?_, ?_, ?_, ?_⟩ <;> assumption)) (first
  | (go_at_call 219; (with_reducible refine Calls.mono (specPutR v xs kd _ _ (HR.out _ (by repeat (first | exact Below.refl _ _ | apply Below.al2 | apply Below.drew | apply below_drewN2))) (by omega)) ?_); rintro e w2 ⟨v1, rfl, z1, o1, b_⟩; have HB1 : Hid (Below w.heap.size w w2) := Below.trans (by repeat (first | exact Below.refl _ _ | apply Below.al2 | apply Below.drew | apply below_drewN2)) (b_.mono (by simp [World.drew] <;> omega)); have vA1 : VarA w2 w.heap.size 29 #[.int .i64 kd, .int .i64 p, .int .i64 q, .bool d, .int .i64 vl, .slice a m cap] := VarA.step (VarA.dr (VarA.new w _ _)) b_; clear b_; obtain ⟨c1_0, c1_1, c1_2, c1_3, c1_4, c1_5⟩ := vA1.l6)
  | (go_at_call 224; (with_reducible refine Calls.mono (specHandX v1 (xs ++ putB kd) p q d _ _ ((Owns.step o1 (by repeat (first | exact Below.refl _ _ | apply Below.al2 | apply Below.drew | apply below_drewN2))).rdT z1) (by simp only [List.length_append]; omega)) ?_); rintro e w3 ⟨v2, rfl, z2, o2, b_⟩; have HB2 : Hid (Below w.heap.size w w3) := HB1.out.trans (Below.mono (Below.trans (by repeat (first | exact Below.refl _ _ | apply Below.al2 | apply Below.drew | apply below_drewN2)) b_) HB1.out.size); have vA2 : VarA w3 w.heap.size 29 #[.int .i64 kd, .int .i64 p, .int .i64 q, .bool d, .int .i64 vl, .slice a m cap] := VarA.step vA1 (Below.trans (by repeat (first | exact Below.refl _ _ | apply Below.al2 | apply Below.drew | apply below_drewN2)) b_); clear b_; obtain ⟨c2_0, c2_1, c2_2, c2_3, c2_4, c2_5⟩ := vA2.l6)
  | (go_at_call 219; (with_reducible refine Calls.mono (specPutR v2 (xs ++ putB kd ++ hdB (p, q, d)) vl _ _ ((Owns.step o2 (by repeat (first | exact Below.refl _ _ | apply Below.al2 | apply Below.drew | apply below_drewN2))).rdT z2) (by simp only [List.length_append]; omega)) ?_); rintro e w4 ⟨v3, rfl, z3, o3, b_⟩; have HB3 : Hid (Below w.heap.size w w4) := HB2.out.trans (Below.mono (Below.trans (by repeat (first | exact Below.refl _ _ | apply Below.al2 | apply Below.drew | apply below_drewN2)) b_) HB2.out.size); have vA3 : VarA w4 w.heap.size 29 #[.int .i64 kd, .int .i64 p, .int .i64 q, .bool d, .int .i64 vl, .slice a m cap] := VarA.step vA2 (Below.trans (by repeat (first | exact Below.refl _ _ | apply Below.al2 | apply Below.drew | apply below_drewN2)) b_); clear b_; obtain ⟨c3_0, c3_1, c3_2, c3_3, c3_4, c3_5⟩ := vA3.l6)
  | (go_at_call 219; (with_reducible refine Calls.mono (specPutR v3 (xs ++ putB kd ++ hdB (p, q, d) ++ putB vl) (m : Int) _ _ ((Owns.step o3 (by repeat (first | exact Below.refl _ _ | apply Below.al2 | apply Below.drew | apply below_drewN2))).rdT z3) (by simp only [List.length_append]; omega)) ?_); rintro e w5 ⟨v4, rfl, z4, o4, b_⟩; have HB4 : Hid (Below w.heap.size w w5) := HB3.out.trans (Below.mono (Below.trans (by repeat (first | exact Below.refl _ _ | apply Below.al2 | apply Below.drew | apply below_drewN2)) b_) HB3.out.size); have vA4 : VarA w5 w.heap.size 29 #[.int .i64 kd, .int .i64 p, .int .i64 q, .bool d, .int .i64 vl, .slice a m cap] := VarA.step vA3 (Below.trans (by repeat (first | exact Below.refl _ _ | apply Below.al2 | apply Below.drew | apply below_drewN2)) b_); clear b_; obtain ⟨c4_0, c4_1, c4_2, c4_3, c4_4, c4_5⟩ := vA4.l6))
 all_goals
  have hsz := HB3.out.size
  have HO0 : Hid (Owns w5 w.heap.size v4 (xs ++ putB kd ++ hdB (p, q, d) ++ putB vl ++ putB (m : Int))) := o4.base (b' := w.heap.size) hsz
  have HZ0 : Hid _ := z4
  have HBB := HB4
  have vA := vA4
  clear o1 o2 o3 o4 z1 z2 z3 z4 vA1 vA2 vA3 vA4 c1_0 c1_1 c1_2 c1_3 c1_4 c1_5 c2_0 c2_1 c2_2 c2_3 c2_4 c2_5 c3_0 c3_1 c3_2 c3_3 c3_4 c3_5 c4_0 c4_1 c4_2 c4_3 c4_4 c4_5 HB1 HB2 HB3 HB4
  obtain ⟨ys, hys⟩ : ∃ ys, xs ++ putB kd ++ hdB (p, q, d) ++ putB vl ++ putB (m : Int) = ys := ⟨_, rfl⟩
  have hyl : ys.length ≤ 1700100 := by rw [← hys]; simp only [List.length_append]; omega
  have HGO : Hid (xs ++ (putB kd ++ (hdB (p, q, d) ++ (putB vl ++ (putB (m : Int) ++ ensB es)))) = ys ++ ensB es) := by show _ = _; rw [← hys]; simp [List.append_assoc]
  rw [hys] at HO0 HZ0
  clear hys h1 h2 h3 h4 hsz hl HR
  obtain ⟨a0_, a1_, a2_, a3_, a4_, a5_⟩ := vA.l6
  go_wp2
  go_loopw [0, 5] (fun q' i wr => ∃ (k : Nat) (u : Value), k ≤ m ∧ i = .int .i64 k ∧ u = q' ∧ Hid (isBytes (ys ++ ensB (es.take k))) ∧ Hid (Owns wr w.heap.size u (ys ++ ensB (es.take k))) ∧ Hid (Below w.heap.size w wr) ∧ VarA wr w.heap.size 29 #[.int .i64 kd, .int .i64 p, .int .i64 q, .bool d, .int .i64 vl, .slice a m cap]) (fun _ i _ => m - (intOf i).toNat)
  case atStart => exact ⟨0, v4, Nat.zero_le _, rfl, rfl, by show isBytes _; rw [List.take_zero]; simp only [ensB, List.flatMap_nil, List.append_nil]; exact HZ0.out, by show Owns _ _ _ _; simpa [ensB] using HO0.out, HBB, vA⟩
  case round =>
   clear HO0 HZ0 HBB vA a0_ a1_ a2_ a3_ a4_ a5_
   obtain ⟨k, u, hk, rfl, rfl, HZ, HO, hbel, vA⟩ := hrel
   obtain ⟨a0_, a1_, a2_, a3_, a4_, a5_⟩ := vA.l6
   have hvl_ := vA.lt
   by_cases hlt : k < m
   case neg =>
    have he : k = m := by omega
    subst he
    go_wp2
    go_ret
    exact ⟨_, rfl, by rw [HGO.out, ← HEA.out]; exact HZ.out, by rw [HGO.out, ← HEA.out]; exact HO.out, hbel.out⟩
   obtain ⟨b, off, rfl, hbl, _, hx⟩ := RdV.at (HR2.out wr hbel.out) hlt
   obtain ⟨e, he⟩ : ∃ e, es[k]?.getD en0 = e := ⟨_, rfl⟩
   obtain ⟨x0, c0, r0⟩ := hx 0 (by omega)
   obtain ⟨x1, c1, r1⟩ := hx 1 (by omega)
   obtain ⟨x2, c2, r2⟩ := hx 2 (by omega)
   obtain ⟨x3, c3, r3⟩ := hx 3 (by omega)
   rw [he] at r0 r1 r2 r3
   have HNX : Hid (ensB (es.take (k + 1)) = ensB (es.take k) ++ enB e) := by rw [HN.out k hlt, he]; rfl
   have hnz : e.nm.length ≤ 1048576 := by have h1 := szEns_at es k; rw [he] at h1; have h2 := HL.out; omega
   clear hx he
   obtain ⟨nm, ⟨s, ino, dd⟩⟩ := e
   obtain rfl : x1 = .int .i64 s := r1
   obtain rfl : x2 = .int .i64 ino := r2
   obtain rfl : x3 = .bool dd := r3
   simp only [Nat.add_zero] at c0
   dsimp only at hnz HNX
   have RB : Hid (∀ W, Below wr.heap.size wr W → RdV W S2 x0 (.bytes nm)) := fun W hW => RdV.step (show RdV wr S2 x0 (.bytes nm) from r0) hW
   clear r0
   have hkl := HEL.out k hk
   have h5 := textB_len nm
   have hws := hbel.out.size
   go_wp2
   go_region_held3 (fun w' => w'.cell? ⟨w.heap.size, 5, none⟩ = some (.slice (some ⟨b, off, none⟩) m cap) ∧ w'.cell? ⟨b, off + k * 4, none⟩ = some x0 ∧ w'.cell? ⟨b, off + k * 4 + 1, none⟩ = some (.int .i64 s) ∧ w'.cell? ⟨b, off + k * 4 + 2, none⟩ = some (.int .i64 ino) ∧ w'.cell? ⟨b, off + k * 4 + 3, none⟩ = some (.bool dd)) (first | go_keep | (refine ⟨?_, ?_, ?_, ?_, ?_⟩ <;> assumption)) (first
    | (go_at_call 262; (with_reducible refine Calls.mono (specTextR u x0 (ys ++ ensB (es.take k)) nm _ S2 _ ((Owns.step HO.out (by repeat (first | exact Below.refl _ _ | apply Below.al2 | apply Below.drew | apply below_drewN2))).rdT HZ.out) (RB.out _ (by repeat (first | exact Below.refl _ _ | apply Below.al2 | apply Below.drew | apply below_drewN2))) (by simp only [List.length_append]; omega) (by omega)) ?_); rintro e w2 ⟨v1, rfl, z1, o1, b_⟩; have b1 : Below wr.heap.size wr w2 := Below.trans (by repeat (first | exact Below.refl _ _ | apply Below.al2 | apply Below.drew | apply below_drewN2)) b_; clear b_; have d5 := (b1.cell (p := ⟨w.heap.size, 5, none⟩) hvl_).trans a5_; have e0 := (b1.cell (p := ⟨b, off + k * 4, none⟩) hbl).trans c0; have e1 := (b1.cell (p := ⟨b, off + k * 4 + 1, none⟩) hbl).trans c1; have e2 := (b1.cell (p := ⟨b, off + k * 4 + 2, none⟩) hbl).trans c2; have e3 := (b1.cell (p := ⟨b, off + k * 4 + 3, none⟩) hbl).trans c3)
    | (go_at_call 224; (with_reducible refine Calls.mono (specHandX v1 (ys ++ ensB (es.take k) ++ textB nm) s ino dd _ _ ((Owns.step o1 (by repeat (first | exact Below.refl _ _ | apply Below.al2 | apply Below.drew | apply below_drewN2))).rdT z1) (by simp only [List.length_append]; omega)) ?_); rintro e w3 ⟨v2, rfl, z2, o2, b_⟩; have b2 : Below wr.heap.size wr w3 := b1.trans (b_.mono b1.size); clear b_; have f5 := (b2.cell (p := ⟨w.heap.size, 5, none⟩) hvl_).trans a5_; have g0 := (b2.cell (p := ⟨b, off + k * 4, none⟩) hbl).trans c0; have g1 := (b2.cell (p := ⟨b, off + k * 4 + 1, none⟩) hbl).trans c1; have g2 := (b2.cell (p := ⟨b, off + k * 4 + 2, none⟩) hbl).trans c2; have g3 := (b2.cell (p := ⟨b, off + k * 4 + 3, none⟩) hbl).trans c3))
   all_goals
    have HZ2 : Hid (isBytes (ys ++ ensB (es.take (k + 1)))) := by show isBytes _; rw [HNX.out]; simpa [enB, List.append_assoc] using z2
    have HO2 : Hid (Owns w3 w.heap.size v2 (ys ++ ensB (es.take (k + 1)))) := by
     have o_ := o2.base (b' := w.heap.size) (Nat.le_trans hws b1.size)
     show Owns _ _ _ _
     rw [HNX.out]; simpa [enB, List.append_assoc] using o_
    have HB2 : Hid (Below w.heap.size w w3) := hbel.out.trans (b2.mono hws)
    have vA2 := vA.step b2
    clear HZ HO hbel z1 z2 o1 o2
    go_wp2
    refine ⟨?_, ?_⟩
    ·exact ⟨k + 1, v2, by omega, by go_num, rfl, HZ2, HO2, HB2, vA2⟩
    ·simp [intOf]; omega
end
end Go.Proofs.YtklhikadhohjbaaGreat
