/- Joined: PRead2 GetTexts VarL RdC. -/
import Derived.Test.YtbnjhjgjmckedaaGreatJ03
import Derived.Test.YtbnjhjgjmckedaaGreatJ02
import Derived.Deep.MidRow
import Derived.Laws.CopyRow
import Derived.BigQuiet
import Derived.Deep.RegionHeld3

section
/- Plain facts: a message read out of bytes, as the specification and as the program do: they agree wherever either takes it. -/
namespace Go.Proofs.YtbnjhjgjmckedaaGreat
set_option linter.unusedVariables false
set_option linter.unusedSimpArgs false

def rdEnS (zs : List Int) (p : Int) : List En × Int := rdEns zs (min (getNum zs p).1.toNat 13) (getNum zs p).2
def rdEnP (zs : List Int) (p : Int) : List En × Int := if 12 < (getNum zs p).1 then ([], -1) else rdEnsP zs (getNum zs p).1.toNat (getNum zs p).2
def rdRp (e : Int → List En × Int) (zs : List Int) (p : Int) : RpD × Int := let k := getNum zs p; let h := rdHd zs k.2; let v := getNum zs h.2; let l := e v.2; (⟨k.1, h.1, v.1, l.1⟩, l.2)
def rdMs (e : Int → List En × Int) (zs : List Int) : MsD × Int :=
  let k := getNum zs 0; let f := getNum zs k.2; let t := getNum zs f.2
  if k.1 = 0 then let r := getNum zs t.2; let o := rdOp zs r.2; (⟨k.1, f.1, t.1, r.1, o.1, rp0, tx0, pt0, 0, hd0⟩, o.2)
  else if k.1 = 1 then let r := getNum zs t.2; let o := rdRp e zs r.2; (⟨k.1, f.1, t.1, r.1, op0, o.1, tx0, pt0, 0, hd0⟩, o.2)
  else let x := rdTx zs t.2
    if k.1 = 2 then let o := rdPt zs x.2; (⟨k.1, f.1, t.1, 0, op0, rp0, x.1, o.1, 0, hd0⟩, o.2)
    else if k.1 = 3 then let o := rdPt zs x.2; let c := getNum zs o.2; let h := rdHd zs c.2; (⟨k.1, f.1, t.1, 0, op0, rp0, x.1, o.1, c.1, h.1⟩, h.2)
    else if k.1 = 5 then let c := getNum zs x.2; (⟨k.1, f.1, t.1, 0, op0, rp0, x.1, pt0, c.1, hd0⟩, c.2)
    else if k.1 = 6 then let r := getNum zs x.2; let h := rdHd zs r.2; (⟨k.1, f.1, t.1, r.1, op0, rp0, x.1, pt0, 0, h.1⟩, h.2)
    else if k.1 = 7 then let r := getNum zs x.2; let c := getNum zs r.2; let h := rdHd zs c.2; (⟨k.1, f.1, t.1, r.1, op0, rp0, x.1, pt0, c.1, h.1⟩, h.2)
    else (⟨k.1, f.1, t.1, 0, op0, rp0, x.1, pt0, 0, hd0⟩, x.2)
theorem enP_neg {zs : List Int} {p : Int} (h : 0 ≤ (rdEnP zs p).2) : 0 ≤ p := by
  unfold rdEnP at h
  split at h
  · simp at h
  · exact num_neg (ensP_neg _ h)
theorem enP_same {zs : List Int} {p : Int} (h : 0 ≤ (rdEnP zs p).2) : rdEnS zs p = rdEnP zs p := by
  unfold rdEnP at h ⊢
  split at h
  · simp at h
  · rename_i hn
    rw [if_neg hn]
    unfold rdEnS
    rw [show min (getNum zs p).1.toNat 13 = (getNum zs p).1.toNat by omega]
    exact ens_same _ h
theorem enP_took {zs : List Int} {p : Int} (hz : isBytes zs) (h : 0 ≤ (rdEnP zs p).2) : Took zs p (putB ((rdEnP zs p).1.length : Int) ++ ensB (rdEnP zs p).1) (rdEnP zs p).2 := by
  unfold rdEnP at h ⊢
  split at h
  · simp at h
  · rename_i hn
    rw [if_neg hn]
    have h1 := ensP_neg _ h
    have t1 := num_took hz h1
    have hs := ens_same _ h
    rw [← hs] at h ⊢
    obtain ⟨t2, hl⟩ := ens_took hz _ t1.2.2.1 h
    have hf : 0 ≤ (getNum zs p).1 := by
      obtain ⟨n, nx, hg⟩ : ∃ n nx, getNum zs p = (n, nx) := ⟨_, _, rfl⟩
      have := getNum_fits hz hg
      rw [hg]; show 0 ≤ n; omega
    rw [hl, show (((getNum zs p).1.toNat : Nat) : Int) = (getNum zs p).1 by omega]
    exact t1.trans t2
theorem enS_same {zs : List Int} {p : Int} (hz : isBytes zs) (h : 0 ≤ (rdEnS zs p).2) (h12 : (rdEnS zs p).1.length ≤ 12) : rdEnP zs p = rdEnS zs p := by
  unfold rdEnS at h h12 ⊢
  have h1 := ens_neg _ h
  have t1 := num_took hz h1
  obtain ⟨t2, hl⟩ := ens_took hz _ t1.2.2.1 h
  have hm : min (getNum zs p).1.toNat 13 = (getNum zs p).1.toNat := by omega
  unfold rdEnP
  rw [if_neg (by omega)]
  rw [hm] at h ⊢
  exact ens_same' _ h
theorem rp_neg {zs : List Int} {p : Int} (h : 0 ≤ (rdRp (rdEnP zs) zs p).2) : 0 ≤ p := num_neg (hd_neg (num_neg (enP_neg h)))
theorem rp_took {zs : List Int} {p : Int} (hz : isBytes zs) (h : 0 ≤ (rdRp (rdEnP zs) zs p).2) : Took zs p (rpB (rdRp (rdEnP zs) zs p).1) (rdRp (rdEnP zs) zs p).2 :=
  (num_took hz (hd_neg (num_neg (enP_neg h)))).trans ((hd_took hz (num_neg (enP_neg h))).trans ((num_took hz (enP_neg h)).trans (enP_took hz h)))
/-- What the program read to the end is just the bytes. -/
theorem ms_took {zs : List Int} (hz : isBytes zs) (h : 0 ≤ (rdMs (rdEnP zs) zs).2) : Took zs 0 (msB (rdMs (rdEnP zs) zs).1) (rdMs (rdEnP zs) zs).2 := by
  have head : ∀ (B : List Int) (s : Int), 0 ≤ (getNum zs (getNum zs (getNum zs 0).2).2).2 → Took zs (getNum zs (getNum zs (getNum zs 0).2).2).2 B s → Took zs 0 (putB (getNum zs 0).1 ++ (putB (getNum zs (getNum zs 0).2).1 ++ (putB (getNum zs (getNum zs (getNum zs 0).2).2).1 ++ B))) s :=
    fun B s h0 t => (num_took hz (num_neg (num_neg h0))).trans ((num_took hz (num_neg h0)).trans ((num_took hz h0).trans t))
  unfold rdMs at h ⊢
  dsimp only at h ⊢
  by_cases k0 : (getNum zs 0).1 = 0
  · simp only [k0, if_true] at h ⊢
    have hh := head _ _ (num_neg (op_neg h)) ((num_took hz (op_neg h)).trans (op_took hz h))
    rw [k0] at hh
    simpa [msB, msRest] using hh
  by_cases k1 : (getNum zs 0).1 = 1
  · simp only [k1, if_true] at h ⊢
    simp only [show ¬ ((1 : Int) = 0) by omega, if_false] at h ⊢
    have hh := head _ _ (num_neg (rp_neg h)) ((num_took hz (rp_neg h)).trans (rp_took hz h))
    rw [k1] at hh
    simpa [msB, msRest] using hh
  simp only [k0, k1, if_false] at h ⊢
  by_cases k2 : (getNum zs 0).1 = 2
  · simp only [k2, if_true] at h ⊢
    have hh := head _ _ (tx_neg (pt_neg h)) ((tx_took hz (pt_neg h)).trans (pt_took hz h))
    rw [k2] at hh
    simpa [msB, msRest] using hh
  by_cases k3 : (getNum zs 0).1 = 3
  · simp only [k3, if_true] at h ⊢
    simp only [show ¬ ((3 : Int) = 2) by omega, if_false] at h ⊢
    have h1 := num_neg (hd_neg h)
    have hh := head _ _ (tx_neg (pt_neg h1)) ((tx_took hz (pt_neg h1)).trans ((pt_took hz h1).trans ((num_took hz (hd_neg h)).trans (hd_took hz h))))
    rw [k3] at hh
    simpa [msB, msRest] using hh
  simp only [k2, k3, if_false] at h ⊢
  by_cases k5 : (getNum zs 0).1 = 5
  · simp only [k5, if_true] at h ⊢
    have hh := head _ _ (tx_neg (num_neg h)) ((tx_took hz (num_neg h)).trans (num_took hz h))
    rw [k5] at hh
    simpa [msB, msRest] using hh
  by_cases k6 : (getNum zs 0).1 = 6
  · simp only [k6, if_true] at h ⊢
    simp only [show ¬ ((6 : Int) = 5) by omega, if_false] at h ⊢
    have h1 := num_neg (hd_neg h)
    have hh := head _ _ (tx_neg h1) ((tx_took hz h1).trans ((num_took hz (hd_neg h)).trans (hd_took hz h)))
    rw [k6] at hh
    simpa [msB, msRest] using hh
  by_cases k7 : (getNum zs 0).1 = 7
  · simp only [k7, if_true] at h ⊢
    simp only [show ¬ ((7 : Int) = 5) by omega, show ¬ ((7 : Int) = 6) by omega, if_false] at h ⊢
    have h1 := num_neg (hd_neg h)
    have hh := head _ _ (tx_neg (num_neg h1)) ((tx_took hz (num_neg h1)).trans ((num_took hz h1).trans ((num_took hz (hd_neg h)).trans (hd_took hz h))))
    rw [k7] at hh
    simpa [msB, msRest] using hh
  simp only [k5, k6, k7, if_false] at h ⊢
  have hh := head _ _ (tx_neg h) (tx_took hz h)
  simpa [msB, msRest, k0, k1, k2, k3, k5, k6, k7] using hh
/-- What the program takes, the specification reads the same. -/
theorem ms_same {zs : List Int} (h : 0 ≤ (rdMs (rdEnP zs) zs).2) : rdMs (rdEnS zs) zs = rdMs (rdEnP zs) zs := by
  by_cases k1 : (getNum zs 0).1 = 1
  · unfold rdMs at h ⊢
    simp only [k1, show ¬ ((1 : Int) = 0) by omega, if_false, if_true] at h ⊢
    unfold rdRp at h ⊢
    dsimp only at h ⊢
    rw [enP_same h]
  · unfold rdMs
    simp only [k1, if_false]
/-- What the specification takes, the program reads the same. -/
theorem ms_same' {zs : List Int} (hz : isBytes zs) (h : 0 ≤ (rdMs (rdEnS zs) zs).2) (h12 : (rdMs (rdEnS zs) zs).1.rp.list.length ≤ 12) : rdMs (rdEnP zs) zs = rdMs (rdEnS zs) zs := by
  by_cases k1 : (getNum zs 0).1 = 1
  · unfold rdMs at h h12 ⊢
    simp only [k1, show ¬ ((1 : Int) = 0) by omega, if_false, if_true] at h h12 ⊢
    unfold rdRp at h h12 ⊢
    dsimp only at h h12 ⊢
    rw [enS_same hz h h12]
  · unfold rdMs
    simp only [k1, if_false]
end Go.Proofs.YtbnjhjgjmckedaaGreat
end

section
/- The program's and the specification's GetText answer the same plain function on lists of bytes, in memory of their own. Conditions: at most 2,000,000 bytes come in. -/
namespace Go.Proofs.YtbnjhjgjmckedaaGreat
open Go.RowKit
set_option linter.unusedVariables false

theorem getText_no {zs : List Int} {p n nx : Int} (hg : getNum zs p = (n, nx)) (h : nx < 0 ∨ 40 < n ∨ (zs.length : Int) - nx < n) : getText zs p = ([], -1) := by
  unfold getText; rw [hg]; exact if_pos h
theorem getText_yes {zs : List Int} {p : Int} {n nx : Nat} (hg : getNum zs p = ((n : Int), (nx : Int))) (h : ¬ ((nx : Int) < 0 ∨ 40 < (n : Int) ∨ (zs.length : Int) - nx < n)) : getText zs p = ((zs.drop nx).take n, (nx : Int) + n) := by
  unfold getText; rw [hg]; rw [if_neg h]; simp
theorem Reads.part {w : World} {b off : Nat} {zs : List Int} (h : Reads w (some ⟨b, off, none⟩) zs) (nx n : Nat) (hn : nx + n ≤ zs.length) : Reads w (some ⟨b, off + nx, none⟩) ((zs.drop nx).take n) := by
  refine ⟨isBytes_take (isBytes_drop h.1 _) _, ?_⟩
  rcases h.2 with h0 | ⟨b', off', ha, hb, hc⟩
  · left; subst h0; simp
  · simp only [Option.some.injEq, Addr.mk.injEq] at ha
    obtain ⟨rfl, rfl, _⟩ := ha
    refine .inr ⟨b, off + nx, rfl, hb, fun i hi => ?_⟩
    have hi' : i < n := by simp at hi; omega
    have := hc (nx + i) (by omega)
    rw [Nat.add_assoc, this, List.getElem?_take, if_pos hi', List.getElem?_drop]

set_option maxHeartbeats 1000000 in
theorem implGetText_any (a : Option Addr) (zs : List Int) (len cap : Nat) (p : Int) (w : World) (h : Reads w a zs) (hlen : len = zs.length) (hl : zs.length ≤ 2000000) (hcap : zs.length ≤ cap) (hcm : cap ≤ maxLen) :
    Calls Tryz.prog 123 #[.slice a len cap, .int .i64 p] w fun e w' => ∃ v, e = .returned (.tuple #[v, .int .i64 (getText zs p).2]) ∧ Owns w' w.heap.size v (getText zs p).1 ∧ Below w.heap.size w w' := by
  obtain ⟨n, nx, hg⟩ : ∃ n nx, getNum zs p = (n, nx) := ⟨_, _, rfl⟩
  have hget := implGet_any a zs cap p w h (by omega) hcap hcm
  rw [hg, ← hlen] at hget
  have HGET : Hid _ := hget
  have fits := getNum_fits h.1 hg
  have hll : len ≤ 2000000 := by omega
  have hlc : len ≤ cap := by omega
  unfold maxLen at hcm
  clear hget
  by_cases hno : nx < 0 ∨ 40 < n ∨ (zs.length : Int) - nx < n
  · have HT : Hid _ := getText_no hg hno
    rw [← hlen] at hno
    have hn1 : -1 ≤ nx ∧ nx ≤ 2000000 ∧ 0 ≤ n ∧ n ≤ 2147483647 := by omega
    clear hg fits hlen hcap hl
    by_cases h1 : nx < 0
    · clear hno
      go_enter Tryz.func123, Tryz.ntmps123
      go_wp2_with fail
      refine Calls.mono HGET.out ?_
      rintro e w1 ⟨rfl, rfl⟩
      go_wp2
      go_ret2
      exact ⟨.slice none 0 0, by rw [HT.out]; rfl, by rw [HT.out]; exact World.ownsRow_nil _ _ _ _, Below.refl _ _⟩
    · by_cases h2 : 40 < n
      · clear hno
        go_enter Tryz.func123, Tryz.ntmps123
        go_wp2_with fail
        refine Calls.mono HGET.out ?_
        rintro e w1 ⟨rfl, rfl⟩
        go_wp2
        go_ret2
        exact ⟨.slice none 0 0, by rw [HT.out]; rfl, by rw [HT.out]; exact World.ownsRow_nil _ _ _ _, Below.refl _ _⟩
      · have h3 : (len : Int) - nx < n := by omega
        clear hno
        go_enter Tryz.func123, Tryz.ntmps123
        go_wp2_with fail
        refine Calls.mono HGET.out ?_
        rintro e w1 ⟨rfl, rfl⟩
        go_wp2
        go_ret2
        exact ⟨.slice none 0 0, by rw [HT.out]; rfl, by rw [HT.out]; exact World.ownsRow_nil _ _ _ _, Below.refl _ _⟩
  · obtain ⟨N, rfl⟩ : ∃ N : Nat, n = (N : Int) := ⟨n.toNat, by omega⟩
    obtain ⟨X, rfl⟩ : ∃ X : Nat, nx = (X : Int) := ⟨nx.toNat, by omega⟩
    have HT : Hid _ := getText_yes hg hno
    obtain ⟨b, off, rfl⟩ : ∃ b off, a = some ⟨b, off, none⟩ := by
      rcases h.2 with rfl | ⟨b, off, ha, _⟩
      · simp at fits; omega
      · exact ⟨b, off, ha⟩
    have HP : Hid _ := h.part X N (by omega)
    have HN : Hid (N = ((zs.drop X).take N).length) := by show _ = _; simp; omega
    have hXN : X + N ≤ len := by omega
    have hN : N ≤ 40 := by omega
    have hX : 1 ≤ X := by omega
    have HEM : Hid (N = 0 → (zs.drop X).take N = []) := fun e => by rw [e]; simp
    clear hg fits hlen hcap hl hno
    by_cases hN0 : N = 0
    · subst hN0
      have HT2 : Hid (getText zs p = ([], (X : Int))) := by show _ = _; rw [HT.out]; simp
      clear HT HP HN HEM
      go_enter Tryz.func123, Tryz.ntmps123
      go_wp2_with fail
      refine Calls.mono HGET.out ?_
      rintro e w1 ⟨rfl, rfl⟩
      go_wp2_with fail
      all_goals
        refine (joined_v none _ [] [] _ _ _ _ _ (reads_none _ _) (reads_none _ _) rfl rfl (by simp) (by simp)).mono ?_
        rintro e w2 ⟨v, rfl, ho, hb⟩
        go_wp2
        go_ret2
        exact ⟨v, by rw [HT2.out]; rfl, by rw [HT2.out]; exact ho, hb⟩
    · clear HEM
      have hXc : X < cap := by omega
      go_enter Tryz.func123, Tryz.ntmps123
      go_wp2_with fail
      refine Calls.mono HGET.out ?_
      rintro e w1 ⟨rfl, rfl⟩
      go_wp2_with fail
      refine (joined_v none _ [] ((zs.drop X).take N) _ _ _ _ _ (reads_none _ _) HP.out rfl HN.out (by simp) (by rw [← HN.out]; omega)).mono ?_
      rintro e w2 ⟨v, rfl, ho, hb⟩
      go_wp2
      go_ret2
      exact ⟨v, by rw [HT.out]; rfl, by rw [HT.out]; exact ho, hb⟩

set_option maxHeartbeats 1000000 in
theorem specGetText_any (a : Option Addr) (zs : List Int) (len cap : Nat) (p : Int) (w : World) (h : Reads w a zs) (hlen : len = zs.length) (hl : zs.length ≤ 2000000) (hcap : zs.length ≤ cap) (hcm : cap ≤ maxLen) (hpb : p ≤ 9223372036854775807) :
    Calls Tryz.prog 116 #[.slice a len cap, .int .i64 p] w fun e w' => ∃ v, e = .returned (.tuple #[v, .int .i64 (getText zs p).2]) ∧ Owns w' w.heap.size v (getText zs p).1 ∧ Below w.heap.size w w' := by
  obtain ⟨n, nx, hg⟩ : ∃ n nx, getNum zs p = (n, nx) := ⟨_, _, rfl⟩
  have hget := specGet_any a zs cap p w h (by omega) hpb
  rw [hg, ← hlen] at hget
  have HGET : Hid _ := hget
  have fits := getNum_fits h.1 hg
  have hll : len ≤ 2000000 := by omega
  have hlc : len ≤ cap := by omega
  unfold maxLen at hcm
  clear hget hpb
  by_cases hno : nx < 0 ∨ 40 < n ∨ (zs.length : Int) - nx < n
  · have HT : Hid _ := getText_no hg hno
    rw [← hlen] at hno
    have hn1 : -1 ≤ nx ∧ nx ≤ 2000000 ∧ 0 ≤ n ∧ n ≤ 2147483647 := by omega
    clear hg fits hlen hcap hl
    by_cases h1 : nx < 0
    · clear hno
      go_enter Tryz.func116, Tryz.ntmps116
      go_wp2_with fail
      refine Calls.mono HGET.out ?_
      rintro e w1 ⟨rfl, rfl⟩
      go_wp2
      go_ret2
      exact ⟨.slice none 0 0, by rw [HT.out]; rfl, by rw [HT.out]; exact World.ownsRow_nil _ _ _ _, Below.refl _ _⟩
    · by_cases h2 : 40 < n
      · clear hno
        go_enter Tryz.func116, Tryz.ntmps116
        go_wp2_with fail
        refine Calls.mono HGET.out ?_
        rintro e w1 ⟨rfl, rfl⟩
        go_wp2
        go_ret2
        exact ⟨.slice none 0 0, by rw [HT.out]; rfl, by rw [HT.out]; exact World.ownsRow_nil _ _ _ _, Below.refl _ _⟩
      · have h3 : (len : Int) - nx < n := by omega
        clear hno
        go_enter Tryz.func116, Tryz.ntmps116
        go_wp2_with fail
        refine Calls.mono HGET.out ?_
        rintro e w1 ⟨rfl, rfl⟩
        go_wp2
        go_ret2
        exact ⟨.slice none 0 0, by rw [HT.out]; rfl, by rw [HT.out]; exact World.ownsRow_nil _ _ _ _, Below.refl _ _⟩
  · obtain ⟨N, rfl⟩ : ∃ N : Nat, n = (N : Int) := ⟨n.toNat, by omega⟩
    obtain ⟨X, rfl⟩ : ∃ X : Nat, nx = (X : Int) := ⟨nx.toNat, by omega⟩
    have HT : Hid _ := getText_yes hg hno
    obtain ⟨b, off, rfl⟩ : ∃ b off, a = some ⟨b, off, none⟩ := by
      rcases h.2 with rfl | ⟨b, off, ha, _⟩
      · simp at fits; omega
      · exact ⟨b, off, ha⟩
    have HB1 : Hid (Below w.heap.size w (w.alloc (.cells #[] 5))) := (Below.refl _ _).alloc (Nat.le_refl _) _
    have HP : Hid _ := (h.part X N (by omega)).below HB1.out
    have HN : Hid (N = ((zs.drop X).take N).length) := by show _ = _; simp; omega
    have hXN : X + N ≤ len := by omega
    have hN : N ≤ 40 := by omega
    have hX : 1 ≤ X := by omega
    clear hg fits hlen hcap hl hno
    by_cases hN0 : N = 0
    · subst hN0
      have HT2 : Hid (getText zs p = ([], (X : Int))) := by show _ = _; rw [HT.out]; simp
      clear HT HP HN
      rcases (show cap = X ∨ X < cap from by omega) with hXc | hXc
      · subst hXc
        go_enter Tryz.func116, Tryz.ntmps116
        go_wp2_with fail
        refine Calls.mono HGET.out ?_
        rintro e w1 ⟨rfl, hw1⟩
        subst hw1
        go_wp2_with (at_builtin; go_must (refine wpList_app _ rfl (.tmp 28) (.tmp 34) rfl _ _ [] [] rfl (owns_empty _) _ _ _ rfl (by first | rfl | simp) (reads_none _ _) (by simp) (by simp) (by simp) (fun h => by cases h) ?_; intro v w2 ho hg))
        go_ret2
        exact ⟨v, by rw [HT2.out]; rfl, by rw [HT2.out]; exact ho, HB1.out.grown hg (by simp) (fun k hk => ((owns_empty _).lt k hk).1)⟩
      · go_enter Tryz.func116, Tryz.ntmps116
        go_wp2_with fail
        refine Calls.mono HGET.out ?_
        rintro e w1 ⟨rfl, hw1⟩
        subst hw1
        go_wp2_with (at_builtin; go_must (refine wpList_app _ rfl (.tmp 28) (.tmp 34) rfl _ _ [] [] rfl (owns_empty _) _ _ _ rfl (by first | rfl | simp) (reads_none _ _) (by simp) (by simp) (by simp) (fun h => by cases h) ?_; intro v w2 ho hg))
        go_ret2
        exact ⟨v, by rw [HT2.out]; rfl, by rw [HT2.out]; exact ho, HB1.out.grown hg (by simp) (fun k hk => ((owns_empty _).lt k hk).1)⟩
    · have hXc : X < cap := by omega
      go_enter Tryz.func116, Tryz.ntmps116
      go_wp2_with (first
        | (go_at_call 92; refine Calls.mono HGET.out ?_; rintro e w1 ⟨rfl, hw1⟩; subst hw1)
        | (at_builtin; go_must (refine wpList_app _ rfl (.tmp 28) (.tmp 34) rfl _ _ [] ((zs.drop X).take N) rfl (owns_empty _) _ _ _ rfl (by first | exact HN.out | (rw [Nat.add_sub_cancel_left]; exact HN.out)) HP.out (by simp) (by rw [← HN.out]; omega) (by simp) (fun h => by cases h) ?_; intro v w2 ho hg)))
      go_ret2
      exact ⟨v, by rw [HT.out]; rfl, by rw [HT.out]; simpa using ho, HB1.out.grown hg (by simp) (fun k hk => ((owns_empty _).lt k hk).1)⟩

theorem Owns.openNil {w : World} {base : Nat} {v : Value} {zs : List Int} (hz : isBytes zs) (h : Owns w base v zs) : ∃ a len cap, v = .slice a len cap ∧ len = zs.length ∧ Reads w a zs ∧ (a = none → len = 0 ∧ cap = 0) := by
  rcases h.2 with ⟨rfl, h0⟩ | ⟨g, c, cur, rfl, _⟩
  · exact ⟨none, 0, 0, rfl, h0.symm, (h.reads hz).2, fun _ => ⟨rfl, rfl⟩⟩
  · exact ⟨_, _, c, rfl, rfl, (h.reads hz).2, fun h => by cases h⟩
end Go.Proofs.YtbnjhjgjmckedaaGreat
end

section
/- Loads and stores of whole structs in variables, one step each; no condition. -/
namespace Go.Proofs.YtbnjhjgjmckedaaGreat
open Go.RowKit
set_option linter.unusedVariables false
set_option linter.unusedSimpArgs false
set_option maxRecDepth 100000

theorem storeF_run {P : Program} {w : World} {g off : Nat} {T ty : TypeId} {old vs : Array Value} (hv : VarA w g T old) (hl : off + vs.size ≤ old.size) (hi : (P.info? ty).map (·.size) = some vs.size) (h1 : vs.toList.all (·.oneCell') = true) :
    (storeVar ty ⟨g, off, none⟩ (.agg vs)).run P w = .ok () (w.setRow g (old.toList.take off ++ vs.toList ++ old.toList.drop (off + vs.size)).toArray) := by
  have h := run_storeCells_at (P := P) g off T vs.toList 0 old w hv (by simpa using hl) (fun v hv => (List.all_eq_true.1 h1) v hv)
  cases hq : P.info? ty with
  | none => simp [hq] at hi
  | some i =>
    have hs : vs.size = i.size := by simp [hq] at hi; omega
    simp only [Nat.add_zero, Array.length_toList] at h
    simp [storeVar, sizeOf, typeInfo, hq, Value.cells, hs, h]
theorem VarA.row {w : World} {g : Nat} {T : TypeId} {old new : Array Value} (hv : VarA w g T old) : VarA (w.setRow g new) g T new := setRow_heap w g old new T _ hv
theorem turned_row (w : World) (g : Nat) (new : Array Value) : Turned (fun b => b = g) w (w.setRow g new) := ⟨rfl, rfl, rfl, by simp [World.setRow], fun k _ hk => setRow_other w g k new (fun e => hk e)⟩
/-- A struct stored into a variable, from the cell off on. -/
theorem wpList_storeF {ty t' : TypeId} {dst : Option Tmp} {x y : Operand} {pos : String} {af : Array Edge} {ops : Array Oper} {rest : List Oper} {a : Act} {Q : Exit → Act → World → Prop} {w : World} {g off : Nat} {T : TypeId} {old vs new : Array Value}
    (hv : VarA w g T old) (hx : a.eval x = .pointer (some ⟨g, off, none⟩)) (hy : a.eval y = .agg vs) (hi : (Tryz.prog.info? ty).map (·.size) = some vs.size) (h1 : vs.toList.all (·.oneCell') = true) (hl : off + vs.size ≤ old.size)
    (hnew : (old.toList.take off ++ vs.toList ++ old.toList.drop (off + vs.size)).toArray = new)
    (hK : ∀ w', VarA w' g T new → Turned (fun b => b = g) w w' → wpList Tryz.prog ops Q rest (a.put dst undef) w') :
    wpList Tryz.prog ops Q (⟨dst, .store ty x y, t', pos, af, none⟩ :: rest) a w := by
  refine wpList_plain rfl fun K' hK' => ?_
  unfold Oper.wp execOp
  simp only [hx, hy, Instr.storeAt, Instr.sureAddr, Sem.run_bind, Sem.run_pure, Result.andThen_ok, storeF_run hv hl hi h1]
  rw [hnew]
  exact hK' _ _ (hK _ (VarA.row hv) (turned_row w g new))
theorem guardStore {ty t' : TypeId} {dst : Option Tmp} {x y : Operand} {pos : String} {af : Array Edge} {ops : Array Oper} {rest : List Oper} {a : Act} {Q : Exit → Act → World → Prop} {w : World}
    (h : wpList Tryz.prog ops Q (⟨dst, .store ty x y, t', pos, af, none⟩ :: rest) a w) : wpList Tryz.prog ops Q (⟨dst, .store ty x y, t', pos, af, none⟩ :: rest) a w := h
theorem guardLoad {ty t' : TypeId} {dst : Option Tmp} {x : Operand} {pos : String} {af : Array Edge} {ops : Array Oper} {rest : List Oper} {a : Act} {Q : Exit → Act → World → Prop} {w : World}
    (h : wpList Tryz.prog ops Q (⟨dst, .load ty x, t', pos, af, none⟩ :: rest) a w) : wpList Tryz.prog ops Q (⟨dst, .load ty x, t', pos, af, none⟩ :: rest) a w := h
theorem rangeA {w : World} {g : Nat} {T : TypeId} {cs : Array Value} {off : Nat} {vs : List Value} (hv : VarA w g T cs) (hvs : (cs.toList.drop off).take vs.length = vs) : w.rangeAt g off vs := by
  intro j v hj
  rw [cell_of_row _ _ _ _ _ _ hv]
  rw [← hvs] at hj
  have hj' : j < vs.length := by
    rw [List.getElem?_take] at hj
    split at hj
    · assumption
    · cases hj
  rw [List.getElem?_take, if_pos hj', List.getElem?_drop] at hj
  simpa using hj
/-- The variable of a result, read at the end. -/
theorem loadA_run {w : World} {g : Nat} {T ty : TypeId} {cs : Array Value} {d : TypeDesc} (hv : VarA w g T cs) (hu : Tryz.prog.underlying ty = some d) (hd : d.isRow = true) (hi : (Tryz.prog.info? ty).map (·.size) = some cs.size) : (loadVar ty ⟨g, 0, none⟩).run Tryz.prog w = .ok (.agg cs) w := by
  have h := run_loadVar_mid (P := Tryz.prog) w g 0 ty cs.toList d (rangeA hv (by rw [List.drop_zero, List.take_length])) hu hd (by simpa using hi)
  simpa using h
theorem loadAt_run {w : World} {g : Nat} {T ty : TypeId} {cs : Array Value} {d : TypeDesc} (hv : VarA w g T cs) (hu : Tryz.prog.underlying ty = some d) (hd : d.isRow = true) (hi : (Tryz.prog.info? ty).map (·.size) = some cs.size) : (Instr.loadAt ty (.pointer (some ⟨g, 0, none⟩))).run Tryz.prog w = .ok (.agg cs) w := by
  simp only [Instr.loadAt, Instr.sureAddr, Sem.run_bind, Sem.run_pure, Result.andThen_ok, loadA_run hv hu hd hi]
/-- A whole variable loaded. -/
theorem wpList_loadA {ty t' : TypeId} {dst : Option Tmp} {x : Operand} {pos : String} {af : Array Edge} {ops : Array Oper} {rest : List Oper} {a : Act} {Q : Exit → Act → World → Prop} {w : World} {g : Nat} {T : TypeId} {cs : Array Value} {d : TypeDesc}
    (hv : VarA w g T cs) (hx : a.eval x = .pointer (some ⟨g, 0, none⟩)) (hu : Tryz.prog.underlying ty = some d) (hd : d.isRow = true) (hi : (Tryz.prog.info? ty).map (·.size) = some cs.size)
    (hK : wpList Tryz.prog ops Q rest (a.put dst (.agg cs)) w) :
    wpList Tryz.prog ops Q (⟨dst, .load ty x, t', pos, af, none⟩ :: rest) a w := by
  refine wpList_plain rfl fun K' hK' => ?_
  unfold Oper.wp execOp
  simp only [hx, Instr.loadAt, Instr.sureAddr, Sem.run_bind, Sem.run_pure, Result.andThen_ok, loadA_run hv hu hd hi]
  exact hK' _ _ hK
theorem loadOp_run {ty t' : TypeId} {dst : Option Tmp} {x : Operand} {pos : String} {af : Array Edge} {gd : Option (Nat × Bool)} {a : Act} {w : World} {g : Nat} {T : TypeId} {cs : Array Value} {d : TypeDesc}
    (hv : VarA w g T cs) (hx : a.eval x = .pointer (some ⟨g, 0, none⟩)) (hu : Tryz.prog.underlying ty = some d) (hd : d.isRow = true) (hi : (Tryz.prog.info? ty).map (·.size) = some cs.size) :
    (execOp a.eval ⟨dst, .load ty x, t', pos, af, gd⟩).run Tryz.prog w = .ok (.value (.agg cs)) w := by
  unfold execOp
  simp only [hx, Sem.run_bind, loadAt_run hv hu hd hi, Sem.run_pure, Result.andThen_ok]
/-- A whole variable loaded, in a region that only reads. -/
theorem wpQuiet_loadA {ty t' : TypeId} {dst : Option Tmp} {x : Operand} {pos : String} {af : Array Edge} {gd : Option (Nat × Bool)} {ops : Array Oper} {rest : List Oper} {a : Act} {Q : Act → Prop} {C : World → Prop} {g : Nat} {T : TypeId} {cs : Array Value} {d : TypeDesc}
    (hv : ∀ w, C w → VarA w g T cs) (hw : Region.wanted ⟨dst, .load ty x, t', pos, af, gd⟩ (yielded ops a.tmps) = true) (hx : a.eval x = .pointer (some ⟨g, 0, none⟩)) (hu : Tryz.prog.underlying ty = some d) (hd : d.isRow = true) (hi : (Tryz.prog.info? ty).map (·.size) = some cs.size)
    (h : wpQuiet Tryz.prog ops C Q rest (a.put dst (.agg cs))) :
    wpQuiet Tryz.prog ops C Q (⟨dst, .load ty x, t', pos, af, gd⟩ :: rest) a :=
  BigFrame.wpQuiet_want hw fun K hK => ⟨.agg cs, fun w hC => by
    unfold Oper.quietAt execOp
    simp only [hx, Sem.run_bind, loadAt_run (hv w hC) hu hd hi, Sem.run_pure, Result.andThen_ok]
    exact ⟨rfl, rfl⟩, hK _ h⟩
theorem VarA.dr {w : World} {b : Nat} {T : TypeId} {cs : Array Value} (h : VarA w b T cs) : VarA w.drew b T cs := h
theorem Turned.one {S : Nat → Prop} {g : Nat} {w w' : World} (t : Turned (fun b => b = g) w w') (h : S g) : Turned S w w' := t.wide (fun k e => by subst e; exact h)
end Go.Proofs.YtbnjhjgjmckedaaGreat
end

section
/- Reading by a cursor: numbers, texts, flags, handles, by the specification and by the program. Condition: at most 2,000,000 bytes. -/
namespace Go.Proofs.YtbnjhjgjmckedaaGreat
open Go.RowKit
set_option linter.unusedVariables false
set_option linter.unusedSimpArgs false
set_option maxRecDepth 100000

/-- A cursor in block pb: it reads zs, which lie in elder blocks, and stands at p. -/
def CurV (T : TypeId) (pb : Nat) (zs : List Int) (v : Value) (p : Int) (w : World) : Prop := VarA w pb T #[v, .int .i64 p] ∧ RdV w (fun b => b < pb) v (.bytes zs) ∧ -1 ≤ p ∧ p ≤ zs.length
section
variable {T : TypeId} {pb : Nat} {zs : List Int} {v : Value} {p : Int} {w w' : World}
theorem CurV.lt (h : CurV T pb zs v p w) : pb < w.heap.size := VarA.lt h.1
theorem CurV.keep {S : Nat → Prop} (h : CurV T pb zs v p w) (t : Turned S w w') (hS : ∀ b, S b → pb < b) : CurV T pb zs v p w' :=
  ⟨VarA.turn h.1 t (fun hs => absurd (hS _ hs) (by omega)), RdV.keep (t.keeps (fun b hb hs => absurd (hS _ hs) (by omega))) h.2.1, h.2.2⟩
theorem CurV.step (h : CurV T pb zs v p w) (hb : Below w.heap.size w w') : CurV T pb zs v p w' := ⟨VarA.step h.1 hb, RdV.step h.2.1 hb, h.2.2⟩
theorem CurV.alloc (h : CurV T pb zs v p w) (o : Obj) : CurV T pb zs v p (w.alloc o) := h.step (Below.new1 o)
theorem CurV.put (h : CurV T pb zs v p w) (q : Int) (h1 : -1 ≤ q) (h2 : q ≤ zs.length) : CurV T pb zs v q (w.setCell ⟨pb, 1, none⟩ (.int .i64 q)) := by
  refine ⟨VarA.set h.1 1 (.int .i64 q), RdV.keep (Turned.keeps (S := fun b => b = pb) ((Turned.refl _ w).set ⟨pb, 1, none⟩ _ rfl) (fun b hb hs => by omega)) h.2.1, h1, h2⟩
end
theorem Turned.then {S S' : Nat → Prop} {a b c : World} (h : Turned S a b) (k : Turned S' b c) (hs : ∀ i, i < a.heap.size → S' i → S i) : Turned S a c :=
  ⟨k.os.trans h.os, k.tape.trans h.tape, k.output.trans h.output, Nat.le_trans h.size k.size, fun i hi hr => (k.block i (Nat.lt_of_lt_of_le hi h.size) (fun e => hr (hs i hi e))).trans (h.block i hi hr)⟩
/-- A value of one or more cells stored into a variable, from the cell off on. -/
theorem storeG_run {P : Program} {w : World} {g off : Nat} {T ty : TypeId} {old vs : Array Value} {u : Value} (hu : u.cells = vs) (hv : VarA w g T old) (hl : off + vs.size ≤ old.size) (hi : (P.info? ty).map (·.size) = some vs.size) (h1 : vs.toList.all (·.oneCell') = true) :
    (storeVar ty ⟨g, off, none⟩ u).run P w = .ok () (w.setRow g (old.toList.take off ++ vs.toList ++ old.toList.drop (off + vs.size)).toArray) := by
  have h := run_storeCells_at (P := P) g off T vs.toList 0 old w hv (by simpa using hl) (fun v hv => (List.all_eq_true.1 h1) v hv)
  cases hq : P.info? ty with
  | none => simp [hq] at hi
  | some i =>
    have hs : vs.size = i.size := by simp [hq] at hi; omega
    simp only [Nat.add_zero, Array.length_toList] at h
    simp [storeVar, sizeOf, typeInfo, hq, hu, hs, h]
theorem wpList_storeG {ty t' : TypeId} {dst : Option Tmp} {x y : Operand} {pos : String} {af : Array Edge} {ops : Array Oper} {rest : List Oper} {a : Act} {Q : Exit → Act → World → Prop} {w : World} {g off : Nat} {T : TypeId} {old vs new : Array Value} {u : Value}
    (hv : VarA w g T old) (hx : a.eval x = .pointer (some ⟨g, off, none⟩)) (hy : a.eval y = u) (hu : u.cells = vs) (hi : (Tryz.prog.info? ty).map (·.size) = some vs.size) (h1 : vs.toList.all (·.oneCell') = true) (hl : off + vs.size ≤ old.size)
    (hnew : (old.toList.take off ++ vs.toList ++ old.toList.drop (off + vs.size)).toArray = new)
    (hK : ∀ w', VarA w' g T new → Turned (fun b => b = g) w w' → wpList Tryz.prog ops Q rest (a.put dst undef) w') :
    wpList Tryz.prog ops Q (⟨dst, .store ty x y, t', pos, af, none⟩ :: rest) a w := by
  refine wpList_plain rfl fun K' hK' => ?_
  unfold Oper.wp execOp
  simp only [hx, hy, Instr.storeAt, Instr.sureAddr, Sem.run_bind, Sem.run_pure, Result.andThen_ok, storeG_run hu hv hl hi h1]
  rw [hnew]
  exact hK' _ _ (hK _ (VarA.row hv) (turned_row w g new))
theorem getNum_at {zs : List Int} (hz : isBytes zs) (p : Int) : -1 ≤ (getNum zs p).2 ∧ (getNum zs p).2 ≤ zs.length := by
  obtain ⟨n, nx, hg⟩ : ∃ n nx, getNum zs p = (n, nx) := ⟨_, _, rfl⟩
  have := getNum_fits hz hg
  rw [hg]; dsimp only; omega
theorem getText_at {zs : List Int} (hz : isBytes zs) (p : Int) : -1 ≤ (getText zs p).2 ∧ (getText zs p).2 ≤ zs.length := by
  obtain ⟨n, nx, hg⟩ : ∃ n nx, getNum zs p = (n, nx) := ⟨_, _, rfl⟩
  have := getNum_fits hz hg
  unfold getText
  rw [hg]; dsimp only
  split
  · exact ⟨by simp, by simp⟩
  · dsimp only; omega
theorem RdV.zs {w : World} {S : Nat → Prop} {v : Value} {zs : List Int} (r : RdV w S v (.bytes zs)) : isBytes zs := r.b.reads.choose_spec.choose_spec.2.2.1
theorem implGetR (v : Value) (zs : List Int) (S : Nat → Prop) (p : Int) (w : World) (r : RdV w S v (.bytes zs)) (hl : zs.length ≤ 2000000) :
    Calls Tryz.prog 85 #[v, .int .i64 p] w fun e w' => e = .returned (.tuple #[.int .i64 (getNum zs p).1, .int .i64 (getNum zs p).2]) ∧ w' = w := by
  obtain ⟨a, cap, rfl, hh, hr⟩ := r.b.reads
  exact implGet_any a zs cap p w hr (by omega) hh.1 hh.2.1
theorem specGetR (v : Value) (zs : List Int) (S : Nat → Prop) (p : Int) (w : World) (r : RdV w S v (.bytes zs)) (hl : zs.length ≤ 2000000) (hp : p ≤ zs.length) :
    Calls Tryz.prog 92 #[v, .int .i64 p] w fun e w' => e = .returned (.tuple #[.int .i64 (getNum zs p).1, .int .i64 (getNum zs p).2]) ∧ w' = w := by
  obtain ⟨a, cap, rfl, hh, hr⟩ := r.b.reads
  exact specGet_any a zs cap p w hr (by omega) (by omega)
theorem implGetTextR (v : Value) (zs : List Int) (S : Nat → Prop) (p : Int) (w : World) (r : RdV w S v (.bytes zs)) (hl : zs.length ≤ 2000000) :
    Calls Tryz.prog 123 #[v, .int .i64 p] w fun e w' => ∃ v, e = .returned (.tuple #[v, .int .i64 (getText zs p).2]) ∧ Owns w' w.heap.size v (getText zs p).1 ∧ Below w.heap.size w w' := by
  obtain ⟨a, cap, rfl, hh, hr⟩ := r.b.reads
  exact implGetText_any a zs _ cap p w hr rfl hl hh.1 hh.2.1
theorem specGetTextR (v : Value) (zs : List Int) (S : Nat → Prop) (p : Int) (w : World) (r : RdV w S v (.bytes zs)) (hl : zs.length ≤ 2000000) (hp : p ≤ zs.length) :
    Calls Tryz.prog 116 #[v, .int .i64 p] w fun e w' => ∃ v, e = .returned (.tuple #[v, .int .i64 (getText zs p).2]) ∧ Owns w' w.heap.size v (getText zs p).1 ∧ Below w.heap.size w w' := by
  obtain ⟨a, cap, rfl, hh, hr⟩ := r.b.reads
  exact specGetText_any a zs _ cap p w hr rfl hl hh.1 hh.2.1 (by omega)
/-- The cursor has gone from p to q. -/
abbrev Gone (T : TypeId) (pb : Nat) (zs : List Int) (v : Value) (q : Int) (w w' : World) : Prop := CurV T pb zs v q w' ∧ Turned (fun b => b = pb) w w'
theorem Turned.drew1 (S : Nat → Prop) (a : World) : Turned S a a.drew := ⟨rfl, rfl, rfl, Nat.le_refl _, fun _ _ _ => rfl⟩
theorem CurV.dr {T : TypeId} {pb : Nat} {zs : List Int} {v : Value} {p : Int} {w : World} (h : CurV T pb zs v p w) : CurV T pb zs v p w.drew := h.step (Below.drew (Below.refl _ _))
theorem owNilB (w : World) (S : Nat → Prop) : OwV w S (.slice none 0 0) (.bytes []) := ⟨isBytes_nil, ⟨rfl, .inl ⟨rfl, rfl⟩⟩, fun b hb => by cases hb⟩
set_option maxHeartbeats 2000000 in
theorem implNumC (pb : Nat) (zs : List Int) (v : Value) (p : Int) (w : World) (h : CurV 69 pb zs v p w) (hl : zs.length ≤ 2000000) :
    Calls Tryz.prog 39 #[.pointer (some ⟨pb, 0, none⟩)] w fun e w' => e = .returned (.int .i64 (getNum zs p).1) ∧ Gone 69 pb zs v (getNum zs p).2 w w' := by
  have HG : Hid (∀ W, Below w.heap.size w W → _) := fun W hW => implGetR v zs _ p W (RdV.step h.2.1 hW) hl
  have hz := RdV.zs h.2.1
  have HA : Hid _ := getNum_at hz p
  have HC : Hid (CurV 69 pb zs v p w) := h
  obtain ⟨c0, c1⟩ := VarA.l2 h.1
  have hf := VarA.fz h.1
  clear h hz
  generalize getNum zs p = g at HG HA ⊢
  obtain ⟨n, nx⟩ := g
  dsimp only at HG HA ⊢
  go_enter Tryz.func39, Tryz.ntmps39
  go_wp2
  go_region_held3 (fun w' => w'.cell? ⟨pb, 0, none⟩ = some v ∧ w'.cell? ⟨pb, 1, none⟩ = some (.int .i64 p)) (first | go_keep | (refine ⟨?_, ?_⟩ <;> assumption)) (first | (go_at_call 85; refine Calls.mono (HG.out _ (by repeat (first | exact Below.refl _ _ | refine Below.drew ?_ | refine below_drewN2 ?_ _))) ?_; rintro e w' ⟨rfl, rfl⟩))
  go_wp2
  go_ret
  exact ⟨rfl, CurV.put HC.out.dr nx HA.out.1 HA.out.2, (Turned.drew1 _ _).set _ _ rfl⟩
set_option maxHeartbeats 2000000 in
theorem specNumC (pb : Nat) (zs : List Int) (v : Value) (p : Int) (w : World) (h : CurV 77 pb zs v p w) (hl : zs.length ≤ 2000000) :
    Calls Tryz.prog 46 #[.pointer (some ⟨pb, 0, none⟩)] w fun e w' => e = .returned (.int .i64 (getNum zs p).1) ∧ Gone 77 pb zs v (getNum zs p).2 w w' := by
  by_cases h0 : p < 0
  case pos =>
    have hp : p = -1 := by have := h.2.2.1; omega
    subst hp
    rw [getNum_out zs (-1) (.inl (by omega))]
    obtain ⟨c0, c1⟩ := VarA.l2 h.1
    have HC : Hid (CurV 77 pb zs v (-1) w) := h
    clear h
    go_enter Tryz.func46, Tryz.ntmps46
    go_wp2
    go_ret
    exact ⟨rfl, HC.out, Turned.refl _ _⟩
  have HG : Hid (∀ W, Below w.heap.size w W → _) := fun W hW => specGetR v zs _ p W (RdV.step h.2.1 hW) hl h.2.2.2
  have hz := RdV.zs h.2.1
  have HA : Hid _ := getNum_at hz p
  have HC : Hid (CurV 77 pb zs v p w) := h
  obtain ⟨c0, c1⟩ := VarA.l2 h.1
  have hf := VarA.fz h.1
  clear h hz
  generalize getNum zs p = g at HG HA ⊢
  obtain ⟨n, nx⟩ := g
  dsimp only at HG HA ⊢
  go_enter Tryz.func46, Tryz.ntmps46
  go_wp2
  go_region_held3 (fun w' => w'.cell? ⟨pb, 0, none⟩ = some v ∧ w'.cell? ⟨pb, 1, none⟩ = some (.int .i64 p)) (first | go_keep | (refine ⟨?_, ?_⟩ <;> assumption)) (first | (go_at_call 92; refine Calls.mono (HG.out _ (by repeat (first | exact Below.refl _ _ | refine Below.drew ?_ | refine below_drewN2 ?_ _))) ?_; rintro e w' ⟨rfl, rfl⟩))
  go_wp2
  go_ret
  exact ⟨rfl, CurV.put HC.out.dr nx HA.out.1 HA.out.2, (Turned.drew1 _ _).set _ _ rfl⟩
set_option maxHeartbeats 2000000 in
theorem implTextC (pb : Nat) (zs : List Int) (v : Value) (p : Int) (w : World) (h : CurV 69 pb zs v p w) (hl : zs.length ≤ 2000000) :
    Calls Tryz.prog 113 #[.pointer (some ⟨pb, 0, none⟩)] w fun e w' => ∃ a n c, e = .returned (.slice a n c) ∧ OwV w' (fun b => w.heap.size ≤ b ∧ b < w'.heap.size) (.slice a n c) (.bytes (getText zs p).1) ∧ Gone 69 pb zs v (getText zs p).2 w w' := by
  have HG : Hid (∀ W, Below w.heap.size w W → _) := fun W hW => implGetTextR v zs _ p W (RdV.step h.2.1 hW) hl
  have hz := RdV.zs h.2.1
  have HA : Hid _ := getText_at hz p
  have HZ : Hid _ := getText_bytes hz p
  have HC : Hid (CurV 69 pb zs v p w) := h
  have hpl := h.lt
  obtain ⟨c0, c1⟩ := VarA.l2 h.1
  have hf := VarA.fz h.1
  clear h hz
  generalize getText zs p = g at HG HA HZ ⊢
  obtain ⟨ts, nx⟩ := g
  dsimp only at HG HA HZ ⊢
  go_enter Tryz.func113, Tryz.ntmps113
  go_wp2
  go_region_held3 (fun w' => w'.cell? ⟨pb, 0, none⟩ = some v ∧ w'.cell? ⟨pb, 1, none⟩ = some (.int .i64 p)) (first | go_keep | (refine ⟨?_, ?_⟩ <;> assumption)) (first | (go_at_call 123; refine Calls.mono (HG.out _ (by repeat (first | exact Below.refl _ _ | refine Below.drew ?_ | refine below_drewN2 ?_ _))) ?_; rintro e w2 ⟨u, rfl, ou, b_⟩; have HB2 : Hid (Below w.heap.size w w2) := (Below.drew (Below.refl _ _)).trans b_; have HOU : Hid (OwV w2 (fun b => w.heap.size ≤ b ∧ b < w2.heap.size) u (.bytes ts)) := OwV.ofOwns HZ.out ou; clear ou b_; have HC2 : Hid (CurV 69 pb zs v p w2) := HC.out.step HB2.out; obtain ⟨d0, d1⟩ := VarA.l2 HC2.out.1; have df := VarA.fz HC2.out.1))
  obtain ⟨ua, uc, un, hu⟩ : ∃ a c n, u = .slice a n c := by
    obtain ⟨a_, c_, h_⟩ := HOU.out.rd.sliceB
    exact ⟨a_, c_, _, h_⟩
  subst hu
  have HCC : Hid (CurV 69 pb zs v nx (w2.setCell ⟨pb, 1, none⟩ (.int .i64 nx))) := CurV.put HC2.out nx HA.out.1 HA.out.2
  have HTT : Hid (Turned (fun b => b = pb) w (w2.setCell ⟨pb, 1, none⟩ (.int .i64 nx))) := (Turned.ofBelow HB2.out).set _ _ rfl
  have HOW : Hid (OwV (w2.setCell ⟨pb, 1, none⟩ (.int .i64 nx)) (fun b => w.heap.size ≤ b ∧ b < (w2.setCell ⟨pb, 1, none⟩ (.int .i64 nx)).heap.size) (.slice ua un uc) (.bytes ts)) := by
    have t_ : Turned (fun b => b = pb) w2 (w2.setCell ⟨pb, 1, none⟩ (.int .i64 nx)) := (Turned.refl _ _).set _ _ rfl
    exact (HOU.out.keep (t_.keeps (fun b hb hs => by omega))).mono (fun b hb => ⟨hb.1, Nat.lt_of_lt_of_le hb.2 t_.size⟩)
  by_cases hn0 : un = 0
  · have HE : Hid (ts = []) := by
      have h1 := HOU.out.rd.b.reads
      obtain ⟨a_, c_, h2, _⟩ := h1
      simp only [Value.slice.injEq] at h2
      exact List.eq_nil_of_length_eq_zero (by omega)
    subst hn0
    go_wp2
    go_ret
    exact ⟨_, _, _, rfl, by rw [HE.out]; exact owNilB _ _, HCC.out, HTT.out⟩
  · go_wp2
    go_ret
    exact ⟨_, _, _, rfl, HOW.out, HCC.out, HTT.out⟩
set_option maxHeartbeats 2000000 in
theorem specTextC (pb : Nat) (zs : List Int) (v : Value) (p : Int) (w : World) (h : CurV 77 pb zs v p w) (hl : zs.length ≤ 2000000) :
    Calls Tryz.prog 93 #[.pointer (some ⟨pb, 0, none⟩)] w fun e w' => ∃ a n c, e = .returned (.slice a n c) ∧ OwV w' (fun b => w.heap.size ≤ b ∧ b < w'.heap.size) (.slice a n c) (.bytes (getText zs p).1) ∧ Gone 77 pb zs v (getText zs p).2 w w' := by
  by_cases h0 : p < 0
  case pos =>
    have hp : p = -1 := by have := h.2.2.1; omega
    subst hp
    have ht : getText zs (-1) = ([], -1) := by unfold getText; rw [getNum_out zs (-1) (.inl (by omega))]; simp
    rw [ht]
    obtain ⟨c0, c1⟩ := VarA.l2 h.1
    have HC : Hid (CurV 77 pb zs v (-1) w) := h
    clear h ht
    go_enter Tryz.func93, Tryz.ntmps93
    go_wp2
    go_ret
    exact ⟨_, _, _, rfl, owNilB _ _, HC.out, Turned.refl _ _⟩
  have HG : Hid (∀ W, Below w.heap.size w W → _) := fun W hW => specGetTextR v zs _ p W (RdV.step h.2.1 hW) hl h.2.2.2
  have hz := RdV.zs h.2.1
  have HA : Hid _ := getText_at hz p
  have HZ : Hid _ := getText_bytes hz p
  have HC : Hid (CurV 77 pb zs v p w) := h
  have hpl := h.lt
  obtain ⟨c0, c1⟩ := VarA.l2 h.1
  have hf := VarA.fz h.1
  clear h hz
  generalize getText zs p = g at HG HA HZ ⊢
  obtain ⟨ts, nx⟩ := g
  dsimp only at HG HA HZ ⊢
  go_enter Tryz.func93, Tryz.ntmps93
  go_wp2
  go_region_held3 (fun w' => w'.cell? ⟨pb, 0, none⟩ = some v ∧ w'.cell? ⟨pb, 1, none⟩ = some (.int .i64 p)) (first | go_keep | (refine ⟨?_, ?_⟩ <;> assumption)) (first | (go_at_call 116; refine Calls.mono (HG.out _ (by repeat (first | exact Below.refl _ _ | refine Below.drew ?_ | refine below_drewN2 ?_ _))) ?_; rintro e w2 ⟨u, rfl, ou, b_⟩; have HB2 : Hid (Below w.heap.size w w2) := (Below.drew (Below.refl _ _)).trans b_; have HOU : Hid (OwV w2 (fun b => w.heap.size ≤ b ∧ b < w2.heap.size) u (.bytes ts)) := OwV.ofOwns HZ.out ou; clear ou b_; have HC2 : Hid (CurV 77 pb zs v p w2) := HC.out.step HB2.out; obtain ⟨d0, d1⟩ := VarA.l2 HC2.out.1; have df := VarA.fz HC2.out.1))
  obtain ⟨ua, uc, un, hu⟩ : ∃ a c n, u = .slice a n c := by
    obtain ⟨a_, c_, h_⟩ := HOU.out.rd.sliceB
    exact ⟨a_, c_, _, h_⟩
  subst hu
  have HCC : Hid (CurV 77 pb zs v nx (w2.setCell ⟨pb, 1, none⟩ (.int .i64 nx))) := CurV.put HC2.out nx HA.out.1 HA.out.2
  have HTT : Hid (Turned (fun b => b = pb) w (w2.setCell ⟨pb, 1, none⟩ (.int .i64 nx))) := (Turned.ofBelow HB2.out).set _ _ rfl
  have HOW : Hid (OwV (w2.setCell ⟨pb, 1, none⟩ (.int .i64 nx)) (fun b => w.heap.size ≤ b ∧ b < (w2.setCell ⟨pb, 1, none⟩ (.int .i64 nx)).heap.size) (.slice ua un uc) (.bytes ts)) := by
    have t_ : Turned (fun b => b = pb) w2 (w2.setCell ⟨pb, 1, none⟩ (.int .i64 nx)) := (Turned.refl _ _).set _ _ rfl
    exact (HOU.out.keep (t_.keeps (fun b hb hs => by omega))).mono (fun b hb => ⟨hb.1, Nat.lt_of_lt_of_le hb.2 t_.size⟩)
  go_wp2
  go_ret
  exact ⟨_, _, _, rfl, HOW.out, HCC.out, HTT.out⟩
end Go.Proofs.YtbnjhjgjmckedaaGreat
end
