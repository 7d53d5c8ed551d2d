/- Joined: SpecD12 ImplT4 MapH ImplT5 IC3 IC4 WOk3 WMsg0 WSame MapH2. -/
import Derived.Test.YtnphmhobpmaebaaGreatDoorPSpecD11
import Derived.Test.YtnphmhobpmaebaaGreatDoorPA00
import Derived.Test.YtnphmhobpmaebaaGreatDoorPA01
import Derived.Test.YtnphmhobpmaebaaGreatDoorPOpOks2
import Derived.Maps.OwnSet
import Derived.DeepKeys4
import Derived.Deep.RegionHeld3
import Derived.WideKeyEntry

namespace Go.Proofs.YtnphmhobpmaebaaGreatDoor
open Go.RowKit
set_option linter.unusedVariables false
set_option linter.unusedSimpArgs false
set_option maxRecDepth 100000
section
/-- The blocks of a tree that is worked on: from lo on, but for the variable's own. -/
abbrev LT (lo tb : Nat) : Nat → Prop := fun b => lo ≤ b ∧ b ≠ tb
/-- The variable tb holds the tree l that is worked on. -/
def TV (w : World) (tb lo : Nat) (L : Nat → Prop) (l : List Nd) : Prop := ∃ v, VarA w tb 25 #[v] ∧ SG w lo L v l ∧ v.ownBlock ≠ some tb
/-- What it holds is small. -/
def Small (l : List Nd) : Prop := l.length ≤ 3000 ∧ ∀ i : Nat, (l[i]?.getD nd0).es.length ≤ 4000 ∧ 0 ≤ (l[i]?.getD nd0).links ∧ (l[i]?.getD nd0).links ≤ 2147483647
def Nd.setLk (n : Nd) (k : Int) : Nd := ⟨n.h, n.par, k, n.val, n.es⟩
def Nd.setVal (n : Nd) (k : Int) : Nd := ⟨n.h, n.par, n.links, k, n.es⟩
def Nd.setPar (n : Nd) (h : Hd) : Nd := ⟨n.h, h, n.links, n.val, n.es⟩
/-- The entry e of the node d cut out; an entry put in; links changed; a node taken out. -/
def cutN (l : List Nd) (d e : Nat) : List Nd := l.set d ((l[d]?.getD nd0).setEs (cutE (l[d]?.getD nd0).es e))
def addN (l : List Nd) (d : Nat) (nm : List Int) (h : Hd) : List Nd := l.set d ((l[d]?.getD nd0).setEs (addE (l[d]?.getD nd0).es nm h))
def lkN (l : List Nd) (k : Nat) (c : Int) : List Nd := l.set k ((l[k]?.getD nd0).setLk ((l[k]?.getD nd0).links + c))
def outN (l : List Nd) (k : Nat) : List Nd := l.take k ++ l.drop (k + 1)
/-- What dropping the entry e of the node d, whose handle is h, leaves, and its code. -/
def dropD (l : List Nd) (d e : Nat) (h : Hd) : List Nd × Int :=
  if h.dir = true ∧ 0 < (l[fi l h]?.getD nd0).es.length then (l, 7) else
  if ((cutN l d e)[fi l h]?.getD nd0).links - 1 = 0 then (outN (lkN (cutN l d e) (fi l h) (-1)) (fi l h), 0) else (lkN (cutN l d e) (fi l h) (-1), 0)
end
section
def ndI (n : Nd) : Bool := (HOk n.h && (decide (1 ≤ n.links) && decide (n.links ≤ 2147483647))) && (if n.h.dir then dirOk n && entsI n.es else (decide (0 ≤ n.val) && decide (n.val ≤ 2147483647)) && fileOk n)

set_option maxHeartbeats 2000000 in
theorem implNode_any (x : Value) (n : Nd) (S : Nat → Prop) (w : World) (r : RdV w S x (ensDt n.es)) (hl : szEns n.es ≤ 2097152) :
    Calls Tryz.prog 26 #[ndV n x] w fun e w' => e = .returned (.bool (ndI n)) ∧ Below w.heap.size w w' := by
  obtain ⟨a, cap, rfl, _⟩ := RdV.sliced r
  obtain ⟨⟨p, q, d⟩, ⟨p2, q2, d2⟩, lk, vl, es⟩ := n
  dsimp only at r hl ⊢
  have HR : Hid (∀ W, Below w.heap.size w W → RdV W S (.slice a es.length cap) (ensDt es)) := RdV.old r
  have HL : Hid _ := hl
  have HH : Hid (∀ W, _) := fun W => implHandleOk_w (p, q, d) W
  have HH2 : Hid (∀ W, _) := fun W => implHandleOk_w (p2, q2, d2) W
  have HNUM : Hid (∀ W, _) := fun W => isNumber_any vl W
  have HEN : Hid (∀ W, Below w.heap.size w W → _) := fun W hW => entriesOk_any _ es S W (HR.out W hW) hl
  obtain ⟨res, hres⟩ : ∃ res, ndI ⟨(p, q, d), (p2, q2, d2), lk, vl, es⟩ = res := ⟨_, rfl⟩
  rw [hres]
  simp only [ndI, fileOk, dirOk] at hres
  generalize HOk (p, q, d) = bd at HH hres
  generalize HOk (p2, q2, d2) = bt at HH2 hres
  generalize entsI es = be at HEN hres
  obtain ⟨m, hm⟩ : ∃ m, es.length = m := ⟨_, rfl⟩
  have hm21 : m ≤ 2097152 := by unfold szEns at hl; omega
  rw [hm] at hres HEN ⊢
  have HRES : Hid _ := hres
  clear r hl hm hres HR HL
  by_cases hA : bd = true ∧ 1 ≤ lk ∧ lk ≤ 2147483647
  case neg =>
    have HF : Hid (res = false) := by
      rw [← HRES.out]
      show _ = _
      rw [Bool.eq_false_iff]
      intro h
      rw [Bool.and_eq_true] at h
      have h1 := h.1
      simp only [Bool.and_eq_true, decide_eq_true_eq] at h1
      exact hA h1
    rw [HF.out]
    go_enter Tryz.func26, Tryz.ntmps26
    go_wp2_with fail
    refine Calls.mono (HH.out _) ?_
    rintro e w2 ⟨rfl, rfl⟩
    cases bd with
    | false =>
      go_wp2
      go_ret
      exact ⟨rfl, Below.newH2 _ _⟩
    | true =>
      have hA2 : ¬ (1 ≤ lk ∧ lk ≤ 2147483647) := fun h => hA ⟨rfl, h⟩
      clear HRES HF HEN HH2 HNUM hA
      go_wp2_with fail
      all_goals first | (go_ret; exact ⟨rfl, Below.newH2 _ _⟩) | (exfalso; omega)
  obtain ⟨rfl, hk1, hk2⟩ := hA
  have HRES2 : Hid ((if d then (decide (vl = 0) && (decide (lk = 1) && (bt && d2))) && be else (decide (0 ≤ vl) && decide (vl ≤ 2147483647)) && (decide (m = 0) && decide ((p2, q2, d2) = hd0))) = res) := by
    rw [← HRES.out]; show _ = _; simp [hk1, hk2]
  clear HRES
  cases d with
  | false =>
    simp only [Bool.false_eq_true, if_false] at HRES2
    clear HEN HH2
    by_cases hV : 0 ≤ vl ∧ vl ≤ 2147483647
    case neg =>
      have hn : (decide (0 ≤ vl) && decide (vl ≤ 2147483647)) = false := by
        rw [Bool.eq_false_iff]; intro h; simp only [Bool.and_eq_true, decide_eq_true_eq] at h; exact hV h
      have HF : Hid (res = false) := by rw [← HRES2.out]; show _ = _; rw [hn]; rfl
      rw [hn] at HNUM
      rw [HF.out]
      clear HRES2 HF hn
      go_enter Tryz.func26, Tryz.ntmps26
      go_wp2_with fail
      refine Calls.mono (HH.out _) ?_
      rintro e w2 ⟨rfl, rfl⟩
      go_wp2_with fail
      refine Calls.mono (HNUM.out _) ?_
      rintro e w2 ⟨rfl, rfl⟩
      go_wp2
      go_ret
      exact ⟨rfl, Below.newH2 _ _⟩
    have hn : (decide (0 ≤ vl) && decide (vl ≤ 2147483647)) = true := by simp [hV.1, hV.2]
    rw [hn] at HNUM HRES2
    simp only [Bool.true_and] at HRES2
    clear hn
    go_enter Tryz.func26, Tryz.ntmps26
    go_wp2_with fail
    refine Calls.mono (HH.out _) ?_
    rintro e w2 ⟨rfl, rfl⟩
    go_wp2_with fail
    refine Calls.mono (HNUM.out _) ?_
    rintro e w2 ⟨rfl, rfl⟩
    go_wp2
    all_goals (go_ret; exact ⟨by rw [← HRES2.out]; first | rfl | (simp_all [hd0, Hd.sh, Hd.ino, Hd.dir] <;> omega) | (simp_all [hd0, Hd.sh, Hd.ino, Hd.dir]; rw [Bool.eq_iff_iff]; simp), Below.newH2 _ _⟩)
  | true =>
    simp only [if_true] at HRES2
    clear HNUM
    by_cases hB : vl = 0 ∧ lk = 1
    case neg =>
      have HF : Hid (res = false) := by
        rw [← HRES2.out]
        show _ = _
        by_cases h1 : vl = 0 <;> by_cases h2 : lk = 1 <;> simp_all
      rw [HF.out]
      clear HRES2 HF HEN HH2
      go_enter Tryz.func26, Tryz.ntmps26
      go_wp2_with fail
      refine Calls.mono (HH.out _) ?_
      rintro e w2 ⟨rfl, rfl⟩
      go_wp2_with fail
      all_goals first | (go_ret; exact ⟨rfl, Below.newH2 _ _⟩) | (exfalso; omega)
    obtain ⟨rfl, rfl⟩ := hB
    cases bt with
    | false =>
      have HF : Hid (res = false) := by rw [← HRES2.out]; show _ = _; simp
      rw [HF.out]
      clear HRES2 HF HEN
      go_enter Tryz.func26, Tryz.ntmps26
      go_wp2_with fail
      refine Calls.mono (HH.out _) ?_
      rintro e w2 ⟨rfl, rfl⟩
      go_wp2_with fail
      refine Calls.mono (HH2.out _) ?_
      rintro e w3 ⟨rfl, rfl⟩
      go_wp2
      go_ret
      exact ⟨rfl, (Below.newH2 (w := w) _ _).alloc (by simp; omega) _⟩
    | true =>
    cases d2 with
    | false =>
      have HF : Hid (res = false) := by rw [← HRES2.out]; show _ = _; simp
      rw [HF.out]
      clear HRES2 HF HEN
      go_enter Tryz.func26, Tryz.ntmps26
      go_wp2_with fail
      refine Calls.mono (HH.out _) ?_
      rintro e w2 ⟨rfl, rfl⟩
      go_wp2_with fail
      refine Calls.mono (HH2.out _) ?_
      rintro e w3 ⟨rfl, rfl⟩
      go_wp2
      go_ret
      exact ⟨rfl, (Below.newH2 (w := w) _ _).alloc (by simp; omega) _⟩
    | true =>
      have HF : Hid (be = res) := by rw [← HRES2.out]; show _ = _; simp
      rw [← HF.out]
      clear HRES2 HF
      go_enter Tryz.func26, Tryz.ntmps26
      go_wp2_with fail
      refine Calls.mono (HH.out _) ?_
      rintro e w2 ⟨rfl, rfl⟩
      go_wp2_with fail
      refine Calls.mono (HH2.out _) ?_
      rintro e w3 ⟨rfl, rfl⟩
      have HB : Hid (Below w.heap.size w (((w.alloc (.cells #[.int .i64 p, .int .i64 q, .bool true, .int .i64 p2, .int .i64 q2, .bool true, .int .i64 1, .int .i64 0, .slice a m cap] 51)).alloc (.cells #[.int .i64 p, .int .i64 q, .bool true] 28)).alloc (.cells #[.int .i64 p2, .int .i64 q2, .bool true] 28))) := (Below.newH2 (w := w) _ _).alloc (by simp; omega) _
      go_wp2_with fail
      refine Calls.mono (HEN.out _ HB.out) ?_
      rintro e w4 ⟨rfl, hb4⟩
      go_wp2
      go_ret
      exact ⟨rfl, HB.out.trans (hb4.mono HB.out.size)⟩
end
section
open Go.Maps
theorem rowHd : (28 : TypeId) < Tryz.prog.types.size := of_decide_eq_true (by kernel_rfl)
theorem cellsHd : Tryz.prog.cellsOf 28 = 3 := by kernel_rfl
theorem wideHd : (match Tryz.prog.underlying 28 with | some (.array _ _) | some (.struct _) => true | _ => false) = true := by kernel_rfl
theorem laidHd : laidOutB Tryz.prog = true := by kernel_rfl
theorem lawHd : Keyed Tryz.prog 28 := Keyed.of_law (deep_law_laid laidHd (m := 3) (by omega) rowHd (by kernel_rfl) wideHd)

def HIn (h : Hd) : Prop := (Lit.int .i64 h.sh).wf = true ∧ (Lit.int .i64 h.ino).wf = true
def klH (h : Hd) : Lit := .string (keyBytes [.int .i64 h.sh, .int .i64 h.ino, .bool h.dir])
theorem underHd : ∃ fs, Tryz.prog.underlying 28 = some (.struct fs) ∧ fs.all (·.name != "_") = true ∧ fs.toList.map (fun f => (f.type, f.offset)) = [(3, 0), (3, 1), (4, 2)] := ⟨_, Tryz.underlying28, by kernel_rfl, by kernel_rfl⟩
theorem mapM_two (fs : Array Field) (g : TypeId → Nat → Option (List Lit)) : fs.toList.mapM (fun f => g f.type f.offset) = (fs.toList.map (fun f => (f.type, f.offset))).mapM (fun p => g p.1 p.2) := by
  rw [List.mapM_map]; rfl
theorem keyHd {h : Hd} (hh : HIn h) : keyOf Tryz.prog 28 h.v = some (klH h) := by
  obtain ⟨fs, hu, hn, hf⟩ := underHd
  have hkt : Tryz.prog.keyType 28 = true := by kernel_rfl
  have h3 : Tryz.prog.underlying 3 = some (.int .i64) := by kernel_rfl
  have h4 : Tryz.prog.underlying 4 = some .bool := by kernel_rfl
  have c3 : Tryz.prog.cellsOf 3 = 1 := by kernel_rfl
  have c4 : Tryz.prog.cellsOf 4 = 1 := by kernel_rfl
  obtain ⟨m, hm⟩ : ∃ m, Tryz.prog.types.size = m + 1 := ⟨_, (Nat.succ_pred_eq_of_pos (Nat.lt_of_le_of_lt (Nat.zero_le _) rowHd)).symm⟩
  have hfs := fun g => mapM_two fs g
  unfold keyOf
  simp only [hu]
  rw [if_pos (by simp [hkt, Value.formed, hu, cellsHd]), hm]
  have hk : Tryz.prog.keyLits (m + 1 + 1) 28 [.int .i64 h.sh, .int .i64 h.ino, .bool h.dir] = some [.int .i64 h.sh, .int .i64 h.ino, .bool h.dir] := by
    unfold Program.keyLits
    simp only [hu]
    rw [if_pos ⟨by rw [cellsHd]; rfl, hn⟩, hfs (fun t o => Tryz.prog.keyLits (m + 1) t ((([.int .i64 h.sh, .int .i64 h.ino, .bool h.dir] : List Value).drop o).take (Tryz.prog.cellsOf t))), hf]
    simp [Program.keyLits, h3, h4, c3, c4, hh.1, hh.2]
  show Option.map _ (Tryz.prog.keyLits (m + 1 + 1) 28 [.int .i64 h.sh, .int .i64 h.ino, .bool h.dir]) = _
  rw [hk]
  rfl
theorem klH_ne {h g : Hd} (hh : HIn h) (hg : HIn g) (hne : h ≠ g) : klH h ≠ klH g := by
  intro e
  have h1 := lawHd.inj (keyHd hh) (by rw [e]; exact keyHd hg)
  obtain ⟨a, b, c⟩ := h
  obtain ⟨a2, b2, c2⟩ := g
  simp only [Value.agg.injEq, Array.mk.injEq, List.cons.injEq, Value.int.injEq, Value.bool.injEq, true_and, and_true] at h1
  exact hne (Prod.ext h1.1 (Prod.ext h1.2.1 h1.2.2))

def tokR (v : Value) : Option (DataW Value × List MemPlace) := some (.held v, [])
/-- Block b is a map of s entries; at a handle it has what f says, V telling how the value is. -/
def MapH {α : Type} (V : α → Value → Prop) (w : World) (b s : Nat) (f : Hd → Option α) : Prop :=
  ∃ D : DataW Value, w.ownsMap Tryz.prog 28 tokR b s D ∧ Maps.size D = s ∧ ∀ h, HIn h → (f h = none → Maps.has D (klH h) = false) ∧ ∀ a, f h = some a → Maps.has D (klH h) = true ∧ ∃ v, V a v ∧ ∀ z, D.atKey (klH h) z = .held v

theorem ownsMap_tight {w : World} {b n : Nat} {D : DataW Value} (h : w.ownsMap Tryz.prog 28 tokR b n D) : w.ownsMap Tryz.prog 28 tokR b (Maps.size D) D := by
  obtain ⟨es, clock, hb, F, hs, rfl⟩ := h
  exact ⟨es, clock, hb, F, by rw [Maps.size_eq, length_read]; exact Nat.le_refl _, rfl⟩

section
variable {α : Type} {V : α → Value → Prop} {w : World} {b s : Nat} {f : Hd → Option α}
theorem MapH.made (V : α → Value → Prop) (w : World) : MapH V (w.alloc (.map #[] 0)) w.heap.size 0 (fun _ => none) :=
  ⟨.map [], World.ownsMap_made w _ _ _, rfl, fun h _ => ⟨fun _ => rfl, fun a ha => by cases ha⟩⟩
theorem MapH.lt (m : MapH V w b s f) : b < w.heap.size := by obtain ⟨D, hD, _⟩ := m; exact hD.lt
theorem MapH.kept {w' : World} {row : Option Nat} (m : MapH V w b s f) (hg : w.grownBy w' row) (hne : some b ≠ row) : MapH V w' b s f := by
  obtain ⟨D, hD, h1, h2⟩ := m; exact ⟨D, hD.kept hg hne, h1, h2⟩
theorem MapH.blk {w' : World} (m : MapH V w b s f) (hg : w'.heap[b]? = w.heap[b]?) : MapH V w' b s f := by
  obtain ⟨D, ⟨es, clock, hb, hF⟩, h1, h2⟩ := m; exact ⟨D, ⟨es, clock, hg.trans hb, hF⟩, h1, h2⟩
theorem MapH.to {β : Type} {U : β → Value → Prop} (m : MapH V w b s f) (g : Hd → Option β) (hn : ∀ h, g h = none → f h = none) (hs : ∀ h c, g h = some c → ∃ a, f h = some a ∧ ∀ v, V a v → U c v) : MapH U w b s g := by
  obtain ⟨D, hD, h1, h2⟩ := m
  refine ⟨D, hD, h1, fun h hh => ⟨fun hg => (h2 h hh).1 (hn h hg), fun c hc => ?_⟩⟩
  obtain ⟨a, ha, hv⟩ := hs h c hc
  obtain ⟨x1, v, x2, x3⟩ := (h2 h hh).2 a ha
  exact ⟨x1, v, hv v x2, x3⟩
theorem MapH.put {t e : TypeId} (m : MapH V w b s f) (ht : Tryz.prog.underlying t = some (.map 28 e)) (hn : s < maxLen) {h : Hd} (hh : HIn h) {a : α} {v : Value} (hv : V a v) :
    ∃ w', (Instr.mapUpdate t (.map (some b)) h.v v).run Tryz.prog w = .ok () w' ∧ MapH V w' b (if (f h).isSome then s else s + 1) (fun g => if g = h then some a else f g) ∧ w.grownBy w' (some b) := by
  obtain ⟨D, hD, h1, h2⟩ := m
  obtain ⟨w', hrun, ho, hg⟩ := hD.update lawHd ht hn (keyHd hh) (d := .held v) (ps := []) rfl
  have hty := hD.tidy lawHd
  have hkl := lawHd.key (keyHd hh)
  refine ⟨w', hrun, ⟨D.put (klH h) (.held v), ?_, ?_, ?_⟩, hg⟩
  · have h3 := ownsMap_tight ho
    rw [Maps.size_put hty] at h3
    cases hf : f h with
    | none => rw [(h2 h hh).1 hf] at h3; simpa [h1] using h3
    | some a => rw [((h2 h hh).2 a hf).1] at h3; simpa [h1] using h3
  · rw [Maps.size_put hty]
    cases hf : f h with
    | none => rw [(h2 h hh).1 hf]; simp [h1]
    | some a => rw [((h2 h hh).2 a hf).1]; simp [h1]
  · intro g hgi
    by_cases hgh : g = h
    · subst hgh
      refine ⟨fun hc => by simp at hc, fun c hc => ?_⟩
      simp only [if_true, Option.some.injEq] at hc
      subst hc
      exact ⟨Maps.has_put_same hty.isMap hkl _, v, hv, fun z => Maps.atKey_put_same hty.isMap hkl _ z⟩
    · have hne := klH_ne hgi hh hgh
      simp only [if_neg hgh]
      refine ⟨fun hc => ?_, fun c hc => ?_⟩
      · rw [Maps.has_put_other hne]; exact (h2 g hgi).1 hc
      · obtain ⟨x1, u, x2, x3⟩ := (h2 g hgi).2 c hc
        exact ⟨by rw [Maps.has_put_other hne]; exact x1, u, x2, fun z => by rw [Maps.atKey_put_other hne]; exact x3 z⟩
theorem MapH.look {t e : TypeId} (m : MapH V w b s f) (ht : Tryz.prog.underlying t = some (.map 28 e)) {z : Value} (hz : (zeroValue e).run Tryz.prog w = .ok z w) {h : Hd} (hh : HIn h) :
    ∃ v, (Instr.lookup t (.map (some b)) h.v false).run Tryz.prog w = .ok v w ∧ (f h = none → v = z) ∧ ∀ a, f h = some a → V a v := by
  obtain ⟨D, hD, h1, h2⟩ := m
  obtain ⟨v, ps, hrun, hR⟩ := hD.lookup lawHd ht hz (zd := .held z) (zp := []) rfl (keyHd hh)
  simp only [tokR, Option.some.injEq, Prod.mk.injEq] at hR
  refine ⟨v, hrun, fun hf => ?_, fun a hf => ?_⟩
  · rw [Maps.atKey_of_not_has ((h2 h hh).1 hf)] at hR
    exact DataW.held.inj hR.1
  · obtain ⟨_, u, hu, hat⟩ := (h2 h hh).2 a hf
    rw [hat] at hR
    rw [DataW.held.inj hR.1]; exact hu
theorem MapH.look_ok {t e : TypeId} (m : MapH V w b s f) (ht : Tryz.prog.underlying t = some (.map 28 e)) {z : Value} (hz : (zeroValue e).run Tryz.prog w = .ok z w) {h : Hd} (hh : HIn h) :
    ∃ v, (Instr.lookup t (.map (some b)) h.v true).run Tryz.prog w = .ok (.tuple #[v, .bool (f h).isSome]) w ∧ (f h = none → v = z) ∧ ∀ a, f h = some a → V a v := by
  obtain ⟨D, hD, h1, h2⟩ := m
  obtain ⟨v, ps, hrun, hR⟩ := hD.look_ok lawHd ht hz (zd := .held z) (zp := []) rfl (keyHd hh)
  simp only [tokR, Option.some.injEq, Prod.mk.injEq] at hR
  cases hf : f h with
  | none =>
    have h3 := (h2 h hh).1 hf
    rw [h3] at hrun
    rw [Maps.atKey_of_not_has h3] at hR
    exact ⟨v, hrun, (fun _ => DataW.held.inj hR.1), (fun a ha => by cases ha)⟩
  | some a =>
    obtain ⟨h3, u, hu, hat⟩ := (h2 h hh).2 a hf
    rw [h3] at hrun
    rw [hat] at hR
    exact ⟨v, hrun, (fun hc => by cases hc), (fun c hc => by cases hc; rw [DataW.held.inj hR.1]; exact hu)⟩
theorem MapH.len {t e : TypeId} (m : MapH V w b s f) (ht : Tryz.prog.underlying t = some (.map 28 e)) (ty : TypeId) : (Builtin.len_ #[t] ty #[.map (some b)]).run Tryz.prog w = .ok (.int .i64 s) w := by
  obtain ⟨D, hD, h1, h2⟩ := m
  rw [← h1]; exact hD.len ht ty
end
theorem HOk.inn {h : Hd} (hh : HOk h = true) : HIn h := by
  simp only [HOk, Bool.and_eq_true, decide_eq_true_eq] at hh
  exact ⟨WalkArith.wf_i64 (by omega), WalkArith.wf_i64 (by omega)⟩
theorem hd0_in : HIn hd0 := ⟨by decide, by decide⟩
end
section
open Go.Maps
def ndP (n : Nd) (v : Value) : Prop := ∃ a m c, v = ndV n (.slice a m c)
def atH (l : List Nd) (k : Nat) (h : Hd) : Option Nd := (l.take k).find? (fun n => decide (n.h = h))
def OneH (l : List Nd) : Prop := ∀ i j, i < l.length → j < l.length → (l[i]?.getD nd0).h = (l[j]?.getD nd0).h → i = j
theorem atH_new {l : List Nd} (ho : OneH l) {k : Nat} (hk : k < l.length) : atH l k (l[k]?.getD nd0).h = none := by
  unfold atH
  rw [List.find?_eq_none]
  intro n hn
  obtain ⟨i, hi, rfl⟩ := List.getElem_of_mem hn
  have hi2 : i < k ∧ i < l.length := by have h9 : i < min k l.length := by simpa using hi
                                        omega
  simp only [List.getElem_take, decide_eq_true_eq]
  intro he
  have := ho i k hi2.2 hk (by rw [List.getElem?_eq_getElem hi2.2]; exact he)
  omega
theorem atH_next {l : List Nd} (ho : OneH l) {k : Nat} (hk : k < l.length) : (fun g => if g = (l[k]?.getD nd0).h then some (l[k]?.getD nd0) else atH l k g) = atH l (k + 1) := by
  funext g
  have hg : l[k]?.getD nd0 = l[k] := by rw [List.getElem?_eq_getElem hk]; rfl
  have ht : l.take (k + 1) = l.take k ++ [l[k]] := (List.take_append_getElem hk).symm
  have hstep : atH l (k + 1) g = (atH l k g).or ([l[k]].find? (fun n => decide (n.h = g))) := by
    unfold atH; rw [ht, List.find?_append]
  rw [hstep]
  by_cases hgh : g = (l[k]?.getD nd0).h
  · rw [if_pos hgh]
    have h1 := atH_new ho hk
    rw [← hgh] at h1
    rw [h1, hg] at *
    simp [hgh]
  · rw [if_neg hgh]
    rw [hg] at hgh
    have h2 : [l[k]].find? (fun n => decide (n.h = g)) = none := by
      simp only [List.find?_cons, List.find?_nil]
      rw [decide_eq_false (fun h => hgh h.symm)]
    rw [h2]; simp

section
variable {α : Type} {V : α → Value → Prop} {w : World} {b s : Nat} {f : Hd → Option α}
theorem MapH.alloc (m : MapH V w b s f) (o : Obj) : MapH V (w.alloc o) b s f := m.kept (World.grownBy_alloc w o none) (by simp)
end

/-- A store into such a map, at the operation. -/
theorem wpList_putH {α : Type} {V : α → Value → Prop} (w : World) {ops : Array Oper} {rest : List Oper} {o : Oper} {a : Act} {Q : Exit → Act → World → Prop}
    (hg : o.guard = none) (m x v : Operand) (t : TypeId) (hop : o.op = Op.mapUpdate t m x v) (e : TypeId) (ht : Tryz.prog.underlying t = some (.map 28 e)) (b s : Nat) (f : Hd → Option α)
    (hm : a.eval m = .map (some b)) (M : MapH V w b s f) (hn : s < maxLen) (h : Hd) (hh : HIn h) (hx : a.eval x = h.v) (c : α) (hv : V c (a.eval v))
    (hK : ∀ w', MapH V w' b (if (f h).isSome then s else s + 1) (fun g => if g = h then some c else f g) → w.grownBy w' (some b) → wpList Tryz.prog ops Q rest (a.put o.dst undef) w') :
    wpList Tryz.prog ops Q (o :: rest) a w := by
  refine wpList_plain hg fun K' hK' => ?_
  obtain ⟨w', hrun, r1, r2⟩ := M.put ht hn hh hv
  unfold Oper.wp
  simp [execOp, hop, hm, hx, hrun, Result.andThen]
  exact hK' _ _ (hK w' r1 r2)

set_option maxRecDepth 100000 in
set_option maxHeartbeats 1000000 in
theorem nodesByHandle_any (x : Value) (l : List Nd) (S : Nat → Prop) (w : World) (r : RdV w S x (ndsDt l)) (hl : l.length ≤ 2097152) (ho : OneH l) (hin : ∀ i, i < l.length → HIn (l[i]?.getD nd0).h) :
    Calls Tryz.prog 19 #[x] w fun e w' => e = .returned (.map (some w.heap.size)) ∧ Below w.heap.size w w' ∧ MapH ndP w' w.heap.size l.length (atH l l.length) := by
  obtain ⟨a, cap, rfl, _⟩ := RdV.sliced r
  have HR : Hid (∀ W, Below w.heap.size w W → RdV W S (.slice a l.length cap) (.rows 51 9 l.length (fun i j => ndCell (l[i]?.getD nd0) j))) := RdV.old r
  obtain ⟨n, hn⟩ : ∃ n, l.length = n := ⟨_, rfl⟩
  have HN : Hid _ := hn
  have HST : Hid (∀ k, k < n → (fun g => if g = (l[k]?.getD nd0).h then some (l[k]?.getD nd0) else atH l k g) = atH l (k + 1) ∧ atH l k (l[k]?.getD nd0).h = none) := fun k hk => ⟨atH_next ho (by rw [hn]; exact hk), atH_new ho (by rw [hn]; exact hk)⟩
  have HIN : Hid (∀ i, i < l.length → HIn (l[i]?.getD nd0).h) := hin
  rw [hn] at hl HR HIN ⊢
  clear r hn ho hin
  have hmm := @run_makeMap Tryz.prog
  go_enter Tryz.func19, Tryz.ntmps19
  go_wp2
  go_loopw [9] (fun i wr => ∃ k : Nat, k ≤ n ∧ i = .int .i64 k ∧ Below w.heap.size w wr ∧ MapH ndP wr w.heap.size k (atH l k)) (fun i _ => n - (intOf i).toNat)
  case atStart => exact ⟨0, Nat.zero_le _, rfl, Below.newH _, MapH.made _ _⟩
  case round =>
    clear hmm
    obtain ⟨k, hk, rfl, hbel, M⟩ := hrel
    have HM : Hid (MapH ndP wr w.heap.size k (atH l k)) := M
    by_cases hlt : k < n
    case neg =>
      have he : k = n := by omega
      subst he
      go_wp2
      go_ret
      exact ⟨rfl, hbel, HM.out⟩
    obtain ⟨b, off, rfl, hbl, _, hx⟩ := RdV.at (HR.out wr hbel) hlt
    obtain ⟨x0, g0, s0⟩ := hx 0 (by omega)
    obtain ⟨x1, g1, s1⟩ := hx 1 (by omega)
    obtain ⟨x2, g2, s2⟩ := hx 2 (by omega)
    obtain ⟨x3, g3, s3⟩ := hx 3 (by omega)
    obtain ⟨x4, g4, s4⟩ := hx 4 (by omega)
    obtain ⟨x5, g5, s5⟩ := hx 5 (by omega)
    obtain ⟨x6, g6, s6⟩ := hx 6 (by omega)
    obtain ⟨x7, g7, s7⟩ := hx 7 (by omega)
    obtain ⟨x8, g8, s8⟩ := hx 8 (by omega)
    have HSK := HST.out k hlt
    have HIK := HIN.out k hlt
    generalize l[k]?.getD nd0 = e at *
    obtain ⟨⟨p, q, d⟩, ⟨p2, q2, d2⟩, lk, vl, es⟩ := e
    obtain rfl : x0 = .int .i64 p := s0
    obtain rfl : x1 = .int .i64 q := s1
    obtain rfl : x2 = .bool d := s2
    obtain rfl : x3 = .int .i64 p2 := s3
    obtain rfl : x4 = .int .i64 q2 := s4
    obtain rfl : x5 = .bool d2 := s5
    obtain rfl : x6 = .int .i64 lk := s6
    obtain rfl : x7 = .int .i64 vl := s7
    obtain ⟨xa, xc, rfl, _⟩ := RdV.sliced s8
    simp only [Nat.add_zero] at g0
    generalize es.length = xn at *
    have hws := M.lt
    have HS : Hid _ := HSK
    have HI : Hid (HIn (p, q, d)) := HIK
    clear HSK HIK hx M s8 HST HIN
    go_wp2_with (at_mapUpdate; refine wpList_putH (α := Nd) (V := ndP) _ rfl _ _ _ 54 rfl 51 Tryz.underlying54 w.heap.size k (atH l k) rfl (HM.out.alloc _) (by unfold maxLen; omega) (p, q, d) HI.out rfl (Nd.mk (p, q, d) (p2, q2, d2) lk vl es) (Exists.intro xa (Exists.intro xn (Exists.intro xc rfl))) ?_; intro w1 hm1 hgr1)
    have R0 := HS.out.2
    rw [R0] at hm1
    have R1 : MapH ndP w1 w.heap.size (k + 1) (atH l (k + 1)) := by rw [← HS.out.1]; simpa using hm1
    have R2 : Below w.heap.size w w1 := by
      refine Below.grown ?_ hgr1 ?_ (fun j hj => by cases hj; exact Nat.le_refl _)
      · exact hbel.alloc hbel.size _
      · exact Nat.le_trans hbel.size (by simp)
    clear hm1 hgr1 R0
    go_wp2
    first
    | exact ⟨⟨k + 1, by omega, by go_num, R2, R1⟩, by simp [intOf]; omega⟩
    | (go_roundw
       case rel => exact ⟨k + 1, by omega, by go_num, R2, R1⟩
       case measure => simp [intOf]; omega)
end
section
/-- A node's value, its entries by its handle. -/
def ndX (X : Hd → Value) (n : Nd) (v : Value) : Prop := v = ndV n (X n.h)
theorem ndX_of {X : Hd → Value} {n : Nd} {a : Option Addr} {m c : Nat} (h : Value.slice a m c = X n.h) : ndX X n (ndV n (.slice a m c)) := by unfold ndX; rw [← h]
/-- The nodes' entries lie in the row as X tells. -/
def EntsAt (w : World) (x : Value) (l : List Nd) (X : Hd → Value) : Prop := ∀ b off n c, x = .slice (some ⟨b, off, none⟩) n c → ∀ k, k < l.length → b < w.heap.size ∧ w.cell? ⟨b, off + k * 9 + 8, none⟩ = some (X (l[k]?.getD nd0).h)
set_option maxRecDepth 100000 in
set_option maxHeartbeats 1000000 in
theorem nodesX_any (x : Value) (l : List Nd) (S : Nat → Prop) (w : World) (r : RdV w S x (ndsDt l)) (X : Hd → Value) (hX : EntsAt w x l X) (hl : l.length ≤ 2097152) (ho : OneH l) (hin : ∀ i, i < l.length → HIn (l[i]?.getD nd0).h) :
    Calls Tryz.prog 19 #[x] w fun e w' => e = .returned (.map (some w.heap.size)) ∧ Below w.heap.size w w' ∧ MapH (ndX X) w' w.heap.size l.length (atH l l.length) := by
  obtain ⟨a, cap, rfl, _⟩ := RdV.sliced r
  have HR : Hid (∀ W, Below w.heap.size w W → RdV W S (.slice a l.length cap) (.rows 51 9 l.length (fun i j => ndCell (l[i]?.getD nd0) j))) := RdV.old r
  obtain ⟨n, hn⟩ : ∃ n, l.length = n := ⟨_, rfl⟩
  have HN : Hid _ := hn
  have HST : Hid (∀ k, k < n → (fun g => if g = (l[k]?.getD nd0).h then some (l[k]?.getD nd0) else atH l k g) = atH l (k + 1) ∧ atH l k (l[k]?.getD nd0).h = none) := fun k hk => ⟨atH_next ho (by rw [hn]; exact hk), atH_new ho (by rw [hn]; exact hk)⟩
  have HIN : Hid (∀ i, i < l.length → HIn (l[i]?.getD nd0).h) := hin
  have HXA : Hid (EntsAt w (.slice a l.length cap) l X) := hX
  rw [hn] at hl HR HIN ⊢
  clear r hn ho hin hX
  have hmm := @run_makeMap Tryz.prog
  go_enter Tryz.func19, Tryz.ntmps19
  go_wp2
  go_loopw [9] (fun i wr => ∃ k : Nat, k ≤ n ∧ i = .int .i64 k ∧ Below w.heap.size w wr ∧ MapH (ndX X) wr w.heap.size k (atH l k)) (fun i _ => n - (intOf i).toNat)
  case atStart => exact ⟨0, Nat.zero_le _, rfl, Below.newH _, MapH.made _ _⟩
  case round =>
    clear hmm
    obtain ⟨k, hk, rfl, hbel, M⟩ := hrel
    have HM : Hid (MapH (ndX X) wr w.heap.size k (atH l k)) := M
    by_cases hlt : k < n
    case neg =>
      have he : k = n := by omega
      subst he
      go_wp2
      go_ret
      exact ⟨rfl, hbel, HM.out⟩
    obtain ⟨b, off, rfl, hbl, _, hx⟩ := RdV.at (HR.out wr hbel) hlt
    obtain ⟨x0, g0, s0⟩ := hx 0 (by omega)
    obtain ⟨x1, g1, s1⟩ := hx 1 (by omega)
    obtain ⟨x2, g2, s2⟩ := hx 2 (by omega)
    obtain ⟨x3, g3, s3⟩ := hx 3 (by omega)
    obtain ⟨x4, g4, s4⟩ := hx 4 (by omega)
    obtain ⟨x5, g5, s5⟩ := hx 5 (by omega)
    obtain ⟨x6, g6, s6⟩ := hx 6 (by omega)
    obtain ⟨x7, g7, s7⟩ := hx 7 (by omega)
    obtain ⟨x8, g8, s8⟩ := hx 8 (by omega)
    have h8 : x8 = X (l[k]?.getD nd0).h := by
      have h1 := HXA.out b off _ _ rfl k (by rw [HN.out]; exact hlt)
      have h2 := (hbel.cell (p := ⟨b, off + k * 9 + 8, none⟩) h1.1).trans h1.2
      rw [g8] at h2
      exact Option.some.inj h2
    have HSK := HST.out k hlt
    have HIK := HIN.out k hlt
    generalize l[k]?.getD nd0 = e at *
    obtain ⟨⟨p, q, d⟩, ⟨p2, q2, d2⟩, lk, vl, es⟩ := e
    obtain rfl : x0 = .int .i64 p := s0
    obtain rfl : x1 = .int .i64 q := s1
    obtain rfl : x2 = .bool d := s2
    obtain rfl : x3 = .int .i64 p2 := s3
    obtain rfl : x4 = .int .i64 q2 := s4
    obtain rfl : x5 = .bool d2 := s5
    obtain rfl : x6 = .int .i64 lk := s6
    obtain rfl : x7 = .int .i64 vl := s7
    obtain ⟨xa, xc, rfl, _⟩ := RdV.sliced s8
    have H8 : Hid (Value.slice xa es.length xc = X (p, q, d)) := h8
    clear h8
    simp only [Nat.add_zero] at g0
    generalize es.length = xn at *
    have hws := M.lt
    have HS : Hid _ := HSK
    have HI : Hid (HIn (p, q, d)) := HIK
    clear HSK HIK hx M s8 HST HIN
    go_wp2_with (at_mapUpdate; refine wpList_putH (α := Nd) (V := ndX X) _ rfl _ _ _ 54 rfl 51 Tryz.underlying54 w.heap.size k (atH l k) rfl (HM.out.alloc _) (by unfold maxLen; omega) (p, q, d) HI.out rfl (Nd.mk (p, q, d) (p2, q2, d2) lk vl es) (ndX_of H8.out) ?_; intro w1 hm1 hgr1)
    have R0 := HS.out.2
    rw [R0] at hm1
    have R1 : MapH (ndX X) w1 w.heap.size (k + 1) (atH l (k + 1)) := by rw [← HS.out.1]; simpa using hm1
    have R2 : Below w.heap.size w w1 := by
      refine Below.grown ?_ hgr1 ?_ (fun j hj => by cases hj; exact Nat.le_refl _)
      · exact hbel.alloc hbel.size _
      · exact Nat.le_trans hbel.size (by simp)
    clear hm1 hgr1 R0
    go_wp2
    first
    | exact ⟨⟨k + 1, by omega, by go_num, R2, R1⟩, by simp [intOf]; omega⟩
    | (go_roundw
       case rel => exact ⟨k + 1, by omega, by go_num, R2, R1⟩
       case measure => simp [intOf]; omega)
end
section
/-- Where a handle's node stands. -/
def idxH (l : List Nd) (h : Hd) : Nat := l.findIdx (fun n => decide (n.h = h))
theorem idxH_at {l : List Nd} (ho : OneH l) {i : Nat} (hi : i < l.length) : idxH l (l[i]?.getD nd0).h = i := by
  have hg : l[i]?.getD nd0 = l[i] := by rw [List.getElem?_eq_getElem hi]; rfl
  have hlt : idxH l (l[i]?.getD nd0).h < l.length := List.findIdx_lt_length_of_exists ⟨l[i], List.getElem_mem hi, by rw [hg]; simp⟩
  have hp := List.findIdx_getElem (w := hlt)
  have hp' : (l[idxH l (l[i]?.getD nd0).h]'hlt).h = (l[i]?.getD nd0).h := of_decide_eq_true hp
  exact ho _ _ hlt hi (by rw [List.getElem?_eq_getElem hlt]; exact hp')
theorem entsX {w : World} {S : Nat → Prop} {v : Value} {l : List Nd} (ho : OneH l) (o : OwV w S v (ndsDt l)) :
    ∃ (X : Hd → Value) (Q : Hd → Nat → Prop), EntsAt w v l X ∧ (∀ i, i < l.length → OwV w (Q (l[i]?.getD nd0).h) (X (l[i]?.getD nd0).h) (ensDt (l[i]?.getD nd0).es)) ∧ (∀ i b, i < l.length → Q (l[i]?.getD nd0).h b → S b ∧ v.ownBlock ≠ some b) ∧
      (∀ i j b, i < l.length → j < l.length → Q (l[i]?.getD nd0).h b → Q (l[j]?.getD nd0).h b → i = j) := by
  unfold ndsDt at o
  obtain ⟨V, C, Qs, h1, hS, h3, h4, h5, h6⟩ := OwV.inv o
  refine ⟨fun h => V (idxH l h) 8, fun h => Qs (idxH l h) 8, ?_, ?_, ?_, ?_⟩
  · intro b off n c hv k hk
    rcases h1.2 with ⟨hv', _⟩ | ⟨g, cp, cur, hv', hg, hh, hnc, hm, _⟩
    · rw [hv] at hv'; cases hv'
    · rw [hv] at hv'
      simp only [Value.slice.injEq, Option.some.injEq, Addr.mk.injEq, and_true] at hv'
      obtain ⟨⟨rfl, rfl⟩, rfl, rfl⟩ := hv'
      rw [hv] at h1
      refine ⟨lt_of_block hh, ?_⟩
      have hc := World.ownsRow.cellAt h1 (k * 9 + 8) (place_lt hk (by omega))
      rw [h3 k 8 hk (by omega)] at hc
      simp only [idxH_at ho hk]
      rw [← hc]
      congr 2
      omega
  · intro i hi
    simp only [idxH_at ho hi]
    exact h4 i 8 hi (by omega)
  · intro i b hi hb
    simp only [idxH_at ho hi] at hb
    exact h5 i 8 b hi (by omega) hb
  · intro i j b hi hj hb hb'
    simp only [idxH_at ho hi] at hb
    simp only [idxH_at ho hj] at hb'
    exact (h6 i 8 j 8 b hi (by omega) hj (by omega) hb hb').1
end
section
def enOk (e : En) : Bool := isNm e.nm && HOk e.h
def enOkAt (l : List En) (i : Nat) : Bool := enOk (l[i]?.getD en0)
def noneOk (h : Hd) : Bool := decide (h = hd0) || HOk h
def ROk (r : RpD) : Bool := ((decide (0 ≤ r.code) && decide (r.code ≤ 11)) && (num r.val && (noneOk r.h && decide (r.list.length ≤ 12)))) && (List.range r.list.length).all (enOkAt r.list)
end
section
def isEndB (n : Int) : Bool := decide (0 ≤ n) && decide (n < 8)
def isCd (n : Int) : Bool := decide (0 ≤ n) && decide (n ≤ 11)
def zOp (o : OpD) : Bool := decide (o.kind = 0) && (decide (o.dir = hd0) && (decide (o.nm.length = 0) && (decide (o.to = hd0) && (decide (o.asn.length = 0) && decide (o.val = 0)))))
def zRp (r : RpD) : Bool := decide (r.code = 0) && (decide (r.h = hd0) && (decide (r.val = 0) && decide (r.list.length = 0)))
def zPt (p : PtD) : Bool := decide (p.kind = 0) && (decide (p.h = hd0) && (decide (p.asn.length = 0) && decide (p.to = hd0)))
def zTx (t : TxD) : Bool := decide (t = tx0)
def MBody (m : MsD) : Bool :=
  if m.kind = 0 then (num m.req && OOk m.op) && (zRp m.rp && (zTx m.tx && (zPt m.pt && (decide (m.code = 0) && decide (m.h = hd0)))))
  else if m.kind = 1 then (num m.req && ROk m.rp) && (zOp m.op && (zTx m.tx && (zPt m.pt && (decide (m.code = 0) && decide (m.h = hd0)))))
  else if m.kind = 2 then (TOk m.tx && POk m.pt) && (decide (m.req = 0) && (zOp m.op && (zRp m.rp && (decide (m.code = 0) && decide (m.h = hd0)))))
  else if m.kind = 3 then (TOk m.tx && (POk m.pt && (isCd m.code && noneOk m.h))) && (decide (m.req = 0) && (zOp m.op && zRp m.rp))
  else if m.kind = 4 then TOk m.tx && (decide (m.req = 0) && (zOp m.op && (zRp m.rp && (zPt m.pt && (decide (m.code = 0) && decide (m.h = hd0))))))
  else if m.kind = 5 then (TOk m.tx && (decide (m.code = 0) || decide (m.code = 1))) && (decide (m.req = 0) && (zOp m.op && (zRp m.rp && (zPt m.pt && decide (m.h = hd0)))))
  else if m.kind = 6 then (TOk m.tx && (num m.req && (HOk m.h && m.h.dir))) && (zOp m.op && (zRp m.rp && (zPt m.pt && decide (m.code = 0))))
  else (TOk m.tx && (num m.req && (isCd m.code && noneOk m.h))) && (zOp m.op && (zRp m.rp && zPt m.pt))
def MOk (m : MsD) : Bool := (decide (0 ≤ m.kind) && decide (m.kind ≤ 7)) && ((isEndB m.fr && isEndB m.to) && MBody m)
end
section
set_option maxHeartbeats 1000000 in
theorem bytesEq_any (v u : Value) (xs ys : List Int) (S S2 : Nat → Prop) (w : World) (r : RdV w S v (.bytes xs)) (r2 : RdV w S2 u (.bytes ys)) :
    Calls Tryz.prog 125 #[v, u] w fun e w' => e = .returned (.bool (decide (xs = ys))) ∧ w' = w := by
  obtain ⟨a, cap, rfl, _, hx⟩ := r.b.reads
  obtain ⟨a2, cap2, rfl, _, hy⟩ := r2.b.reads
  have h1 := conv_any a xs xs.length cap w hx rfl
  have h2 := conv_any a2 ys ys.length cap2 w hy rfl
  have hst := str_eq xs ys hx.1 hy.1
  rw [← hst]
  generalize strOfNums xs = s1 at h1 hst
  generalize strOfNums ys = s2 at h2 hst
  clear hst hx hy r r2
  generalize xs.length = n1 at *
  generalize ys.length = n2 at *
  go_enter Tryz.func125, Tryz.ntmps125
  go_wp2
  go_ret
  exact ⟨rfl, rfl⟩
theorem nilB (w : World) (S : Nat → Prop) : RdV w S (.slice none 0 0) (.bytes []) := ⟨isBytes_nil, none, 0, 0, rfl, rfl, ⟨Nat.le_refl _, Nat.zero_le _, fun _ => ⟨rfl, rfl⟩⟩, .inl rfl⟩
end
section
open Go.Maps Go.ChangeMaps Go.MapKept
theorem lawHd0 : WideMaps.KeyLaw Tryz.prog 28 := deep_law_laid laidHd (m := 3) (by omega) rowHd (by kernel_rfl) wideHd
theorem setBlock_twice (w : World) (b : Nat) (x y : Obj) : setBlock (setBlock w b x) b y = setBlock w b y := by
  unfold setBlock; simp

section
variable {α : Type} {V : α → Value → Prop} {w : World} {b s : Nat} {f : Hd → Option α}
theorem MapH.entry {t e : TypeId} (m : MapH V w b s f) (ht : Tryz.prog.underlying t = some (.map 28 e)) {z : Value} (hz : ∀ u : World, (zeroValue e).run Tryz.prog u = .ok z u) (hn : s < maxLen) {h : Hd} (hh : HIn h) :
    ∃ (v0 : Value) (st : Nat) (w1 : World), (Instr.mapEntry t (.map (some b)) h.v).run Tryz.prog w = .ok (.tuple #[v0, .int .i64 st]) w1 ∧ w.grownBy w1 (some b) ∧
      ∀ a v, V a v → ∃ w2, (Instr.entryStore t (.map (some b)) (.int .i64 st) v).run Tryz.prog w1 = .ok () w2 ∧ MapH V w2 b (if (f h).isSome then s else s + 1) (fun g => if g = h then some a else f g) ∧ w.grownBy w2 (some b) := by
  have m0 := m
  obtain ⟨D, ⟨es, clock, hb, F, hs, hD⟩, h1, h2⟩ := m
  obtain ⟨v0, st, es1, clock1, hE, _, hS⟩ := WideElems.entry_then_store lawHd0 ht hz hb F (keyHd hh)
  refine ⟨v0, st, _, hE, ⟨rfl, rfl, rfl, by simp [setBlock], fun i _ hi => heap_setBlock_other hb _ (fun e => hi (by rw [e]))⟩, fun a v hv => ?_⟩
  obtain ⟨es', clock', hE2, hU⟩ := hS _ v (heap_setBlock_same hb _)
  obtain ⟨w2, hrun, r1, r2⟩ := m0.put ht hn hh hv
  rw [hU] at hrun
  have he : setBlock w b (.map es' clock') = w2 := (Result.ok.inj hrun).2
  rw [setBlock_twice, he] at hE2
  exact ⟨w2, hE2, r1, r2⟩
theorem setBlock_self {w : World} {b : Nat} {o : Obj} (hb : w.heap[b]? = some o) : setBlock w b o = w := by
  unfold setBlock
  have h1 : w.heap.setIfInBounds b o = w.heap := by
    apply Array.ext_getElem?
    intro i
    rw [Array.getElem?_setIfInBounds]
    split
    · rename_i h; subst h; split
      · exact hb.symm
      · rename_i h2; rw [Array.getElem?_eq_none (by omega)]
    · rfl
  rw [h1]
/-- Behind an entry's taking the map is looked into as ahead of it. -/
theorem MapH.entryLook {t e : TypeId} (m : MapH V w b s f) (ht : Tryz.prog.underlying t = some (.map 28 e)) {z : Value} (hz : ∀ u : World, (zeroValue e).run Tryz.prog u = .ok z u) (hn : s < maxLen) {h : Hd} (hh : HIn h) {v0 v : Value} {w1 : World}
    (hE : (Instr.mapEntry t (.map (some b)) h.v).run Tryz.prog w = .ok v0 w1) (hL : (Instr.lookup t (.map (some b)) h.v false).run Tryz.prog w = .ok v w) : (Instr.lookup t (.map (some b)) h.v false).run Tryz.prog w1 = .ok v w1 := by
  obtain ⟨D, hD0, h1, h2⟩ := m
  have hD := hD0
  obtain ⟨es, clock, hb, F, hs, hDe⟩ := hD
  rcases lawHd0.find w (keyHd hh) es.toList F.keys with ⟨f1, f2⟩ | ⟨j, e0, f1, f2, f3⟩
  · have hU : (Instr.mapUpdate t (.map (some b)) h.v z).run Tryz.prog w = .ok () w1 := by
      simp [Instr.mapEntry, run_underlying ht, MapKept.run_getObj_map hb, lawHd0.check w false (keyHd hh), f1, hz, MapKept.run_setObj_map _ hb, Result.andThen] at hE
      simp [Instr.mapUpdate, run_underlying ht, MapKept.run_getObj_map hb, lawHd0.check w false (keyHd hh), f1, MapKept.run_setObj_map _ hb, Result.andThen, hE.2]
    have hv : v = z := by
      simp [Instr.lookup, run_underlying ht, MapKept.run_getObj_map hb, lawHd0.check w es.isEmpty (keyHd hh), f1, hz, Result.andThen] at hL
      exact hL.symm
    obtain ⟨w', hrun, ho, _⟩ := hD0.update lawHd ht hn (keyHd hh) (d := .held z) (ps := []) rfl
    rw [hU] at hrun
    have he : w1 = w' := (Result.ok.inj hrun).2
    subst he
    obtain ⟨u, ps, hr, hR⟩ := ho.lookup lawHd ht (hz _) (zd := .held z) (zp := []) rfl (keyHd hh)
    have hty := hD0.tidy lawHd
    rw [Maps.atKey_put_same hty.isMap (lawHd.key (keyHd hh))] at hR
    simp only [tokR, Option.some.injEq, Prod.mk.injEq] at hR
    rw [hr, hv, DataW.held.inj hR.1]
  · have hj : es[j]? = some e0 := by simpa using f2
    have hsame : es.modify j (fun e => { e with key := h.v }) = es := by
      apply Array.ext'
      rw [Array.toList_modify, modify_eq_set _ _ _ _ f2]
      have : ({ e0 with key := h.v } : MapEntry) = e0 := by rw [← f3]
      rw [this]
      exact WideElems.set_self _ _ _ f2
    have hw : w1 = setBlock w b (.map es clock) := by
      simp [Instr.mapEntry, run_underlying ht, MapKept.run_getObj_map hb, lawHd0.check w false (keyHd hh), f1, hj, f3, lawHd0.stays w (keyHd hh), hsame, MapKept.run_setObj_map _ hb, Result.andThen] at hE
      exact hE.2.symm
    rw [setBlock_self hb] at hw
    rw [hw]; exact hL
end
end
end Go.Proofs.YtnphmhobpmaebaaGreatDoor
