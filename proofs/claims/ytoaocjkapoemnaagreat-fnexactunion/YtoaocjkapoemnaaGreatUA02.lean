/- Joined: MapH ImplT5 MapH2 IC3 IC4 SpecD12 SpecD13 SpecD14 SpecD15 SpecD16 SpecD16k0 SpecD16k1 SpecD16k2 SpecD16k3 SpecD16k4 SpecD16k5 SpecD16k6 SpecD16k7 ShMk4. -/
import Derived.Test.YtoaocjkapoemnaaGreatUImplT4
import Derived.Maps.OwnSet
import Derived.DeepKeys4
import Derived.WideKeyEntry
import Derived.Test.YtoaocjkapoemnaaGreatUA00b
import Derived.Test.YtoaocjkapoemnaaGreatUSpecD11
import Derived.Test.YtoaocjkapoemnaaGreatUA00
import Derived.Test.YtoaocjkapoemnaaGreatUShMk2
import Derived.Test.YtoaocjkapoemnaaGreatUA01

namespace Go.Proofs.YtoaocjkapoemnaaGreat
open Go.RowKit
set_option linter.unusedVariables false
set_option linter.unusedSimpArgs false
set_option maxRecDepth 100000
section
open Go.Maps
theorem rowHd : (51 : TypeId) < Tryz.prog.types.size := of_decide_eq_true (by kernel_rfl)
theorem cellsHd : Tryz.prog.cellsOf 51 = 3 := by kernel_rfl
theorem wideHd : (match Tryz.prog.underlying 51 with | some (.array _ _) | some (.struct _) => true | _ => false) = true := by kernel_rfl
theorem laidHd : laidOutB Tryz.prog = true := by kernel_rfl
theorem lawHd : Keyed Tryz.prog 51 := Keyed.of_law (deep_law_laid laidHd (m := 3) (by omega) rowHd (by kernel_rfl) wideHd)

def HIn (h : Hd) : Prop := (Lit.int .i64 h.sh).wf = true ∧ (Lit.int .i64 h.ino).wf = true
def klH (h : Hd) : Lit := .string (keyBytes [.int .i64 h.sh, .int .i64 h.ino, .bool h.dir])
theorem underHd : ∃ fs, Tryz.prog.underlying 51 = some (.struct fs) ∧ fs.all (·.name != "_") = true ∧ fs.toList.map (fun f => (f.type, f.offset)) = [(3, 0), (3, 1), (4, 2)] := ⟨_, Tryz.underlying51, by kernel_rfl, by kernel_rfl⟩
theorem mapM_two (fs : Array Field) (g : TypeId → Nat → Option (List Lit)) : fs.toList.mapM (fun f => g f.type f.offset) = (fs.toList.map (fun f => (f.type, f.offset))).mapM (fun p => g p.1 p.2) := by
  rw [List.mapM_map]; rfl
theorem keyHd {h : Hd} (hh : HIn h) : keyOf Tryz.prog 51 h.v = some (klH h) := by
  obtain ⟨fs, hu, hn, hf⟩ := underHd
  have hkt : Tryz.prog.keyType 51 = true := by kernel_rfl
  have h3 : Tryz.prog.underlying 3 = some (.int .i64) := by kernel_rfl
  have h4 : Tryz.prog.underlying 4 = some .bool := by kernel_rfl
  have c3 : Tryz.prog.cellsOf 3 = 1 := by kernel_rfl
  have c4 : Tryz.prog.cellsOf 4 = 1 := by kernel_rfl
  obtain ⟨m, hm⟩ : ∃ m, Tryz.prog.types.size = m + 1 := ⟨_, (Nat.succ_pred_eq_of_pos (Nat.lt_of_le_of_lt (Nat.zero_le _) rowHd)).symm⟩
  have hfs := fun g => mapM_two fs g
  unfold keyOf
  simp only [hu]
  rw [if_pos (by simp [hkt, Value.formed, hu, cellsHd]), hm]
  have hk : Tryz.prog.keyLits (m + 1 + 1) 51 [.int .i64 h.sh, .int .i64 h.ino, .bool h.dir] = some [.int .i64 h.sh, .int .i64 h.ino, .bool h.dir] := by
    unfold Program.keyLits
    simp only [hu]
    rw [if_pos ⟨by rw [cellsHd]; rfl, hn⟩, hfs (fun t o => Tryz.prog.keyLits (m + 1) t ((([.int .i64 h.sh, .int .i64 h.ino, .bool h.dir] : List Value).drop o).take (Tryz.prog.cellsOf t))), hf]
    simp [Program.keyLits, h3, h4, c3, c4, hh.1, hh.2]
  show Option.map _ (Tryz.prog.keyLits (m + 1 + 1) 51 [.int .i64 h.sh, .int .i64 h.ino, .bool h.dir]) = _
  rw [hk]
  rfl
theorem klH_ne {h g : Hd} (hh : HIn h) (hg : HIn g) (hne : h ≠ g) : klH h ≠ klH g := by
  intro e
  have h1 := lawHd.inj (keyHd hh) (by rw [e]; exact keyHd hg)
  obtain ⟨a, b, c⟩ := h
  obtain ⟨a2, b2, c2⟩ := g
  simp only [Value.agg.injEq, Array.mk.injEq, List.cons.injEq, Value.int.injEq, Value.bool.injEq, true_and, and_true] at h1
  exact hne (Prod.ext h1.1 (Prod.ext h1.2.1 h1.2.2))

def tokR (v : Value) : Option (DataW Value × List MemPlace) := some (.held v, [])
/-- Block b is a map of s entries; at a handle it has what f says, V telling how the value is. -/
def MapH {α : Type} (V : α → Value → Prop) (w : World) (b s : Nat) (f : Hd → Option α) : Prop :=
  ∃ D : DataW Value, w.ownsMap Tryz.prog 51 tokR b s D ∧ Maps.size D = s ∧ ∀ h, HIn h → (f h = none → Maps.has D (klH h) = false) ∧ ∀ a, f h = some a → Maps.has D (klH h) = true ∧ ∃ v, V a v ∧ ∀ z, D.atKey (klH h) z = .held v

theorem ownsMap_tight {w : World} {b n : Nat} {D : DataW Value} (h : w.ownsMap Tryz.prog 51 tokR b n D) : w.ownsMap Tryz.prog 51 tokR b (Maps.size D) D := by
  obtain ⟨es, clock, hb, F, hs, rfl⟩ := h
  exact ⟨es, clock, hb, F, by rw [Maps.size_eq, length_read]; exact Nat.le_refl _, rfl⟩

section
variable {α : Type} {V : α → Value → Prop} {w : World} {b s : Nat} {f : Hd → Option α}
theorem MapH.made (V : α → Value → Prop) (w : World) : MapH V (w.alloc (.map #[] 0)) w.heap.size 0 (fun _ => none) :=
  ⟨.map [], World.ownsMap_made w _ _ _, rfl, fun h _ => ⟨fun _ => rfl, fun a ha => by cases ha⟩⟩
theorem MapH.lt (m : MapH V w b s f) : b < w.heap.size := by obtain ⟨D, hD, _⟩ := m; exact hD.lt
theorem MapH.kept {w' : World} {row : Option Nat} (m : MapH V w b s f) (hg : w.grownBy w' row) (hne : some b ≠ row) : MapH V w' b s f := by
  obtain ⟨D, hD, h1, h2⟩ := m; exact ⟨D, hD.kept hg hne, h1, h2⟩
theorem MapH.blk {w' : World} (m : MapH V w b s f) (hg : w'.heap[b]? = w.heap[b]?) : MapH V w' b s f := by
  obtain ⟨D, ⟨es, clock, hb, hF⟩, h1, h2⟩ := m; exact ⟨D, ⟨es, clock, hg.trans hb, hF⟩, h1, h2⟩
theorem MapH.put {t e : TypeId} (m : MapH V w b s f) (ht : Tryz.prog.underlying t = some (.map 51 e)) (hn : s < maxLen) {h : Hd} (hh : HIn h) {a : α} {v : Value} (hv : V a v) :
    ∃ w', (Instr.mapUpdate t (.map (some b)) h.v v).run Tryz.prog w = .ok () w' ∧ MapH V w' b (if (f h).isSome then s else s + 1) (fun g => if g = h then some a else f g) ∧ w.grownBy w' (some b) := by
  obtain ⟨D, hD, h1, h2⟩ := m
  obtain ⟨w', hrun, ho, hg⟩ := hD.update lawHd ht hn (keyHd hh) (d := .held v) (ps := []) rfl
  have hty := hD.tidy lawHd
  have hkl := lawHd.key (keyHd hh)
  refine ⟨w', hrun, ⟨D.put (klH h) (.held v), ?_, ?_, ?_⟩, hg⟩
  · have h3 := ownsMap_tight ho
    rw [Maps.size_put hty] at h3
    cases hf : f h with
    | none => rw [(h2 h hh).1 hf] at h3; simpa [h1] using h3
    | some a => rw [((h2 h hh).2 a hf).1] at h3; simpa [h1] using h3
  · rw [Maps.size_put hty]
    cases hf : f h with
    | none => rw [(h2 h hh).1 hf]; simp [h1]
    | some a => rw [((h2 h hh).2 a hf).1]; simp [h1]
  · intro g hgi
    by_cases hgh : g = h
    · subst hgh
      refine ⟨fun hc => by simp at hc, fun c hc => ?_⟩
      simp only [if_true, Option.some.injEq] at hc
      subst hc
      exact ⟨Maps.has_put_same hty.isMap hkl _, v, hv, fun z => Maps.atKey_put_same hty.isMap hkl _ z⟩
    · have hne := klH_ne hgi hh hgh
      simp only [if_neg hgh]
      refine ⟨fun hc => ?_, fun c hc => ?_⟩
      · rw [Maps.has_put_other hne]; exact (h2 g hgi).1 hc
      · obtain ⟨x1, u, x2, x3⟩ := (h2 g hgi).2 c hc
        exact ⟨by rw [Maps.has_put_other hne]; exact x1, u, x2, fun z => by rw [Maps.atKey_put_other hne]; exact x3 z⟩
theorem MapH.look {t e : TypeId} (m : MapH V w b s f) (ht : Tryz.prog.underlying t = some (.map 51 e)) {z : Value} (hz : (zeroValue e).run Tryz.prog w = .ok z w) {h : Hd} (hh : HIn h) :
    ∃ v, (Instr.lookup t (.map (some b)) h.v false).run Tryz.prog w = .ok v w ∧ (f h = none → v = z) ∧ ∀ a, f h = some a → V a v := by
  obtain ⟨D, hD, h1, h2⟩ := m
  obtain ⟨v, ps, hrun, hR⟩ := hD.lookup lawHd ht hz (zd := .held z) (zp := []) rfl (keyHd hh)
  simp only [tokR, Option.some.injEq, Prod.mk.injEq] at hR
  refine ⟨v, hrun, fun hf => ?_, fun a hf => ?_⟩
  · rw [Maps.atKey_of_not_has ((h2 h hh).1 hf)] at hR
    exact DataW.held.inj hR.1
  · obtain ⟨_, u, hu, hat⟩ := (h2 h hh).2 a hf
    rw [hat] at hR
    rw [DataW.held.inj hR.1]; exact hu
theorem MapH.look_ok {t e : TypeId} (m : MapH V w b s f) (ht : Tryz.prog.underlying t = some (.map 51 e)) {z : Value} (hz : (zeroValue e).run Tryz.prog w = .ok z w) {h : Hd} (hh : HIn h) :
    ∃ v, (Instr.lookup t (.map (some b)) h.v true).run Tryz.prog w = .ok (.tuple #[v, .bool (f h).isSome]) w ∧ (f h = none → v = z) ∧ ∀ a, f h = some a → V a v := by
  obtain ⟨D, hD, h1, h2⟩ := m
  obtain ⟨v, ps, hrun, hR⟩ := hD.look_ok lawHd ht hz (zd := .held z) (zp := []) rfl (keyHd hh)
  simp only [tokR, Option.some.injEq, Prod.mk.injEq] at hR
  cases hf : f h with
  | none =>
    have h3 := (h2 h hh).1 hf
    rw [h3] at hrun
    rw [Maps.atKey_of_not_has h3] at hR
    exact ⟨v, hrun, (fun _ => DataW.held.inj hR.1), (fun a ha => by cases ha)⟩
  | some a =>
    obtain ⟨h3, u, hu, hat⟩ := (h2 h hh).2 a hf
    rw [h3] at hrun
    rw [hat] at hR
    exact ⟨v, hrun, (fun hc => by cases hc), (fun c hc => by cases hc; rw [DataW.held.inj hR.1]; exact hu)⟩
theorem MapH.len {t e : TypeId} (m : MapH V w b s f) (ht : Tryz.prog.underlying t = some (.map 51 e)) (ty : TypeId) : (Builtin.len_ #[t] ty #[.map (some b)]).run Tryz.prog w = .ok (.int .i64 s) w := by
  obtain ⟨D, hD, h1, h2⟩ := m
  rw [← h1]; exact hD.len ht ty
end
theorem HOk.inn {h : Hd} (hh : HOk h = true) : HIn h := by
  simp only [HOk, Bool.and_eq_true, decide_eq_true_eq] at hh
  exact ⟨WalkArith.wf_i64 (by omega), WalkArith.wf_i64 (by omega)⟩
theorem hd0_in : HIn hd0 := ⟨by decide, by decide⟩
end
section
open Go.Maps
def ndP (n : Nd) (v : Value) : Prop := ∃ a m c, v = ndV n (.slice a m c)
def atH (l : List Nd) (k : Nat) (h : Hd) : Option Nd := (l.take k).find? (fun n => decide (n.h = h))
def OneH (l : List Nd) : Prop := ∀ i j, i < l.length → j < l.length → (l[i]?.getD nd0).h = (l[j]?.getD nd0).h → i = j
theorem atH_new {l : List Nd} (ho : OneH l) {k : Nat} (hk : k < l.length) : atH l k (l[k]?.getD nd0).h = none := by
  unfold atH
  rw [List.find?_eq_none]
  intro n hn
  obtain ⟨i, hi, rfl⟩ := List.getElem_of_mem hn
  have hi2 : i < k ∧ i < l.length := by have h9 : i < min k l.length := by simpa using hi
                                        omega
  simp only [List.getElem_take, decide_eq_true_eq]
  intro he
  have := ho i k hi2.2 hk (by rw [List.getElem?_eq_getElem hi2.2]; exact he)
  omega
theorem atH_next {l : List Nd} (ho : OneH l) {k : Nat} (hk : k < l.length) : (fun g => if g = (l[k]?.getD nd0).h then some (l[k]?.getD nd0) else atH l k g) = atH l (k + 1) := by
  funext g
  have hg : l[k]?.getD nd0 = l[k] := by rw [List.getElem?_eq_getElem hk]; rfl
  have ht : l.take (k + 1) = l.take k ++ [l[k]] := (List.take_append_getElem hk).symm
  have hstep : atH l (k + 1) g = (atH l k g).or ([l[k]].find? (fun n => decide (n.h = g))) := by
    unfold atH; rw [ht, List.find?_append]
  rw [hstep]
  by_cases hgh : g = (l[k]?.getD nd0).h
  · rw [if_pos hgh]
    have h1 := atH_new ho hk
    rw [← hgh] at h1
    rw [h1, hg] at *
    simp [hgh]
  · rw [if_neg hgh]
    rw [hg] at hgh
    have h2 : [l[k]].find? (fun n => decide (n.h = g)) = none := by
      simp only [List.find?_cons, List.find?_nil]
      rw [decide_eq_false (fun h => hgh h.symm)]
    rw [h2]; simp

section
variable {α : Type} {V : α → Value → Prop} {w : World} {b s : Nat} {f : Hd → Option α}
theorem MapH.alloc (m : MapH V w b s f) (o : Obj) : MapH V (w.alloc o) b s f := m.kept (World.grownBy_alloc w o none) (by simp)
end

/-- A store into such a map, at the operation. -/
theorem wpList_putH {α : Type} {V : α → Value → Prop} (w : World) {ops : Array Oper} {rest : List Oper} {o : Oper} {a : Act} {Q : Exit → Act → World → Prop}
    (hg : o.guard = none) (m x v : Operand) (t : TypeId) (hop : o.op = Op.mapUpdate t m x v) (e : TypeId) (ht : Tryz.prog.underlying t = some (.map 51 e)) (b s : Nat) (f : Hd → Option α)
    (hm : a.eval m = .map (some b)) (M : MapH V w b s f) (hn : s < maxLen) (h : Hd) (hh : HIn h) (hx : a.eval x = h.v) (c : α) (hv : V c (a.eval v))
    (hK : ∀ w', MapH V w' b (if (f h).isSome then s else s + 1) (fun g => if g = h then some c else f g) → w.grownBy w' (some b) → wpList Tryz.prog ops Q rest (a.put o.dst undef) w') :
    wpList Tryz.prog ops Q (o :: rest) a w := by
  refine wpList_plain hg fun K' hK' => ?_
  obtain ⟨w', hrun, r1, r2⟩ := M.put ht hn hh hv
  unfold Oper.wp
  simp [execOp, hop, hm, hx, hrun, Result.andThen]
  exact hK' _ _ (hK w' r1 r2)

set_option maxRecDepth 100000 in
set_option maxHeartbeats 1000000 in
theorem nodesByHandle_any (x : Value) (l : List Nd) (S : Nat → Prop) (w : World) (r : RdV w S x (ndsDt l)) (hl : l.length ≤ 2097152) (ho : OneH l) (hin : ∀ i, i < l.length → HIn (l[i]?.getD nd0).h) :
    Calls Tryz.prog 58 #[x] w fun e w' => e = .returned (.map (some w.heap.size)) ∧ Below w.heap.size w w' ∧ MapH ndP w' w.heap.size l.length (atH l l.length) := by
  obtain ⟨a, cap, rfl, _⟩ := RdV.sliced r
  have HR : Hid (∀ W, Below w.heap.size w W → RdV W S (.slice a l.length cap) (.rows 54 9 l.length (fun i j => ndCell (l[i]?.getD nd0) j))) := RdV.old r
  obtain ⟨n, hn⟩ : ∃ n, l.length = n := ⟨_, rfl⟩
  have HN : Hid _ := hn
  have HST : Hid (∀ k, k < n → (fun g => if g = (l[k]?.getD nd0).h then some (l[k]?.getD nd0) else atH l k g) = atH l (k + 1) ∧ atH l k (l[k]?.getD nd0).h = none) := fun k hk => ⟨atH_next ho (by rw [hn]; exact hk), atH_new ho (by rw [hn]; exact hk)⟩
  have HIN : Hid (∀ i, i < l.length → HIn (l[i]?.getD nd0).h) := hin
  rw [hn] at hl HR HIN ⊢
  clear r hn ho hin
  have hmm := @run_makeMap Tryz.prog
  go_enter Tryz.func58, Tryz.ntmps58
  go_wp2
  go_loopw [9] (fun i wr => ∃ k : Nat, k ≤ n ∧ i = .int .i64 k ∧ Below w.heap.size w wr ∧ MapH ndP wr w.heap.size k (atH l k)) (fun i _ => n - (intOf i).toNat)
  case atStart => exact ⟨0, Nat.zero_le _, rfl, Below.newH _, MapH.made _ _⟩
  case round =>
    clear hmm
    obtain ⟨k, hk, rfl, hbel, M⟩ := hrel
    have HM : Hid (MapH ndP wr w.heap.size k (atH l k)) := M
    by_cases hlt : k < n
    case neg =>
      have he : k = n := by omega
      subst he
      go_wp2
      go_ret
      exact ⟨rfl, hbel, HM.out⟩
    obtain ⟨b, off, rfl, hbl, _, hx⟩ := RdV.at (HR.out wr hbel) hlt
    obtain ⟨x0, g0, s0⟩ := hx 0 (by omega)
    obtain ⟨x1, g1, s1⟩ := hx 1 (by omega)
    obtain ⟨x2, g2, s2⟩ := hx 2 (by omega)
    obtain ⟨x3, g3, s3⟩ := hx 3 (by omega)
    obtain ⟨x4, g4, s4⟩ := hx 4 (by omega)
    obtain ⟨x5, g5, s5⟩ := hx 5 (by omega)
    obtain ⟨x6, g6, s6⟩ := hx 6 (by omega)
    obtain ⟨x7, g7, s7⟩ := hx 7 (by omega)
    obtain ⟨x8, g8, s8⟩ := hx 8 (by omega)
    have HSK := HST.out k hlt
    have HIK := HIN.out k hlt
    generalize l[k]?.getD nd0 = e at *
    obtain ⟨⟨p, q, d⟩, ⟨p2, q2, d2⟩, lk, vl, es⟩ := e
    obtain rfl : x0 = .int .i64 p := s0
    obtain rfl : x1 = .int .i64 q := s1
    obtain rfl : x2 = .bool d := s2
    obtain rfl : x3 = .int .i64 p2 := s3
    obtain rfl : x4 = .int .i64 q2 := s4
    obtain rfl : x5 = .bool d2 := s5
    obtain rfl : x6 = .int .i64 lk := s6
    obtain rfl : x7 = .int .i64 vl := s7
    obtain ⟨xa, xc, rfl, _⟩ := RdV.sliced s8
    simp only [Nat.add_zero] at g0
    generalize es.length = xn at *
    have hws := M.lt
    have HS : Hid _ := HSK
    have HI : Hid (HIn (p, q, d)) := HIK
    clear HSK HIK hx M s8 HST HIN
    go_wp2_with (at_mapUpdate; refine wpList_putH (α := Nd) (V := ndP) _ rfl _ _ _ 98 rfl 54 Tryz.underlying98 w.heap.size k (atH l k) rfl (HM.out.alloc _) (by unfold maxLen; omega) (p, q, d) HI.out rfl (Nd.mk (p, q, d) (p2, q2, d2) lk vl es) (Exists.intro xa (Exists.intro xn (Exists.intro xc rfl))) ?_; intro w1 hm1 hgr1)
    have R0 := HS.out.2
    rw [R0] at hm1
    have R1 : MapH ndP w1 w.heap.size (k + 1) (atH l (k + 1)) := by rw [← HS.out.1]; simpa using hm1
    have R2 : Below w.heap.size w w1 := by
      refine Below.grown ?_ hgr1 ?_ (fun j hj => by cases hj; exact Nat.le_refl _)
      · exact hbel.alloc hbel.size _
      · exact Nat.le_trans hbel.size (by simp)
    clear hm1 hgr1 R0
    go_wp2
    first
    | exact ⟨⟨k + 1, by omega, by go_num, R2, R1⟩, by simp [intOf]; omega⟩
    | (go_roundw
       case rel => exact ⟨k + 1, by omega, by go_num, R2, R1⟩
       case measure => simp [intOf]; omega)
end
section
open Go.Maps Go.ChangeMaps Go.MapKept
theorem lawHd0 : WideMaps.KeyLaw Tryz.prog 51 := deep_law_laid laidHd (m := 3) (by omega) rowHd (by kernel_rfl) wideHd
theorem setBlock_twice (w : World) (b : Nat) (x y : Obj) : setBlock (setBlock w b x) b y = setBlock w b y := by
  unfold setBlock; simp

section
variable {α : Type} {V : α → Value → Prop} {w : World} {b s : Nat} {f : Hd → Option α}
theorem MapH.entry {t e : TypeId} (m : MapH V w b s f) (ht : Tryz.prog.underlying t = some (.map 51 e)) {z : Value} (hz : ∀ u : World, (zeroValue e).run Tryz.prog u = .ok z u) (hn : s < maxLen) {h : Hd} (hh : HIn h) :
    ∃ (v0 : Value) (st : Nat) (w1 : World), (Instr.mapEntry t (.map (some b)) h.v).run Tryz.prog w = .ok (.tuple #[v0, .int .i64 st]) w1 ∧ w.grownBy w1 (some b) ∧
      ∀ a v, V a v → ∃ w2, (Instr.entryStore t (.map (some b)) (.int .i64 st) v).run Tryz.prog w1 = .ok () w2 ∧ MapH V w2 b (if (f h).isSome then s else s + 1) (fun g => if g = h then some a else f g) ∧ w.grownBy w2 (some b) := by
  have m0 := m
  obtain ⟨D, ⟨es, clock, hb, F, hs, hD⟩, h1, h2⟩ := m
  obtain ⟨v0, st, es1, clock1, hE, _, hS⟩ := WideElems.entry_then_store lawHd0 ht hz hb F (keyHd hh)
  refine ⟨v0, st, _, hE, ⟨rfl, rfl, rfl, by simp [setBlock], fun i _ hi => heap_setBlock_other hb _ (fun e => hi (by rw [e]))⟩, fun a v hv => ?_⟩
  obtain ⟨es', clock', hE2, hU⟩ := hS _ v (heap_setBlock_same hb _)
  obtain ⟨w2, hrun, r1, r2⟩ := m0.put ht hn hh hv
  rw [hU] at hrun
  have he : setBlock w b (.map es' clock') = w2 := (Result.ok.inj hrun).2
  rw [setBlock_twice, he] at hE2
  exact ⟨w2, hE2, r1, r2⟩
theorem setBlock_self {w : World} {b : Nat} {o : Obj} (hb : w.heap[b]? = some o) : setBlock w b o = w := by
  unfold setBlock
  have h1 : w.heap.setIfInBounds b o = w.heap := by
    apply Array.ext_getElem?
    intro i
    rw [Array.getElem?_setIfInBounds]
    split
    · rename_i h; subst h; split
      · exact hb.symm
      · rename_i h2; rw [Array.getElem?_eq_none (by omega)]
    · rfl
  rw [h1]
/-- Behind an entry's taking the map is looked into as ahead of it. -/
theorem MapH.entryLook {t e : TypeId} (m : MapH V w b s f) (ht : Tryz.prog.underlying t = some (.map 51 e)) {z : Value} (hz : ∀ u : World, (zeroValue e).run Tryz.prog u = .ok z u) (hn : s < maxLen) {h : Hd} (hh : HIn h) {v0 v : Value} {w1 : World}
    (hE : (Instr.mapEntry t (.map (some b)) h.v).run Tryz.prog w = .ok v0 w1) (hL : (Instr.lookup t (.map (some b)) h.v false).run Tryz.prog w = .ok v w) : (Instr.lookup t (.map (some b)) h.v false).run Tryz.prog w1 = .ok v w1 := by
  obtain ⟨D, hD0, h1, h2⟩ := m
  have hD := hD0
  obtain ⟨es, clock, hb, F, hs, hDe⟩ := hD
  rcases lawHd0.find w (keyHd hh) es.toList F.keys with ⟨f1, f2⟩ | ⟨j, e0, f1, f2, f3⟩
  · have hU : (Instr.mapUpdate t (.map (some b)) h.v z).run Tryz.prog w = .ok () w1 := by
      simp [Instr.mapEntry, run_underlying ht, MapKept.run_getObj_map hb, lawHd0.check w false (keyHd hh), f1, hz, MapKept.run_setObj_map _ hb, Result.andThen] at hE
      simp [Instr.mapUpdate, run_underlying ht, MapKept.run_getObj_map hb, lawHd0.check w false (keyHd hh), f1, MapKept.run_setObj_map _ hb, Result.andThen, hE.2]
    have hv : v = z := by
      simp [Instr.lookup, run_underlying ht, MapKept.run_getObj_map hb, lawHd0.check w es.isEmpty (keyHd hh), f1, hz, Result.andThen] at hL
      exact hL.symm
    obtain ⟨w', hrun, ho, _⟩ := hD0.update lawHd ht hn (keyHd hh) (d := .held z) (ps := []) rfl
    rw [hU] at hrun
    have he : w1 = w' := (Result.ok.inj hrun).2
    subst he
    obtain ⟨u, ps, hr, hR⟩ := ho.lookup lawHd ht (hz _) (zd := .held z) (zp := []) rfl (keyHd hh)
    have hty := hD0.tidy lawHd
    rw [Maps.atKey_put_same hty.isMap (lawHd.key (keyHd hh))] at hR
    simp only [tokR, Option.some.injEq, Prod.mk.injEq] at hR
    rw [hr, hv, DataW.held.inj hR.1]
  · have hj : es[j]? = some e0 := by simpa using f2
    have hsame : es.modify j (fun e => { e with key := h.v }) = es := by
      apply Array.ext'
      rw [Array.toList_modify, modify_eq_set _ _ _ _ f2]
      have : ({ e0 with key := h.v } : MapEntry) = e0 := by rw [← f3]
      rw [this]
      exact WideElems.set_self _ _ _ f2
    have hw : w1 = setBlock w b (.map es clock) := by
      simp [Instr.mapEntry, run_underlying ht, MapKept.run_getObj_map hb, lawHd0.check w false (keyHd hh), f1, hj, f3, lawHd0.stays w (keyHd hh), hsame, MapKept.run_setObj_map _ hb, Result.andThen] at hE
      exact hE.2.symm
    rw [setBlock_self hb] at hw
    rw [hw]; exact hL
end
end
section
/-- A node's value, its entries by its handle. -/
def ndX (X : Hd → Value) (n : Nd) (v : Value) : Prop := v = ndV n (X n.h)
/-- The nodes' entries lie in the row as X tells. -/
def EntsAt (w : World) (x : Value) (l : List Nd) (X : Hd → Value) : Prop := ∀ b off n c, x = .slice (some ⟨b, off, none⟩) n c → ∀ k, k < l.length → b < w.heap.size ∧ w.cell? ⟨b, off + k * 9 + 8, none⟩ = some (X (l[k]?.getD nd0).h)
end
section
/-- Where a handle's node stands. -/
def idxH (l : List Nd) (h : Hd) : Nat := l.findIdx (fun n => decide (n.h = h))
end
section
/-- The blocks of a tree that is worked on: from lo on, but for the variable's own. -/
abbrev LT (lo tb : Nat) : Nat → Prop := fun b => lo ≤ b ∧ b ≠ tb
/-- The variable tb holds the tree l that is worked on. -/
def TV (w : World) (tb lo : Nat) (L : Nat → Prop) (l : List Nd) : Prop := ∃ v, VarA w tb 26 #[v] ∧ SG w lo L v l ∧ v.ownBlock ≠ some tb
/-- What it holds is small. -/
def Small (l : List Nd) : Prop := l.length ≤ 3000 ∧ ∀ i : Nat, (l[i]?.getD nd0).es.length ≤ 4000 ∧ 0 ≤ (l[i]?.getD nd0).links ∧ (l[i]?.getD nd0).links ≤ 2147483647
theorem SG.rd {w : World} {lo : Nat} {L : Nat → Prop} {v : Value} {l : List Nd} (s : SG w lo L v l) : RdV w (fun b => b < w.heap.size) v (ndsDt l) := by
  obtain ⟨V, C, h1, h2, h3⟩ := s
  unfold ndsDt
  refine RdV.mkRows _ ?_
  rcases h1.2 with ⟨hv, h0⟩ | ⟨g, c, cur, hv, hg, hh, hnc, hm, _⟩
  · subst hv
    rw [h0]
    exact ⟨none, 0, fun _ _ => undef, rfl, ⟨Nat.le_refl _, Nat.zero_le _, fun _ => ⟨rfl, rfl⟩⟩, .inl rfl, fun i j hi => absurd hi (Nat.not_lt_zero _)⟩
  · subst hv
    refine ⟨some ⟨g, 0, none⟩, c, fun i j => ndVal (l[i]?.getD nd0) (V i) j, rfl, ⟨hnc, hm, fun e => by cases e⟩, .inr ⟨g, 0, rfl, lt_of_block hh, lt_of_block hh, fun i j hi hj => ?_⟩, fun i j hi hj => ?_⟩
    · rw [Nat.zero_add, World.ownsRow.cellAt h1 (i * 9 + j) (place_lt hi hj)]
      exact h2 i j hi hj
    · match j, hj with
      | 0, _ => rfl
      | 1, _ => rfl
      | 2, _ => rfl
      | 3, _ => rfl
      | 4, _ => rfl
      | 5, _ => rfl
      | 6, _ => rfl
      | 7, _ => rfl
      | 8, _ => exact RdV.mono (fun b hb => hb.2.1) (h3 i hi).en
/-- .. in blocks of L alone. -/
theorem SG.rdL {w : World} {lo : Nat} {L : Nat → Prop} {v : Value} {l : List Nd} (s : SG w lo L v l) (hL : ∀ b, v.ownBlock = some b → L b) : RdV w L v (ndsDt l) := by
  obtain ⟨V, C, h1, h2, h3⟩ := s
  unfold ndsDt
  refine RdV.mkRows _ ?_
  rcases h1.2 with ⟨hv, h0⟩ | ⟨g, c, cur, hv, hg, hh, hnc, hm, _⟩
  · subst hv
    rw [h0]
    exact ⟨none, 0, fun _ _ => undef, rfl, ⟨Nat.le_refl _, Nat.zero_le _, fun _ => ⟨rfl, rfl⟩⟩, .inl rfl, fun i j hi => absurd hi (Nat.not_lt_zero _)⟩
  · subst hv
    refine ⟨some ⟨g, 0, none⟩, c, fun i j => ndVal (l[i]?.getD nd0) (V i) j, rfl, ⟨hnc, hm, fun e => by cases e⟩, .inr ⟨g, 0, rfl, hL g rfl, lt_of_block hh, fun i j hi hj => ?_⟩, fun i j hi hj => ?_⟩
    · rw [Nat.zero_add, World.ownsRow.cellAt h1 (i * 9 + j) (place_lt hi hj)]
      exact h2 i j hi hj
    · match j, hj with
      | 0, _ => rfl
      | 1, _ => rfl
      | 2, _ => rfl
      | 3, _ => rfl
      | 4, _ => rfl
      | 5, _ => rfl
      | 6, _ => rfl
      | 7, _ => rfl
      | 8, _ => exact RdV.mono (fun b hb => hb.1) (h3 i hi).en
/-- Nodes that are read, in a row as one makes it, their entries in rows as one makes them. -/
def ndsO (l : List Nd) : Dt :=
  ⟨fun w S v => SG w 0 S v l ∧ ∀ b, v.ownBlock = some b → S b, fun w S v => SG w 0 S v l ∧ ∀ b, v.ownBlock = some b → S b,
    fun w w' S v t h => ⟨h.1.keep (t.mono (fun b hb => hb.2.elim id (fun e => h.2 b e))), h.2⟩, fun w S S' v t h => ⟨h.1.mono (fun b _ hb => t b hb), fun b hb => t b (h.2 b hb)⟩,
    fun w w' S v t h => ⟨h.1.keep (t.mono (fun b hb => hb.2.elim id (fun e => h.2 b e))), h.2⟩, fun w S S' v t h => ⟨h.1.mono (fun b _ hb => t b hb), fun b hb => t b (h.2 b hb)⟩, fun w S v h => h⟩
theorem RdV.nds {w : World} {S : Nat → Prop} {v : Value} {l : List Nd} (r : RdV w S v (ndsO l)) : RdV w S v (ndsDt l) := SG.rdL r.1 r.2
theorem RdV.sg {w : World} {S : Nat → Prop} {v : Value} {l : List Nd} (r : RdV w S v (ndsO l)) : SG w 0 S v l := r.1
theorem SN.rdO {w : World} {lo : Nat} {v : Value} {l : List Nd} (s : SN w lo v l) : RdV w (fun b => lo ≤ b ∧ b < w.heap.size) v (ndsO l) := by
  have hb := s.lt
  have h : SG w 0 (fun b => lo ≤ b ∧ b < w.heap.size) v l := (SG.low (SG.mono (s.sg) (fun b hlt h => ⟨h, hlt⟩)) (Nat.zero_le _))
  exact ⟨h, fun b hb' => hb b hb'⟩
theorem OwV.nds {w : World} {S : Nat → Prop} {v : Value} {l : List Nd} (o : OwV w S v (ndsDt l)) (hS : ∀ b, S b → b < w.heap.size) : RdV w S v (ndsO l) := by
  obtain ⟨V, C, Q, h1, h2, h3, h4, h5, h6⟩ := OwV.inv o
  refine ⟨⟨fun i => V i 8, C, ownsRow_base h1, fun i j hi hj => ?_, fun i hi => ?_⟩, h2⟩
  · rw [h3 i j hi hj]
    have h := h4 i j hi hj
    match j, hj with
    | 0, _ => exact congrArg some h
    | 1, _ => exact congrArg some h
    | 2, _ => exact congrArg some h
    | 3, _ => exact congrArg some h
    | 4, _ => exact congrArg some h
    | 5, _ => exact congrArg some h
    | 6, _ => exact congrArg some h
    | 7, _ => exact congrArg some h
    | 8, _ => rfl
  · exact RdV.mono (fun b hb => ⟨(h5 i 8 b hi (by decide) hb).1, hS b (h5 i 8 b hi (by decide) hb).1, (h5 i 8 b hi (by decide) hb).2⟩) (OwV.en (h4 i 8 hi (by decide)))
def Nd.setLk (n : Nd) (k : Int) : Nd := ⟨n.h, n.par, k, n.val, n.es⟩
def Nd.setVal (n : Nd) (k : Int) : Nd := ⟨n.h, n.par, n.links, k, n.es⟩
def Nd.setPar (n : Nd) (h : Hd) : Nd := ⟨n.h, h, n.links, n.val, n.es⟩
/-- The entry e of the node d cut out; an entry put in; links changed; a node taken out. -/
def cutN (l : List Nd) (d e : Nat) : List Nd := l.set d ((l[d]?.getD nd0).setEs (cutE (l[d]?.getD nd0).es e))
def addN (l : List Nd) (d : Nat) (nm : List Int) (h : Hd) : List Nd := l.set d ((l[d]?.getD nd0).setEs (addE (l[d]?.getD nd0).es nm h))
def lkN (l : List Nd) (k : Nat) (c : Int) : List Nd := l.set k ((l[k]?.getD nd0).setLk ((l[k]?.getD nd0).links + c))
def outN (l : List Nd) (k : Nat) : List Nd := l.take k ++ l.drop (k + 1)
/-- What dropping the entry e of the node d, whose handle is h, leaves, and its code. -/
def dropD (l : List Nd) (d e : Nat) (h : Hd) : List Nd × Int :=
  if h.dir = true ∧ 0 < (l[fi l h]?.getD nd0).es.length then (l, 7) else
  if ((cutN l d e)[fi l h]?.getD nd0).links - 1 = 0 then (outN (lkN (cutN l d e) (fi l h) (-1)) (fi l h), 0) else (lkN (cutN l d e) (fi l h) (-1), 0)
end
section
set_option maxRecDepth 100000
end
section
def parN (l : List Nd) (k : Nat) (h : Hd) : List Nd := l.set k ((l[k]?.getD nd0).setPar h)
/-- What moving leaves, and its code. -/
def moveD (l : List Nd) (o : OpD) (d : Nat) : List Nd × Int :=
  if ¬ ei (l[d]?.getD nd0).es o.nm < (l[d]?.getD nd0).es.length then (l, 3) else
  if o.to.dir = false then (l, 2) else
  if ¬ fi l o.to < l.length then (l, 1) else
  if fi l o.to = d then
    if 0 ≤ findE (l[d]?.getD nd0).es o.asn then (l, 4)
    else (addN (cutN l d (ei (l[d]?.getD nd0).es o.nm)) d o.asn ((l[d]?.getD nd0).es[ei (l[d]?.getD nd0).es o.nm]?.getD en0).h, 0)
  else
  if refD (l[fi l o.to]?.getD nd0).es o.asn ≠ 0 then (l, refD (l[fi l o.to]?.getD nd0).es o.asn) else
  if ((l[d]?.getD nd0).es[ei (l[d]?.getD nd0).es o.nm]?.getD en0).h.dir = true then
    if undN l ((l[d]?.getD nd0).es[ei (l[d]?.getD nd0).es o.nm]?.getD en0).h 12 o.to = 1 then (l, 8) else
    if undN l ((l[d]?.getD nd0).es[ei (l[d]?.getD nd0).es o.nm]?.getD en0).h 12 o.to = 2 then (l, 9) else
    (addN (cutN (parN l (fi l ((l[d]?.getD nd0).es[ei (l[d]?.getD nd0).es o.nm]?.getD en0).h) o.to) d (ei (l[d]?.getD nd0).es o.nm)) (fi l o.to) o.asn ((l[d]?.getD nd0).es[ei (l[d]?.getD nd0).es o.nm]?.getD en0).h, 0)
  else (addN (cutN l d (ei (l[d]?.getD nd0).es o.nm)) (fi l o.to) o.asn ((l[d]?.getD nd0).es[ei (l[d]?.getD nd0).es o.nm]?.getD en0).h, 0)
end
section
set_option maxRecDepth 100000
end
section
/-- A refusal. -/
def rc (c : Int) : RpD := ⟨c, hd0, 0, []⟩
def valN (l : List Nd) (d : Nat) (x : Int) : List Nd := l.set d ((l[d]?.getD nd0).setVal x)
/-- What an operation leaves and answers. -/
def doD (l : List Nd) (o : OpD) (fr : Hd) : List Nd × RpD :=
  if o.kind = 2 ∨ o.kind = 3 then
    if o.dir.dir = true then (l, rc 6) else
    if ¬ fi l o.dir < l.length then (l, rc 1) else
    if o.kind = 3 then (valN l (fi l o.dir) o.val, rc 0) else (l, ⟨0, hd0, (l[fi l o.dir]?.getD nd0).val, []⟩)
  else
  if o.dir.dir = false then (l, rc 2) else
  if ¬ fi l o.dir < l.length then (l, rc 1) else
  if o.kind = 1 then (l, ⟨0, hd0, 0, (l[fi l o.dir]?.getD nd0).es⟩) else
  if o.kind = 7 then ((moveD l o (fi l o.dir)).1, rc (moveD l o (fi l o.dir)).2) else
  if o.kind = 0 ∨ o.kind = 5 then
    if ¬ ei (l[fi l o.dir]?.getD nd0).es o.nm < (l[fi l o.dir]?.getD nd0).es.length then (l, rc 3) else
    if o.kind = 0 then (l, ⟨0, ((l[fi l o.dir]?.getD nd0).es[ei (l[fi l o.dir]?.getD nd0).es o.nm]?.getD en0).h, 0, []⟩) else
    ((dropD l (fi l o.dir) (ei (l[fi l o.dir]?.getD nd0).es o.nm) ((l[fi l o.dir]?.getD nd0).es[ei (l[fi l o.dir]?.getD nd0).es o.nm]?.getD en0).h).1, rc (dropD l (fi l o.dir) (ei (l[fi l o.dir]?.getD nd0).es o.nm) ((l[fi l o.dir]?.getD nd0).es[ei (l[fi l o.dir]?.getD nd0).es o.nm]?.getD en0).h).2)
  else
  if refD (l[fi l o.dir]?.getD nd0).es o.nm ≠ 0 then (l, rc (refD (l[fi l o.dir]?.getD nd0).es o.nm)) else
  if o.kind = 4 then (insN (addN l (fi l o.dir) o.nm fr) ⟨fr, if fr.dir = true then o.dir else hd0, 1, 0, []⟩, ⟨0, fr, 0, []⟩) else
  if o.to.dir = true then (l, rc 6) else
  if ¬ fi l o.to < l.length then (l, rc 1) else
  (addN (lkN l (fi l o.to) 1) (fi l o.dir) o.nm o.to, rc 0)
/-- What is said of the doing. -/
def DoPost (w : World) (tb lo : Nat) (L : Nat → Prop) (res : List Nd × RpD) (r : Ending) (w' : World) : Prop :=
  ∃ z, r = .returned (rpV res.2 z) ∧ RdV w' (fun b => w.heap.size ≤ b ∧ b < w'.heap.size) z (ensDt res.2.list) ∧ TV w' tb lo L res.1 ∧ ∀ v', VarA w tb 26 #[v'] → Turned (fun b => b = tb ∨ v'.ownBlock = some b) w w'
end
section
set_option maxRecDepth 100000
end
section
set_option maxRecDepth 100000
end
section
set_option maxRecDepth 100000
end
section
set_option maxRecDepth 100000
end
section
set_option maxRecDepth 100000
end
section
set_option maxRecDepth 100000
end
section
set_option maxRecDepth 100000
end
section
set_option maxRecDepth 100000
end
section
theorem mkShard_row {w : World} {S : Nat → Prop} {g n cap j s : Nat} {F : Nat → Nat → Dt} (o : OwV w S (.slice (some ⟨g, 0, none⟩) n cap) (.rows 49 8 n F)) (hj : j < n) (W : World) (hW : (((w.setCell ⟨g, j * 8, none⟩ (.int .i64 (((s : Nat)) : Int))).setCell ⟨g, j * 8 + 1, none⟩ (.int .i64 (((s + 1 : Nat)) : Int))).setCell ⟨g, j * 8 + 2, none⟩ (.int .i64 (((s + 2 : Nat)) : Int))) = W) :
    ∃ (Q : Nat → Prop) (x : Value), w.cell? ⟨g, j * 8 + 3, none⟩ = some x ∧ OwV W Q x (F j 3) ∧ (∀ b, Q b → S b ∧ b ≠ g) ∧ Turned S w W ∧
      ∀ w2 d, Turned Q W w2 → OwV w2 Q x d → ∃ F', OwV w2 S (.slice (some ⟨g, 0, none⟩) n cap) (.rows 49 8 n F') ∧ (∀ i q, i ≠ j → F' i q = F i q) ∧ ∀ q, 3 < q → F' j q = F j q := by
  obtain ⟨hbad, _⟩ | ⟨g', cp, hg, hSg, hgl, hfz, hcs⟩ := OwV.head o
  · cases hbad
  simp only [Value.slice.injEq, Option.some.injEq, Addr.mk.injEq, and_true, true_and] at hg
  obtain ⟨rfl, rfl⟩ := hg
  have ht : Turned S w (((w.setCell ⟨g, j * 8, none⟩ (.int .i64 (((s : Nat)) : Int))).setCell ⟨g, j * 8 + 1, none⟩ (.int .i64 (((s + 1 : Nat)) : Int))).setCell ⟨g, j * 8 + 2, none⟩ (.int .i64 (((s + 2 : Nat)) : Int))) := (Turned.refl S w) |>.set _ _ hSg |>.set _ _ hSg |>.set _ _ hSg
  have p8 : OwV (((w.setCell ⟨g, j * 8, none⟩ (.int .i64 (((s : Nat)) : Int))).setCell ⟨g, j * 8 + 1, none⟩ (.int .i64 (((s + 1 : Nat)) : Int))).setCell ⟨g, j * 8 + 2, none⟩ (.int .i64 (((s + 2 : Nat)) : Int))) S (.slice (some ⟨g, 0, none⟩) n cap) _ := (OwV.putI (OwV.putI (OwV.putI o 0 hj (by omega) _) 1 hj (by omega) _) 2 hj (by omega) _)
  have hc0 : (((w.setCell ⟨g, j * 8, none⟩ (.int .i64 (((s : Nat)) : Int))).setCell ⟨g, j * 8 + 1, none⟩ (.int .i64 (((s + 1 : Nat)) : Int))).setCell ⟨g, j * 8 + 2, none⟩ (.int .i64 (((s + 2 : Nat)) : Int))).cell? ⟨g, j * 8 + 3, none⟩ = w.cell? ⟨g, j * 8 + 3, none⟩ := by simp [go_sem]
  rw [hW] at hc0 ht p8
  obtain ⟨Q, x, g2, cp2, hv, hc, hox, hQ, hback⟩ := OwV.sub p8 hj (j := 3) (by omega)
  simp only [Value.slice.injEq, Option.some.injEq, Addr.mk.injEq, and_true, true_and] at hv
  obtain ⟨rfl, rfl⟩ := hv
  refine ⟨Q, x, hc0.symm.trans hc, ?_, hQ, ht, fun w2 d t2 o2 => ⟨_, hback w2 d t2 o2, fun i q hi => ?_, fun q hq => ?_⟩⟩
  · simpa [upd] using hox
  · simp [upd, hi]
  · simp [upd, (show q ≠ 0 by omega), (show q ≠ 1 by omega), (show q ≠ 2 by omega), (show q ≠ 3 by omega)]
set_option maxHeartbeats 8000000 in
theorem markShardS_m (v : Value) (l : List ShD) (k : Nat) (S : Nat → Prop) (w : World) (o : OwV w S v (shsDt l)) (hl : szShs l ≤ 2097152) (hk : k + 14 * szShs l ≤ 1099511627776) : Calls Tryz.prog 10 #[v, .int .i64 k] w (MkP w S v (k + 14 * szShs l)) := by
  obtain ⟨a, cap, rfl, _⟩ := RdV.sliced o.rd
  have HO : Hid (OwV w S (.slice a l.length cap) (.rows 49 8 l.length (fun i j => shCell (l[i]?.getD sh0) j))) := o
  have HX : Hid (szShs l = l.length + psum (fun e : ShD => szSh e) l l.length) := by show _ = _; rw [psum_all]; rfl
  have HU : Hid (∀ j, j < l.length → psum (fun e : ShD => szSh e) l (j + 1) = psum (fun e : ShD => szSh e) l j + (fun e : ShD => szSh e) (l[j]?.getD sh0) ∧ psum (fun e : ShD => szSh e) l (j + 1) ≤ psum (fun e : ShD => szSh e) l l.length) := fun j hj => ⟨psum_next _ l _ j hj, by rw [psum_all]; exact psum_le _ l _⟩
  have HZ0 : Hid (psum (fun e : ShD => szSh e) l 0 = 0) := psum_zero _ _
  have HSA : Hid (∀ j, (fun e : ShD => szSh e) (l[j]?.getD sh0) ≤ 2097152) := fun j => by have h1 := szShs_at l j; dsimp only; omega
  rw [HX.out] at hk ⊢
  generalize psum (fun e : ShD => szSh e) l = P at HU HZ0 HX hk ⊢
  have hnn : l.length ≤ 2097152 := by have := HX.out; omega
  clear o hl HX
  generalize l.length = n at *
  go_enter Tryz.func10, Tryz.ntmps10
  go_wp2
  go_loopw [1, 5] (fun q i wr => ∃ j s : Nat, j ≤ n ∧ i = .int .i64 j ∧ q = .int .i64 s ∧ Hid (s ≤ k + 14 * (j + P j)) ∧ Hid (∃ F, (∀ i q, j ≤ i → F i q = shCell (l[i]?.getD sh0) q) ∧ OwV wr S (.slice a n cap) (.rows 49 8 n F)) ∧ Hid (Turned S w wr)) (fun _ i _ => n - (intOf i).toNat)
  case atStart => exact ⟨0, k, Nat.zero_le _, rfl, rfl, by show _ ≤ _; omega, ⟨_, fun _ _ _ => rfl, HO.out⟩, Turned.refl _ _⟩
  case round =>
    clear HO
    obtain ⟨j, s, hj, rfl, rfl, HS, HO, HT⟩ := hrel
    by_cases hlt : j < n
    · obtain ⟨F, hF, ho⟩ := HO.out
      have HFF : Hid (∀ i q, j ≤ i → F i q = shCell (l[i]?.getD sh0) q) := hF
      have hFj : ∀ q, F j q = shCell (l[j]?.getD sh0) q := fun q => hF j q (Nat.le_refl _)
      obtain ⟨hu1, hu2⟩ := HU.out j hlt
      have hsa := HSA.out j
      obtain ⟨e, he⟩ : ∃ e, l[j]?.getD sh0 = e := ⟨_, rfl⟩
      rw [he] at hu1 hFj hsa
      clear he
      obtain ⟨id_, bo, nx, ns, its, ds, dn, ls⟩ := e
      try dsimp only at hu1 hsa
      unfold szSh at hu1 hsa
      try dsimp only at hu1 hsa
      have hs1 := HS.out
      obtain ⟨hbad, _⟩ | ⟨g, cp, hg, hSg, hgl, hfz, hcs⟩ := OwV.head ho
      · simp only [Value.slice.injEq] at hbad; omega
      simp only [Value.slice.injEq, true_and] at hg
      obtain ⟨rfl, rfl⟩ := hg
      obtain ⟨y0, c0⟩ := hcs (j * 8) (by omega)
      obtain ⟨y1, c1⟩ := hcs (j * 8 + 1) (by omega)
      obtain ⟨y2, c2⟩ := hcs (j * 8 + 2) (by omega)
      obtain ⟨W, hW⟩ : ∃ W, (((wr.setCell ⟨g, j * 8, none⟩ (.int .i64 (((s : Nat)) : Int))).setCell ⟨g, j * 8 + 1, none⟩ (.int .i64 (((s + 1 : Nat)) : Int))).setCell ⟨g, j * 8 + 2, none⟩ (.int .i64 (((s + 2 : Nat)) : Int))) = W := ⟨_, rfl⟩
      obtain ⟨Q, x, hcx, hox, hQ, hts, hback⟩ := mkShard_row ho hlt W hW
      rw [hFj] at hox
      have hox2 : OwV W Q x (ndsDt ns) := hox
      have HXX : Hid _ := markN_m x ns (s + 3) Q W hox2 (by omega) (by omega)
      obtain ⟨xa, xc, rfl, _⟩ := RdV.sliced (OwV.rd hox2)
      have HBK : Hid _ := hback
      have HQ : Hid _ := hQ
      have HWW : Hid _ := hW
      have HTS : Hid _ := HT.out.trans hts
      have HFJ : Hid _ := hFj
      have HSG : Hid (S g) := hSg
      clear hback hQ hox hox2 ho hW hts HO hF hFj HT hSg hcs
      rw [← HWW.out] at HXX
      generalize ns.length = xn at *
      go_wp2_with fail
      refine Calls.mono HXX.out ?_
      rintro e w2 ⟨k2, rfl, hk2, ⟨d2, o2⟩, t2⟩
      rw [HWW.out] at t2
      obtain ⟨F2, of2, hf2, hg2⟩ := HBK.out w2 d2 t2 o2
      have HT2 : Hid (Turned S w w2) := HTS.out.trans (t2.wide (fun b hb => (HQ.out b hb).1))
      clear HBK HQ HTS t2 o2 HXX HWW hcx c0 c1 c2
      obtain ⟨Q, x, g2, cp2, hv, hcx, hox, hQ, hback⟩ := OwV.sub of2 hlt (j := 4) (by omega)
      simp only [Value.slice.injEq, Option.some.injEq, Addr.mk.injEq, and_true, true_and] at hv
      obtain ⟨rfl, rfl⟩ := hv
      rw [hg2 4 (by omega), HFJ.out] at hox
      have hox2 : OwV w2 Q x (itsDt its) := hox
      have HXX : Hid _ := markIntentS_m x its k2 Q w2 hox2 (by omega) (by omega)
      obtain ⟨xa, xc, rfl, _⟩ := RdV.sliced (OwV.rd hox2)
      have HBK : Hid (∀ W d, Turned Q w2 W → OwV W Q _ d → ∃ F', OwV W S (.slice (some ⟨g, 0, none⟩) n cap) (.rows 49 8 n F') ∧ (∀ i q, i ≠ j → F' i q = F i q) ∧ ∀ q, 4 < q → F' j q = F j q) := fun W d t o => ⟨_, hback W d t o, fun i q hi => by rw [upd_other _ _ _ _ _ _ (fun h => hi h.1)]; exact hf2 i q hi, fun q hq => by rw [upd_other _ _ _ _ _ _ (fun h => by omega)]; exact hg2 q (by omega)⟩
      have HQ : Hid _ := hQ
      clear hback hQ hox hox2 of2 hg2 hf2
      generalize its.length = xn at *
      go_wp2_with fail
      refine Calls.mono HXX.out ?_
      rintro e w3 ⟨k3, rfl, hk3, ⟨d2, o2⟩, t2⟩
      obtain ⟨F3, of3, hf3, hg3⟩ := HBK.out w3 d2 t2 o2
      have HT3 : Hid (Turned S w w3) := HT2.out.trans (t2.wide (fun b hb => (HQ.out b hb).1))
      clear HBK HQ t2 o2 HXX hcx HT2
      obtain ⟨Q, x, g2, cp2, hv, hcx, hox, hQ, hback⟩ := OwV.sub of3 hlt (j := 5) (by omega)
      simp only [Value.slice.injEq, Option.some.injEq, Addr.mk.injEq, and_true, true_and] at hv
      obtain ⟨rfl, rfl⟩ := hv
      rw [hg3 5 (by omega), HFJ.out] at hox
      have hox2 : OwV w3 Q x (vdsDt ds) := hox
      have HXX : Hid _ := markVerdictS_m x ds k3 Q w3 hox2 (by omega) (by omega)
      obtain ⟨xa, xc, rfl, _⟩ := RdV.sliced (OwV.rd hox2)
      have HBK : Hid (∀ W d, Turned Q w3 W → OwV W Q _ d → ∃ F', OwV W S (.slice (some ⟨g, 0, none⟩) n cap) (.rows 49 8 n F') ∧ (∀ i q, i ≠ j → F' i q = F i q) ∧ ∀ q, 5 < q → F' j q = F j q) := fun W d t o => ⟨_, hback W d t o, fun i q hi => by rw [upd_other _ _ _ _ _ _ (fun h => hi h.1)]; exact hf3 i q hi, fun q hq => by rw [upd_other _ _ _ _ _ _ (fun h => by omega)]; exact hg3 q (by omega)⟩
      have HQ : Hid _ := hQ
      clear hback hQ hox hox2 of3 hg3 hf3
      generalize ds.length = xn at *
      go_wp2_with fail
      refine Calls.mono HXX.out ?_
      rintro e w4 ⟨k4, rfl, hk4, ⟨d2, o2⟩, t2⟩
      obtain ⟨F4, of4, hf4, hg4⟩ := HBK.out w4 d2 t2 o2
      have HT4 : Hid (Turned S w w4) := HT3.out.trans (t2.wide (fun b hb => (HQ.out b hb).1))
      clear HBK HQ t2 o2 HXX hcx HT3
      obtain ⟨Q, x, g2, cp2, hv, hcx, hox, hQ, hback⟩ := OwV.sub of4 hlt (j := 6) (by omega)
      simp only [Value.slice.injEq, Option.some.injEq, Addr.mk.injEq, and_true, true_and] at hv
      obtain ⟨rfl, rfl⟩ := hv
      rw [hg4 6 (by omega), HFJ.out] at hox
      have hox2 : OwV w4 Q x (txsDt dn) := hox
      have HXX : Hid _ := markTxS_m x dn k4 Q w4 hox2 (by omega) (by omega)
      obtain ⟨xa, xc, rfl, _⟩ := RdV.sliced (OwV.rd hox2)
      have HBK : Hid (∀ W d, Turned Q w4 W → OwV W Q _ d → ∃ F', OwV W S (.slice (some ⟨g, 0, none⟩) n cap) (.rows 49 8 n F') ∧ (∀ i q, i ≠ j → F' i q = F i q) ∧ ∀ q, 6 < q → F' j q = F j q) := fun W d t o => ⟨_, hback W d t o, fun i q hi => by rw [upd_other _ _ _ _ _ _ (fun h => hi h.1)]; exact hf4 i q hi, fun q hq => by rw [upd_other _ _ _ _ _ _ (fun h => by omega)]; exact hg4 q (by omega)⟩
      have HQ : Hid _ := hQ
      clear hback hQ hox hox2 of4 hg4 hf4
      generalize dn.length = xn at *
      go_wp2_with fail
      refine Calls.mono HXX.out ?_
      rintro e w5 ⟨k5, rfl, hk5, ⟨d2, o2⟩, t2⟩
      obtain ⟨F5, of5, hf5, hg5⟩ := HBK.out w5 d2 t2 o2
      have HT5 : Hid (Turned S w w5) := HT4.out.trans (t2.wide (fun b hb => (HQ.out b hb).1))
      clear HBK HQ t2 o2 HXX hcx HT4
      obtain ⟨Q, x, g2, cp2, hv, hcx, hox, hQ, hback⟩ := OwV.sub of5 hlt (j := 7) (by omega)
      simp only [Value.slice.injEq, Option.some.injEq, Addr.mk.injEq, and_true, true_and] at hv
      obtain ⟨rfl, rfl⟩ := hv
      rw [hg5 7 (by omega), HFJ.out] at hox
      have hox2 : OwV w5 Q x (lssDt ls) := hox
      have HXX : Hid _ := markLastS_m x ls k5 Q w5 hox2 (by omega) (by omega)
      obtain ⟨xa, xc, rfl, _⟩ := RdV.sliced (OwV.rd hox2)
      have HBK : Hid (∀ W d, Turned Q w5 W → OwV W Q _ d → ∃ F', OwV W S (.slice (some ⟨g, 0, none⟩) n cap) (.rows 49 8 n F') ∧ (∀ i q, i ≠ j → F' i q = F i q) ∧ ∀ q, 7 < q → F' j q = F j q) := fun W d t o => ⟨_, hback W d t o, fun i q hi => by rw [upd_other _ _ _ _ _ _ (fun h => hi h.1)]; exact hf5 i q hi, fun q hq => by rw [upd_other _ _ _ _ _ _ (fun h => by omega)]; exact hg5 q (by omega)⟩
      have HQ : Hid _ := hQ
      clear hback hQ hox hox2 of5 hg5 hf5
      generalize ls.length = xn at *
      go_wp2_with fail
      refine Calls.mono HXX.out ?_
      rintro e w6 ⟨k6, rfl, hk6, ⟨d2, o2⟩, t2⟩
      obtain ⟨F6, of6, hf6, hg6⟩ := HBK.out w6 d2 t2 o2
      have HT6 : Hid (Turned S w w6) := HT5.out.trans (t2.wide (fun b hb => (HQ.out b hb).1))
      clear HBK HQ t2 o2 HXX hcx HT5
      have HOF : Hid _ := of6
      have HLF : Hid _ := hf6
      clear of6 hf6
      go_wp2
      go_roundw
      case rel => exact ⟨j + 1, k6, by omega, by go_num, by first | rfl | go_num | (congr 1; omega), by show _ ≤ _; rw [hu1]; omega, ⟨_, fun i q hi => by rw [HLF.out i q (by omega)]; exact HFF.out i q (by omega), HOF.out⟩, HT6.out⟩
      case measure => simp [intOf]; omega
    · have hjn : j = n := by omega
      subst hjn
      go_wp2
      go_ret
      obtain ⟨F, _, ho⟩ := HO.out
      exact ⟨s, rfl, HS.out, ⟨_, ho⟩, HT.out⟩
end
end Go.Proofs.YtoaocjkapoemnaaGreat
