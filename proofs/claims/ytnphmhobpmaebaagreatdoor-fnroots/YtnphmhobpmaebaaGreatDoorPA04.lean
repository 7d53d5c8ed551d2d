/- Joined: SpecD16 SpecD16k0 SpecD16k1 SpecD16k2 SpecD16k3 SpecD16k5 SpecD16k7 IC26 IC27a IC27b ImplT10a ImplT10 TreePure DP1. -/
import Derived.Test.YtnphmhobpmaebaaGreatDoorPSpecD15
import Derived.Test.YtnphmhobpmaebaaGreatDoorPIC25
import Derived.Test.YtnphmhobpmaebaaGreatDoorPOpOks
import Derived.Test.YtnphmhobpmaebaaGreatDoorPImplT9
import Derived.Test.YtnphmhobpmaebaaGreatDoorPA00
import Derived.Test.YtnphmhobpmaebaaGreatDoorPSpecT6

namespace Go.Proofs.YtnphmhobpmaebaaGreatDoor
open Go.RowKit
set_option linter.unusedVariables false
set_option linter.unusedSimpArgs false
set_option maxRecDepth 100000
section
/-- A refusal. -/
def rc (c : Int) : RpD := ⟨c, hd0, 0, []⟩
def valN (l : List Nd) (d : Nat) (x : Int) : List Nd := l.set d ((l[d]?.getD nd0).setVal x)
/-- What an operation leaves and answers. -/
def doD (l : List Nd) (o : OpD) (fr : Hd) : List Nd × RpD :=
  if o.kind = 2 ∨ o.kind = 3 then
    if o.dir.dir = true then (l, rc 6) else
    if ¬ fi l o.dir < l.length then (l, rc 1) else
    if o.kind = 3 then (valN l (fi l o.dir) o.val, rc 0) else (l, ⟨0, hd0, (l[fi l o.dir]?.getD nd0).val, []⟩)
  else
  if o.dir.dir = false then (l, rc 2) else
  if ¬ fi l o.dir < l.length then (l, rc 1) else
  if o.kind = 1 then (l, ⟨0, hd0, 0, (l[fi l o.dir]?.getD nd0).es⟩) else
  if o.kind = 7 then ((moveD l o (fi l o.dir)).1, rc (moveD l o (fi l o.dir)).2) else
  if o.kind = 0 ∨ o.kind = 5 then
    if ¬ ei (l[fi l o.dir]?.getD nd0).es o.nm < (l[fi l o.dir]?.getD nd0).es.length then (l, rc 3) else
    if o.kind = 0 then (l, ⟨0, ((l[fi l o.dir]?.getD nd0).es[ei (l[fi l o.dir]?.getD nd0).es o.nm]?.getD en0).h, 0, []⟩) else
    ((dropD l (fi l o.dir) (ei (l[fi l o.dir]?.getD nd0).es o.nm) ((l[fi l o.dir]?.getD nd0).es[ei (l[fi l o.dir]?.getD nd0).es o.nm]?.getD en0).h).1, rc (dropD l (fi l o.dir) (ei (l[fi l o.dir]?.getD nd0).es o.nm) ((l[fi l o.dir]?.getD nd0).es[ei (l[fi l o.dir]?.getD nd0).es o.nm]?.getD en0).h).2)
  else
  if refD (l[fi l o.dir]?.getD nd0).es o.nm ≠ 0 then (l, rc (refD (l[fi l o.dir]?.getD nd0).es o.nm)) else
  if o.kind = 4 then (insN (addN l (fi l o.dir) o.nm fr) ⟨fr, if fr.dir = true then o.dir else hd0, 1, 0, []⟩, ⟨0, fr, 0, []⟩) else
  if o.to.dir = true then (l, rc 6) else
  if ¬ fi l o.to < l.length then (l, rc 1) else
  (addN (lkN l (fi l o.to) 1) (fi l o.dir) o.nm o.to, rc 0)
/-- A tree, an operation, a handle and a result, in variables. -/
structure MD (F : Nat → Prop) (w wc : World) (tb lo : Nat) (v : Value) (L1 : Nat → Prop) (l : List Nd) (oc fc : Array Value) : Prop where
  t : Turned F w wc
  vT : VarA wc tb 25 #[v]
  s : SG wc lo L1 v l
  vO : VarA wc w.heap.size 35 oc
  vF : VarA wc (w.heap.size + 1) 28 fc
  vR : VarA wc (w.heap.size + 2) 31 #[.int .i64 0, .int .i64 0, .int .i64 0, .bool false, .int .i64 0, .slice none 0 0]
/-- What is said of the doing. -/
def DoPost (w : World) (tb lo : Nat) (L : Nat → Prop) (res : List Nd × RpD) (r : Ending) (w' : World) : Prop :=
  ∃ z, r = .returned (rpV res.2 z) ∧ RdV w' (fun b => w.heap.size ≤ b ∧ b < w'.heap.size) z (ensDt res.2.list) ∧ TV w' tb lo L res.1 ∧ ∀ v', VarA w tb 25 #[v'] → Turned (fun b => b = tb ∨ v'.ownBlock = some b) w w'
end
section
set_option maxRecDepth 100000
end
section
set_option maxRecDepth 100000
end
section
set_option maxRecDepth 100000
end
section
set_option maxRecDepth 100000
end
section
set_option maxRecDepth 100000
end
section
set_option maxRecDepth 100000
end
section
open Go.Maps
/-- What an operation on the map answers and leaves, begun in W. -/
def DSub (W : World) (b : Nat) (P : Nat → Prop) (res : (Hd → Option Nd) × Nat × RpD) (e : Ending) (w' : World) : Prop :=
  ∃ a n c, ∃ (R P' : Nat → Prop), e = .returned (rpV res.2.2 (.slice a n c)) ∧ OwV w' R (.slice a n c) (ensDt res.2.2.list) ∧ NM w' b res.2.1 res.1 P' ∧ (∀ c, R c → ¬ P' c) ∧ (∀ c, R c → W.heap.size ≤ c ∧ c < w'.heap.size) ∧ (∀ c, P' c → P c ∨ W.heap.size ≤ c) ∧ Turned P W w'
theorem DSub.of {W w' : World} {b : Nat} {P : Nat → Prop} {res : (Hd → Option Nd) × Nat × RpD} {e : Ending} (h : MPost W b P res e w') : DSub W b P res e w' := by
  obtain ⟨z, he, ho, rfl, N, t⟩ := h
  by_cases hl : res.2.2.list = []
  · exact ⟨none, 0, 0, fun _ => False, _, he, by rw [hl]; exact OwV.nilR _ _ _ _ _, N, fun c hc => hc.elim, fun c hc => hc.elim, fun c hc => by rcases hc with hc | hc; exact .inl hc; exact .inr hc.1, t⟩
  · refine ⟨none, 0, 0, fun c => False, P, he, ?_, N.mono (fun c hc => by rcases hc with hc | hc; exact hc; exact absurd hc.2.2 hl) (fun c hc => N.sm c (.inl hc)), fun c hc => hc.elim, fun c hc => hc.elim, fun c hc => .inl hc, t⟩
    obtain ⟨V, C, Qs, h1, hS, h3, h4, h5, h6⟩ := OwV.inv ho
    rcases h1.2 with ⟨_, h0⟩ | ⟨g, c, cur, hv, _⟩
    · exact absurd (List.eq_nil_of_length_eq_zero h0) hl
    · cases hv
theorem DSub.ret {w W w1 w2 : World} {b rb : Nat} {P : Nat → Prop} {res : (Hd → Option Nd) × Nat × RpD} {a : Option Addr} {n c : Nat} {R P' : Nat → Prop} (hb : Below w.heap.size w W) (ho : OwV w1 R (.slice a n c) (ensDt res.2.2.list)) (N : NM w1 b res.2.1 res.1 P') (hd : ∀ c, R c → ¬ P' c) (hR : ∀ c, R c → W.heap.size ≤ c ∧ c < w1.heap.size) (hP' : ∀ c, P' c → P c ∨ W.heap.size ≤ c) (t : Turned P W w1)
    (t2 : Turned (fun c => c = rb) w1 w2) (h1 : w.heap.size ≤ rb) (h2 : rb < W.heap.size) (hP : ∀ c, P c → c < w.heap.size) : DSub w b P res (.returned (rpV res.2.2 (.slice a n c))) w2 := by
  have s1 := hb.size
  have s2 := t.size
  have s3 := t2.size
  refine ⟨a, n, c, R, P', rfl, OwV.keep (t2.keeps (fun c hc e => by have := (hR c hc).1; omega)) ho, N.keep (t2.keeps (fun c hc e => by subst e; rcases hP' _ hc with h | h; (have := hP _ h; omega); omega)), hd, fun c hc => ⟨by have := (hR c hc).1; omega, by have := (hR c hc).2; omega⟩, fun c hc => by rcases hP' c hc with h | h; exact .inl h; exact .inr (by omega), ?_⟩
  exact Turned.past ((Turned.ofBelow hb).trans t) t2 h1
/-- The map, a node of which has turned in what is no entry. -/
theorem NX.same {w w' : World} {b s : Nat} {f : Hd → Option Nd} {X : Hd → Value} {Q : Hd → Nat → Prop} {P : Nat → Prop} (N : NX w b s f X Q P) {g : Hd} {n n' : Nd} (hf : f g = some n) (hes : n'.es = n.es) (hn : n'.h = g) (M : MapH (ndX X) w' b s (setN f g n')) (t : Turned (fun c => c = b) w w') : NX w' b s (setN f g n') X Q P := by
  have hk : ∀ h m, setN f g n' h = some m → ∃ k, f h = some k ∧ k.es = m.es := by
    intro h m hm
    unfold setN at hm
    by_cases x : h = g
    · rw [if_pos x] at hm; obtain rfl := Option.some.inj hm; subst x; exact ⟨n, hf, hes.symm⟩
    · rw [if_neg x] at hm; exact ⟨m, hm, rfl⟩
  refine ⟨M, setN_key N.key hn, ?_, ?_, ?_, N.bP, fun c hc => Nat.lt_of_lt_of_le (N.small c hc) t.size⟩
  · intro h m hm
    obtain ⟨k, e, e2⟩ := hk h m hm
    rw [← e2]
    exact OwV.keep (t.keeps (fun c hc x => (N.inP h k c e hc).2 x)) (N.own h k e)
  · intro h m c hm hc
    obtain ⟨k, e, _⟩ := hk h m hm
    exact N.inP h k c e hc
  · intro h h' m m' c hm hm' hc hc'
    obtain ⟨k, e, _⟩ := hk h m hm
    obtain ⟨k', e', _⟩ := hk h' m' hm'
    exact N.apart h h' k k' c e e' hc hc'
def lookF (f : Hd → Option Nd) (s : Nat) (o : OpD) : (Hd → Option Nd) × Nat × RpD := (f, s, if fdB ((f o.dir).getD nd0).es o.nm = true then ⟨0, fdH ((f o.dir).getD nd0).es o.nm, 0, []⟩ else ⟨3, hd0, 0, []⟩)
def writeF (f : Hd → Option Nd) (s : Nat) (o : OpD) : (Hd → Option Nd) × Nat × RpD := (setN f o.dir { (f o.dir).getD nd0 with val := o.val }, s, rp0)
theorem lookD (b s : Nat) (f : Hd → Option Nd) (o : OpD) (n : Nd) (y : Value) (za : Option Addr) (zn zc : Nat) (S2 P : Nat → Prop) (w : World) (N : NM w b s f P) (hin : HIn o.dir) (hf : f o.dir = some n) (r2 : RdV w S2 y (.bytes o.nm)) (hl : n.es.length ≤ 4000) :
    Calls Tryz.prog 48 #[.map (some b), opV o y (.slice za zn zc)] w (DSub w b P (lookF f s o)) := by
  have NM' := N
  obtain ⟨X, Q, N⟩ := N
  refine (look_any b s f X o y za zn zc P S2 w N.m hin N.rd r2 (by rw [hf]; exact Nat.le_trans hl (by omega))).mono ?_
  rintro e w' ⟨he, hb⟩
  refine ⟨none, 0, 0, fun _ => False, P, he, ?_, NM'.step hb, fun c hc => hc.elim, fun c hc => hc.elim, fun c hc => .inl hc, Turned.ofBelow hb⟩
  have : (lookF f s o).2.2.list = [] := by unfold lookF; dsimp only; split <;> rfl
  rw [this]
  exact OwV.nilR _ _ _ _ _
theorem writeD (b s : Nat) (f : Hd → Option Nd) (o : OpD) (n : Nd) (ya za : Option Addr) (yn yc zn zc : Nat) (P : Nat → Prop) (w : World) (N : NM w b s f P) (hin : HIn o.dir) (hf : f o.dir = some n) (hs : s ≤ 2097000) :
    Calls Tryz.prog 49 #[.map (some b), opV o (.slice ya yn yc) (.slice za zn zc)] w (DSub w b P (writeF f s o)) := by
  obtain ⟨X, Q, N⟩ := N
  obtain ⟨a, c, hx, _⟩ := RdV.sliced (OwV.rd (N.own _ n hf))
  refine (write_any b s f X o ya za yn yc zn zc n w N.m N.key hin hf ⟨a, _, c, hx⟩ (by omega)).mono ?_
  rintro e w' ⟨he, M, t⟩
  refine ⟨none, 0, 0, fun _ => False, P, he, OwV.nilR _ _ _ _ _, ⟨X, Q, ?_⟩, fun c hc => hc.elim, fun c hc => hc.elim, fun c hc => .inl hc, t.wide (fun c e => by rw [e]; exact N.bP)⟩
  show NX w' b s (setN f o.dir { (f o.dir).getD nd0 with val := o.val }) X Q P
  rw [hf]
  exact N.same hf rfl (N.key _ n hf) M t
/-- What is asked of the nodes that are worked on. -/
structure FOk (f : Hd → Option Nd) : Prop where
  len : ∀ g t, f g = some t → t.es.length ≤ 4000 ∧ HIn t.par
  lks : ∀ g t, f g = some t → 0 ≤ t.links ∧ t.links ≤ 2147483647
  sz : ∀ g t, f g = some t → szEns t.es ≤ 2097152
  ent : ∀ g t nm, f g = some t → fdB t.es nm = true → ∃ t', f (fdH t.es nm) = some t' ∧ HIn (fdH t.es nm)
  add : ∀ g t h nm, isNm nm = true → f g = some t → fdB t.es nm = false → (t.es ++ [En.mk nm h]).Perm (addE t.es nm h) ∧ (addE t.es nm h).Pairwise (fun a b => cmpB a.nm b.nm < 0)
  add2 : ∀ g t h nm nm2, isNm nm = true → f g = some t → fdB t.es nm = false → ((outE t.es nm2) ++ [En.mk nm h]).Perm (addE (outE t.es nm2) nm h) ∧ (addE (outE t.es nm2) nm h).Pairwise (fun a b => cmpB a.nm b.nm < 0)
theorem room0 {f : Hd → Option Nd} {g : Hd} {t : Nd} {nm : List Int} (hf : f g = some t) (h : roomI f g nm = 0) : fdB t.es nm = false := by
  unfold roomI at h
  rw [hf] at h
  simp only [Option.getD_some] at h
  cases hb : fdB t.es nm with
  | false => rfl
  | true => rw [hb] at h; simp at h
theorem makeD (b s : Nat) (f : Hd → Option Nd) (o : OpD) (hq : isNm o.nm = true) (fr : Hd) (n : Nd) (y : Value) (za : Option Addr) (zn zc : Nat) (S2 P : Nat → Prop) (w : World) (N : NM w b s f P) (ok : FOk f) (hin : HIn o.dir) (hfr : HIn fr) (hf : f o.dir = some n) (hnew : f fr = none) (r2 : RdV w S2 y (.bytes o.nm)) (hS2 : ∀ c, S2 c → ¬ P c) (hnm : o.nm.length ≤ 2097152) (hs : s ≤ 2097000) :
    Calls Tryz.prog 50 #[.map (some b), opV o y (.slice za zn zc), fr.v] w (DSub w b P (makeF f s o fr)) :=
  (makeNode_any b s f o fr n y za zn zc S2 P w N hin hfr hf hnew r2 hS2 (ok.len _ n hf).1 hnm hs (fun h => ok.add _ n fr o.nm hq hf (room0 hf h))).mono (fun _ _ h => DSub.of h)
theorem linkD (b s : Nat) (f : Hd → Option Nd) (o : OpD) (hq : isNm o.nm = true) (n : Nd) (y : Value) (za : Option Addr) (zn zc : Nat) (S2 P : Nat → Prop) (w : World) (N : NM w b s f P) (ok : FOk f) (hin : HIn o.dir) (hito : HIn o.to) (hf : f o.dir = some n) (hdd : o.dir.dir = true) (r2 : RdV w S2 y (.bytes o.nm)) (hS2 : ∀ c, S2 c → ¬ P c) (hnm : o.nm.length ≤ 2097152) (hs : s ≤ 2097000) :
    Calls Tryz.prog 52 #[.map (some b), opV o y (.slice za zn zc)] w (DSub w b P (linkF f s o)) :=
  (link_any b s f o n y za zn zc S2 P w N hin hito hf hdd r2 hS2 (ok.len _ n hf).1 hnm hs (fun t ht => by have := ok.lks _ t ht; omega) (fun h => ok.add _ n o.to o.nm hq hf (room0 hf h))).mono (fun _ _ h => DSub.of h)
theorem dropD_ (b s : Nat) (f : Hd → Option Nd) (o : OpD) (n : Nd) (y : Value) (za : Option Addr) (zn zc : Nat) (S2 P : Nat → Prop) (w : World) (N : NM w b s f P) (ok : FOk f) (hin : HIn o.dir) (hf : f o.dir = some n) (r2 : RdV w S2 y (.bytes o.nm)) (hS2 : ∀ c, S2 c → ¬ P c) (hs : s ≤ 2097000) :
    Calls Tryz.prog 51 #[.map (some b), opV o y (.slice za zn zc)] w (DSub w b P (dropF f s o)) :=
  (drop_any b s f o n y za zn zc S2 P w N hin hf r2 hS2 (ok.len _ n hf).1 hs (ok.ent _ n o.nm hf) ok.lks).mono (fun _ _ h => DSub.of h)
theorem moveD_ (b s : Nat) (f : Hd → Option Nd) (o : OpD) (hq : isNm o.asn = true) (n : Nd) (y z : Value) (S2 P : Nat → Prop) (w : World) (N : NM w b s f P) (ok : FOk f) (hin : HIn o.dir) (hito : HIn o.to) (hf : f o.dir = some n) (r2 : RdV w S2 y (.bytes o.nm)) (r3 : RdV w S2 z (.bytes o.asn)) (hS2 : ∀ c, S2 c → ¬ P c) (hSb : ∀ c, S2 c → c < w.heap.size) (hs : s ≤ 2097000) (hna : o.asn.length ≤ 2097152) :
    Calls Tryz.prog 53 #[.map (some b), opV o y z] w (DSub w b P (moveF f s o)) := by
  refine (move_any b s f o n y z S2 P w N hin hito hf r2 r3 hS2 hSb (ok.len _ n hf).1 hs hna ok.len (ok.ent _ n o.nm hf) ?_).mono (fun _ _ h => DSub.of h)
  intro h1 h2 n2 hn2
  unfold setN at hn2
  by_cases x : o.to = o.dir
  · rw [if_pos x] at hn2
    obtain rfl := Option.some.inj hn2
    refine ok.add2 _ n _ _ _ hq hf ?_
    unfold moveI at h2
    rw [x, hf] at h2
    cases hb : fdB n.es o.asn with
    | false => rfl
    | true =>
      simp only [Option.getD_some, Option.isSome_some, hb, if_true] at h2
      by_cases hd : o.dir.dir = false
      · rw [if_pos hd] at h2; omega
      · rw [if_neg hd, if_neg (by simp)] at h2; omega
  · rw [if_neg x] at hn2
    refine ok.add _ n2 _ _ hq hn2 ?_
    unfold moveI at h2
    by_cases hd : o.to.dir = false
    · rw [if_pos hd] at h2; omega
    · rw [if_neg hd, if_neg (by rw [hn2]; simp), if_neg x] at h2
      by_cases hr : roomI f o.to o.asn = 0
      · exact room0 hn2 hr
      · rw [if_pos (.inl hr)] at h2; exact absurd h2 hr
/-- What an operation that may begin leaves and answers. -/
def doF2 (f : Hd → Option Nd) (s : Nat) (o : OpD) (fr : Hd) : (Hd → Option Nd) × Nat × RpD :=
  if o.kind = 0 then lookF f s o else if o.kind = 1 then (f, s, ⟨0, hd0, 0, ((f o.dir).getD nd0).es⟩) else if o.kind = 2 then (f, s, ⟨0, hd0, ((f o.dir).getD nd0).val, []⟩) else if o.kind = 3 then writeF f s o else
  if o.kind = 4 then makeF f s o fr else if o.kind = 5 then dropF f s o else if o.kind = 6 then linkF f s o else moveF f s o
/-- What an operation leaves and answers. -/
def doF (f : Hd → Option Nd) (s : Nat) (o : OpD) (fr : Hd) : (Hd → Option Nd) × Nat × RpD :=
  if o.kind = 4 ∧ takesB fr o.to (f (fr.sh, fr.ino, false)).isSome (f (fr.sh, fr.ino, true)).isSome s = false then (f, s, rcI 11) else
  if dirC o.kind o.dir.dir (f o.dir).isSome ≠ 0 then (f, s, rcI (dirC o.kind o.dir.dir (f o.dir).isSome)) else
  doF2 f s o fr
end
section
open Go.Maps
set_option maxHeartbeats 4000000 in
theorem implDo0 (b s : Nat) (f : Hd → Option Nd) (o : OpD) (fr : Hd) (y z : Value) (S2 P : Nat → Prop) (w : World) (N : NM w b s f P) (ok : FOk f) (hin : HIn o.dir) (hito : HIn o.to) (hfr : HIn fr) (r2 : RdV w S2 y (.bytes o.nm)) (r3 : RdV w S2 z (.bytes o.asn)) (hS2 : ∀ c, S2 c → ¬ P c) (hSS : ∀ c, S2 c → c < w.heap.size) (hnm : o.nm.length ≤ 2097152) (hna : o.asn.length ≤ 2097152) (hs : s ≤ 2097000) (hok : OOk o = true) (hk : o.kind = 0) :
    Calls Tryz.prog 21 #[.map (some b), opV o y z, fr.v] w (DSub w b P (doF f s o fr)) := by
  obtain ⟨ya, yc, rfl⟩ := r2.sliceB
  obtain ⟨za, zc, rfl⟩ := r3.sliceB
  have HNM : Hid (NM w b s f P) := N
  have HPS : Hid (∀ c, P c → c < w.heap.size) := N.sm
  have hbw := N.lt
  obtain ⟨X, Q, N⟩ := N
  have HN : Hid (NX w b s f X Q P) := N
  have hXs : ∀ h n, f h = some n → ∃ a m c, X n.h = .slice a m c := fun h n hn => by obtain ⟨a, c, e, _⟩ := RdV.sliced (N.rd h n hn); exact ⟨a, _, c, e⟩
  obtain ⟨kd, ⟨p, q, d⟩, nm, ⟨p2, q2, d2⟩, asn, ov⟩ := o
  obtain ⟨pf, qf, df⟩ := fr
  dsimp only at hin hito hfr r2 r3 hnm hna hk
  subst hk
  clear hok
  have HI : Hid (HIn (p, q, d)) := hin
  have HIT : Hid (HIn (p2, q2, d2)) := hito
  have HIF : Hid (HIn (pf, qf, df)) := hfr
  have HS2 : Hid (∀ c, S2 c → ¬ P c) := hS2
  have HSS : Hid (∀ c, S2 c → c < w.heap.size) := hSS
  have OK : Hid (FOk f) := ok
  obtain ⟨th, hth⟩ : ∃ th, (f (p, q, d)).isSome = th := ⟨_, rfl⟩
  obtain ⟨dc, hdc0⟩ : ∃ r, dirC 0 d th = r := ⟨_, rfl⟩
  obtain ⟨tv, htv⟩ : ∃ r, takesB (pf, qf, df) (p2, q2, d2) (f (pf, qf, false)).isSome (f (pf, qf, true)).isSome s = r := ⟨_, rfl⟩
  have HDC : Hid (∀ W, Below w.heap.size w W → Calls Tryz.prog 47 #[.map (some b), .agg #[.int .i64 0, .int .i64 p, .int .i64 q, .bool d, .slice ya nm.length yc, .int .i64 p2, .int .i64 q2, .bool d2, .slice za asn.length zc, .int .i64 ov]] W fun e w' => e = .returned (.int .i64 dc) ∧ Below W.heap.size W w') := fun W hW => by
    have h9 := dirCode_any b s f X ⟨0, (p, q, d), nm, (p2, q2, d2), asn, ov⟩ ya za nm.length yc asn.length zc W (N.m.blk (hW.block b hbw)) hin (fun n hn => hXs _ n hn)
    dsimp only at h9
    rw [hth, hdc0] at h9
    exact h9
  have HTK : Hid (∀ W, Below w.heap.size w W → Calls Tryz.prog 46 #[.map (some b), .agg #[.int .i64 pf, .int .i64 qf, .bool df], .agg #[.int .i64 p2, .int .i64 q2, .bool d2]] W fun e w' => e = .returned (.bool tv) ∧ Below W.heap.size W w') := fun W hW => by
    have h9 := takes_any b s f X (pf, qf, df) (p2, q2, d2) W (N.m.blk (hW.block b hbw)) hfr hXs
    rw [show takesB (pf, qf, df) (p2, q2, d2) (f (Hd.sh (pf, qf, df), Hd.ino (pf, qf, df), false)).isSome (f (Hd.sh (pf, qf, df), Hd.ino (pf, qf, df), true)).isSome s = tv from htv] at h9
    exact h9
  obtain ⟨res, hres⟩ : ∃ r, doF f s ⟨0, (p, q, d), nm, (p2, q2, d2), asn, ov⟩ (pf, qf, df) = r := ⟨_, rfl⟩
  have HRES : Hid ((if (0 : Int) = 4 ∧ tv = false then (f, s, rcI 11) else if dc ≠ 0 then (f, s, rcI dc) else doF2 f s ⟨0, (p, q, d), nm, (p2, q2, d2), asn, ov⟩ (pf, qf, df)) = res) := by
    show _ = _
    rw [← hres]
    unfold doF
    dsimp only [Hd.dir, Hd.sh, Hd.ino]
    rw [hth, hdc0, htv]
  rw [hres]
  have HNEW : Hid (tv = true → f (pf, qf, df) = none) := fun h => by
    rw [← htv] at h
    unfold takesB at h
    simp only [Bool.and_eq_true, Bool.not_eq_true', decide_eq_true_eq] at h
    cases df
    · exact Option.isNone_iff_eq_none.1 (by simpa using h.2.2.2.1)
    · exact Option.isNone_iff_eq_none.1 (by simpa using h.2.2.2.2.1)
  have HR2 : Hid (RdV w S2 (.slice ya nm.length yc) (.bytes nm)) := r2
  have HR3 : Hid (RdV w S2 (.slice za asn.length zc) (.bytes asn)) := r3
  have HDV : Hid (dirC 0 d th = dc) := hdc0
  have HTH : Hid ((f (p, q, d)).isSome = th) := hth
  clear N hXs r2 r3 hS2 hSS hin hito hfr ok hres htv hdc0 hth
  generalize hyn : nm.length = yn at *
  generalize hzn : asn.length = zn at *
  go_enter Tryz.func21, Tryz.ntmps21
  go_wp2_with fail
  go_at_call 47
  refine Calls.mono (HDC.out _ (by repeat (first | exact Below.refl _ _ | refine Below.al2 ?_ _))) ?_
  rintro e w1 ⟨rfl, hb1⟩
  have vO : VarA w1 w.heap.size 35 #[.int .i64 0, .int .i64 p, .int .i64 q, .bool d, .slice ya yn yc, .int .i64 p2, .int .i64 q2, .bool d2, .slice za zn zc, .int .i64 ov] := (((VarA.new w _ _).alloc _).alloc _).step hb1
  have vF : VarA w1 (w.heap.size + 1) 28 #[.int .i64 pf, .int .i64 qf, .bool df] := ((by simpa using VarA.new (w.alloc _) 28 _ : VarA ((w.alloc _).alloc (.cells #[.int .i64 pf, .int .i64 qf, .bool df] 28)) (w.heap.size + 1) _ _).alloc _).step hb1
  have vR : VarA w1 (w.heap.size + 2) 31 #[.int .i64 0, .int .i64 0, .int .i64 0, .bool false, .int .i64 0, .slice none 0 0] := (by simpa using VarA.new ((w.alloc _).alloc _) 31 _ : VarA (((w.alloc _).alloc _).alloc (.cells #[.int .i64 0, .int .i64 0, .int .i64 0, .bool false, .int .i64 0, .slice none 0 0] 31)) (w.heap.size + 2) _ _).step hb1
  have HB1 : Hid (Below w.heap.size w w1) := (show Below w.heap.size w (((w.alloc _).alloc _).alloc _) by repeat (first | exact Below.refl _ _ | refine Below.al2 ?_ _)).trans (hb1.mono (by simp <;> omega))
  have HVR : Hid (VarA w1 (w.heap.size + 2) 31 _) := vR
  have HVO : Hid (VarA w1 w.heap.size 35 _) := vO
  have HVF : Hid (VarA w1 (w.heap.size + 1) 28 _) := vF
  have s1 : w.heap.size + 3 ≤ w1.heap.size := by have := vR.lt; omega
  obtain ⟨q0, q1, q2_, q3, q4, q5, q6, q7, q8, q9⟩ := vO.l10
  obtain ⟨g0, g1, g2⟩ := vF.l3
  clear hb1 vO vF vR
  by_cases hdc : dc = 0
  case neg =>
    have hres2 : res = (f, s, rcI dc) := by rw [← HRES.out]; simp [hdc]
    subst hres2
    have hc1 : (dc == 0) = false := by simpa using hdc
    have hc2 : (dc != 0) = true := by simpa using hdc
    go_wp2_with ((with_reducible refine guardStore (ty := 31) ?_); refine wpList_storeF HVR.out rfl rfl (by kernel_rfl) rfl (of_decide_eq_true rfl) rfl ?_; intro w8 v8 t8)
    refine bodyPost_ret (results_cell_row Tryz.results21 _ _ _ _ _ _ _ rfl v8 Tryz.underlying31 rfl (by kernel_rfl)) rfl ?_
    exact DSub.ret (R := fun _ => False) (P' := P) HB1.out (OwV.nilR _ _ _ _ _) (HNM.out.step HB1.out) (fun c hc => hc.elim) (fun c hc => hc.elim) (fun c hc => .inl hc) (Turned.refl _ _) t8 (by omega) (by omega) HPS.out
  subst hdc
  obtain ⟨rfl, rfl⟩ : d = true ∧ th = true := by
    have h9 := HDV.out
    cases d <;> cases th <;> simp [dirC] at h9 ⊢
  obtain ⟨n, hf⟩ : ∃ n, f (p, q, true) = some n := Option.isSome_iff_exists.1 HTH.out
  have hres2 : res = lookF f s ⟨0, (p, q, true), nm, (p2, q2, d2), asn, ov⟩ := by rw [← HRES.out]; simp [doF2]
  subst hres2
  have HSB : Hid (∀ W, Below w.heap.size w W → _) := fun W hW => lookD b s f ⟨0, (p, q, true), nm, (p2, q2, d2), asn, ov⟩ n (.slice ya yn yc) za zn zc S2 P W (HNM.out.step hW) HI.out hf (HR2.out.step hW) (OK.out.len _ n hf).1
  clear HRES HDC HTK HTH HDV
  go_wp2_with (first | (go_at_call 48; refine Calls.mono (HSB.out _ HB1.out) ?_; rintro e w9 ⟨a9, n9, c9, R9, P9, rfl, o9, N9, d9, r9, p9, t9⟩; have s9 := t9.size; have kR := HVR.out.turn t9 (fun h => by have := HPS.out _ h; omega); have HR9 : Hid (VarA w9 (w.heap.size + 2) 31 _) := kR; clear kR) | ((with_reducible refine guardStore (ty := 31) ?_); refine wpList_storeF HR9.out rfl rfl (by kernel_rfl) rfl (of_decide_eq_true rfl) rfl ?_; intro w8 v8 t8))
  refine bodyPost_ret (results_cell_row Tryz.results21 _ _ _ _ _ _ _ rfl v8 Tryz.underlying31 rfl (by kernel_rfl)) rfl ?_
  exact DSub.ret HB1.out o9 N9 d9 r9 p9 t9 t8 (by omega) (by omega) HPS.out
set_option maxHeartbeats 4000000 in
theorem implDo1 (b s : Nat) (f : Hd → Option Nd) (o : OpD) (fr : Hd) (y z : Value) (S2 P : Nat → Prop) (w : World) (N : NM w b s f P) (ok : FOk f) (hin : HIn o.dir) (hito : HIn o.to) (hfr : HIn fr) (r2 : RdV w S2 y (.bytes o.nm)) (r3 : RdV w S2 z (.bytes o.asn)) (hS2 : ∀ c, S2 c → ¬ P c) (hSS : ∀ c, S2 c → c < w.heap.size) (hnm : o.nm.length ≤ 2097152) (hna : o.asn.length ≤ 2097152) (hs : s ≤ 2097000) (hok : OOk o = true) (hk : o.kind = 1) :
    Calls Tryz.prog 21 #[.map (some b), opV o y z, fr.v] w (DSub w b P (doF f s o fr)) := by
  obtain ⟨ya, yc, rfl⟩ := r2.sliceB
  obtain ⟨za, zc, rfl⟩ := r3.sliceB
  have HNM : Hid (NM w b s f P) := N
  have HPS : Hid (∀ c, P c → c < w.heap.size) := N.sm
  have hbw := N.lt
  obtain ⟨X, Q, N⟩ := N
  have HN : Hid (NX w b s f X Q P) := N
  have hXs : ∀ h n, f h = some n → ∃ a m c, X n.h = .slice a m c := fun h n hn => by obtain ⟨a, c, e, _⟩ := RdV.sliced (N.rd h n hn); exact ⟨a, _, c, e⟩
  obtain ⟨kd, ⟨p, q, d⟩, nm, ⟨p2, q2, d2⟩, asn, ov⟩ := o
  obtain ⟨pf, qf, df⟩ := fr
  dsimp only at hin hito hfr r2 r3 hnm hna hk
  subst hk
  clear hok
  have HI : Hid (HIn (p, q, d)) := hin
  have HIT : Hid (HIn (p2, q2, d2)) := hito
  have HIF : Hid (HIn (pf, qf, df)) := hfr
  have HS2 : Hid (∀ c, S2 c → ¬ P c) := hS2
  have HSS : Hid (∀ c, S2 c → c < w.heap.size) := hSS
  have OK : Hid (FOk f) := ok
  obtain ⟨th, hth⟩ : ∃ th, (f (p, q, d)).isSome = th := ⟨_, rfl⟩
  obtain ⟨dc, hdc0⟩ : ∃ r, dirC 1 d th = r := ⟨_, rfl⟩
  obtain ⟨tv, htv⟩ : ∃ r, takesB (pf, qf, df) (p2, q2, d2) (f (pf, qf, false)).isSome (f (pf, qf, true)).isSome s = r := ⟨_, rfl⟩
  have HDC : Hid (∀ W, Below w.heap.size w W → Calls Tryz.prog 47 #[.map (some b), .agg #[.int .i64 1, .int .i64 p, .int .i64 q, .bool d, .slice ya nm.length yc, .int .i64 p2, .int .i64 q2, .bool d2, .slice za asn.length zc, .int .i64 ov]] W fun e w' => e = .returned (.int .i64 dc) ∧ Below W.heap.size W w') := fun W hW => by
    have h9 := dirCode_any b s f X ⟨1, (p, q, d), nm, (p2, q2, d2), asn, ov⟩ ya za nm.length yc asn.length zc W (N.m.blk (hW.block b hbw)) hin (fun n hn => hXs _ n hn)
    dsimp only at h9
    rw [hth, hdc0] at h9
    exact h9
  have HTK : Hid (∀ W, Below w.heap.size w W → Calls Tryz.prog 46 #[.map (some b), .agg #[.int .i64 pf, .int .i64 qf, .bool df], .agg #[.int .i64 p2, .int .i64 q2, .bool d2]] W fun e w' => e = .returned (.bool tv) ∧ Below W.heap.size W w') := fun W hW => by
    have h9 := takes_any b s f X (pf, qf, df) (p2, q2, d2) W (N.m.blk (hW.block b hbw)) hfr hXs
    rw [show takesB (pf, qf, df) (p2, q2, d2) (f (Hd.sh (pf, qf, df), Hd.ino (pf, qf, df), false)).isSome (f (Hd.sh (pf, qf, df), Hd.ino (pf, qf, df), true)).isSome s = tv from htv] at h9
    exact h9
  obtain ⟨res, hres⟩ : ∃ r, doF f s ⟨1, (p, q, d), nm, (p2, q2, d2), asn, ov⟩ (pf, qf, df) = r := ⟨_, rfl⟩
  have HRES : Hid ((if (1 : Int) = 4 ∧ tv = false then (f, s, rcI 11) else if dc ≠ 0 then (f, s, rcI dc) else doF2 f s ⟨1, (p, q, d), nm, (p2, q2, d2), asn, ov⟩ (pf, qf, df)) = res) := by
    show _ = _
    rw [← hres]
    unfold doF
    dsimp only [Hd.dir, Hd.sh, Hd.ino]
    rw [hth, hdc0, htv]
  rw [hres]
  have HNEW : Hid (tv = true → f (pf, qf, df) = none) := fun h => by
    rw [← htv] at h
    unfold takesB at h
    simp only [Bool.and_eq_true, Bool.not_eq_true', decide_eq_true_eq] at h
    cases df
    · exact Option.isNone_iff_eq_none.1 (by simpa using h.2.2.2.1)
    · exact Option.isNone_iff_eq_none.1 (by simpa using h.2.2.2.2.1)
  have HR2 : Hid (RdV w S2 (.slice ya nm.length yc) (.bytes nm)) := r2
  have HR3 : Hid (RdV w S2 (.slice za asn.length zc) (.bytes asn)) := r3
  have HDV : Hid (dirC 1 d th = dc) := hdc0
  have HTH : Hid ((f (p, q, d)).isSome = th) := hth
  clear N hXs r2 r3 hS2 hSS hin hito hfr ok hres htv hdc0 hth
  generalize hyn : nm.length = yn at *
  generalize hzn : asn.length = zn at *
  go_enter Tryz.func21, Tryz.ntmps21
  go_wp2_with fail
  go_at_call 47
  refine Calls.mono (HDC.out _ (by repeat (first | exact Below.refl _ _ | refine Below.al2 ?_ _))) ?_
  rintro e w1 ⟨rfl, hb1⟩
  have vO : VarA w1 w.heap.size 35 #[.int .i64 1, .int .i64 p, .int .i64 q, .bool d, .slice ya yn yc, .int .i64 p2, .int .i64 q2, .bool d2, .slice za zn zc, .int .i64 ov] := (((VarA.new w _ _).alloc _).alloc _).step hb1
  have vF : VarA w1 (w.heap.size + 1) 28 #[.int .i64 pf, .int .i64 qf, .bool df] := ((by simpa using VarA.new (w.alloc _) 28 _ : VarA ((w.alloc _).alloc (.cells #[.int .i64 pf, .int .i64 qf, .bool df] 28)) (w.heap.size + 1) _ _).alloc _).step hb1
  have vR : VarA w1 (w.heap.size + 2) 31 #[.int .i64 0, .int .i64 0, .int .i64 0, .bool false, .int .i64 0, .slice none 0 0] := (by simpa using VarA.new ((w.alloc _).alloc _) 31 _ : VarA (((w.alloc _).alloc _).alloc (.cells #[.int .i64 0, .int .i64 0, .int .i64 0, .bool false, .int .i64 0, .slice none 0 0] 31)) (w.heap.size + 2) _ _).step hb1
  have HB1 : Hid (Below w.heap.size w w1) := (show Below w.heap.size w (((w.alloc _).alloc _).alloc _) by repeat (first | exact Below.refl _ _ | refine Below.al2 ?_ _)).trans (hb1.mono (by simp <;> omega))
  have HVR : Hid (VarA w1 (w.heap.size + 2) 31 _) := vR
  have HVO : Hid (VarA w1 w.heap.size 35 _) := vO
  have HVF : Hid (VarA w1 (w.heap.size + 1) 28 _) := vF
  have s1 : w.heap.size + 3 ≤ w1.heap.size := by have := vR.lt; omega
  obtain ⟨q0, q1, q2_, q3, q4, q5, q6, q7, q8, q9⟩ := vO.l10
  obtain ⟨g0, g1, g2⟩ := vF.l3
  clear hb1 vO vF vR
  by_cases hdc : dc = 0
  case neg =>
    have hres2 : res = (f, s, rcI dc) := by rw [← HRES.out]; simp [hdc]
    subst hres2
    have hc1 : (dc == 0) = false := by simpa using hdc
    have hc2 : (dc != 0) = true := by simpa using hdc
    go_wp2_with ((with_reducible refine guardStore (ty := 31) ?_); refine wpList_storeF HVR.out rfl rfl (by kernel_rfl) rfl (of_decide_eq_true rfl) rfl ?_; intro w8 v8 t8)
    refine bodyPost_ret (results_cell_row Tryz.results21 _ _ _ _ _ _ _ rfl v8 Tryz.underlying31 rfl (by kernel_rfl)) rfl ?_
    exact DSub.ret (R := fun _ => False) (P' := P) HB1.out (OwV.nilR _ _ _ _ _) (HNM.out.step HB1.out) (fun c hc => hc.elim) (fun c hc => hc.elim) (fun c hc => .inl hc) (Turned.refl _ _) t8 (by omega) (by omega) HPS.out
  subst hdc
  obtain ⟨rfl, rfl⟩ : d = true ∧ th = true := by
    have h9 := HDV.out
    cases d <;> cases th <;> simp [dirC] at h9 ⊢
  obtain ⟨n, hf⟩ : ∃ n, f (p, q, true) = some n := Option.isSome_iff_exists.1 HTH.out
  obtain ⟨a, cap, hat, rx⟩ := atX_rd f X (p, q, true) P w (HN.out.rd _)
  rw [hf] at hat rx
  simp only [Option.getD_some] at hat rx
  have HA : Hid _ := hat
  have HM1 : Hid (MapH (ndX X) w1 b s f) := HN.out.m.blk (HB1.out.block b hbw)
  have hres2 : res = (f, s, ⟨0, hd0, 0, n.es⟩) := by rw [← HRES.out]; simp [doF2, hf]
  subst hres2
  have HCP : Hid (∀ W, Below w.heap.size w W → _) := fun W hW => implCopyEn_any (.slice a n.es.length cap) n.es P W (rx.step hW) (OK.out.sz _ n hf) (OK.out.len _ n hf).1
  clear HRES HDC HTK HTH HDV hat rx hf
  obtain ⟨⟨s0, s1_, s2⟩, ⟨s3, s4, s5⟩, lk, vl, es⟩ := n
  dsimp only at HA HCP ⊢
  generalize hmm : es.length = m at *
  have kf4 : ∀ W : World, (Instr.field 51 (.agg #[.int .i64 s0, .int .i64 s1_, .bool s2, .int .i64 s3, .int .i64 s4, .bool s5, .int .i64 lk, .int .i64 vl, .slice a m cap]) 4).run Tryz.prog W = .ok (.slice a m cap) W := fun W => by kernel_rfl
  have kf3 : ∀ W : World, (Instr.field 51 (.agg #[.int .i64 s0, .int .i64 s1_, .bool s2, .int .i64 s3, .int .i64 s4, .bool s5, .int .i64 lk, .int .i64 vl, .slice a m cap]) 3).run Tryz.prog W = .ok (.int .i64 vl) W := fun W => by kernel_rfl
  go_wp2_with (first | (at_lookup; refine wpList_lookX _ rfl (.tmp 39) (.tmp 41) rfl b s f X rfl HM1.out (p, q, true) HI.out rfl ?_; rw [HA.out]) | (go_at_call 45; refine Calls.mono (HCP.out _ HB1.out) ?_; rintro e w9 ⟨a9, n9, c9, rfl, o9, b9⟩; have s9 := b9.size; have kR := HVR.out.step b9; have HR9 : Hid (VarA w9 (w.heap.size + 2) 31 _) := kR; clear kR) | ((with_reducible refine guardStore (ty := 31) ?_); refine wpList_storeF HR9.out rfl rfl (by kernel_rfl) rfl (of_decide_eq_true rfl) rfl ?_; intro w8 v8 t8))
  refine bodyPost_ret (results_cell_row Tryz.results21 _ _ _ _ _ _ _ rfl v8 Tryz.underlying31 rfl (by kernel_rfl)) rfl ?_
  exact DSub.ret (R := fun c => w1.heap.size ≤ c ∧ c < w9.heap.size) (P' := P) HB1.out o9 ((HNM.out.step HB1.out).step b9) (fun c hc hp => by have := HPS.out c hp; omega) (fun c hc => hc) (fun c hc => .inl hc) (Turned.ofBelow b9) t8 (by omega) (by omega) HPS.out
set_option maxHeartbeats 4000000 in
theorem implDo2 (b s : Nat) (f : Hd → Option Nd) (o : OpD) (fr : Hd) (y z : Value) (S2 P : Nat → Prop) (w : World) (N : NM w b s f P) (ok : FOk f) (hin : HIn o.dir) (hito : HIn o.to) (hfr : HIn fr) (r2 : RdV w S2 y (.bytes o.nm)) (r3 : RdV w S2 z (.bytes o.asn)) (hS2 : ∀ c, S2 c → ¬ P c) (hSS : ∀ c, S2 c → c < w.heap.size) (hnm : o.nm.length ≤ 2097152) (hna : o.asn.length ≤ 2097152) (hs : s ≤ 2097000) (hok : OOk o = true) (hk : o.kind = 2) :
    Calls Tryz.prog 21 #[.map (some b), opV o y z, fr.v] w (DSub w b P (doF f s o fr)) := by
  obtain ⟨ya, yc, rfl⟩ := r2.sliceB
  obtain ⟨za, zc, rfl⟩ := r3.sliceB
  have HNM : Hid (NM w b s f P) := N
  have HPS : Hid (∀ c, P c → c < w.heap.size) := N.sm
  have hbw := N.lt
  obtain ⟨X, Q, N⟩ := N
  have HN : Hid (NX w b s f X Q P) := N
  have hXs : ∀ h n, f h = some n → ∃ a m c, X n.h = .slice a m c := fun h n hn => by obtain ⟨a, c, e, _⟩ := RdV.sliced (N.rd h n hn); exact ⟨a, _, c, e⟩
  obtain ⟨kd, ⟨p, q, d⟩, nm, ⟨p2, q2, d2⟩, asn, ov⟩ := o
  obtain ⟨pf, qf, df⟩ := fr
  dsimp only at hin hito hfr r2 r3 hnm hna hk
  subst hk
  clear hok
  have HI : Hid (HIn (p, q, d)) := hin
  have HIT : Hid (HIn (p2, q2, d2)) := hito
  have HIF : Hid (HIn (pf, qf, df)) := hfr
  have HS2 : Hid (∀ c, S2 c → ¬ P c) := hS2
  have HSS : Hid (∀ c, S2 c → c < w.heap.size) := hSS
  have OK : Hid (FOk f) := ok
  obtain ⟨th, hth⟩ : ∃ th, (f (p, q, d)).isSome = th := ⟨_, rfl⟩
  obtain ⟨dc, hdc0⟩ : ∃ r, dirC 2 d th = r := ⟨_, rfl⟩
  obtain ⟨tv, htv⟩ : ∃ r, takesB (pf, qf, df) (p2, q2, d2) (f (pf, qf, false)).isSome (f (pf, qf, true)).isSome s = r := ⟨_, rfl⟩
  have HDC : Hid (∀ W, Below w.heap.size w W → Calls Tryz.prog 47 #[.map (some b), .agg #[.int .i64 2, .int .i64 p, .int .i64 q, .bool d, .slice ya nm.length yc, .int .i64 p2, .int .i64 q2, .bool d2, .slice za asn.length zc, .int .i64 ov]] W fun e w' => e = .returned (.int .i64 dc) ∧ Below W.heap.size W w') := fun W hW => by
    have h9 := dirCode_any b s f X ⟨2, (p, q, d), nm, (p2, q2, d2), asn, ov⟩ ya za nm.length yc asn.length zc W (N.m.blk (hW.block b hbw)) hin (fun n hn => hXs _ n hn)
    dsimp only at h9
    rw [hth, hdc0] at h9
    exact h9
  have HTK : Hid (∀ W, Below w.heap.size w W → Calls Tryz.prog 46 #[.map (some b), .agg #[.int .i64 pf, .int .i64 qf, .bool df], .agg #[.int .i64 p2, .int .i64 q2, .bool d2]] W fun e w' => e = .returned (.bool tv) ∧ Below W.heap.size W w') := fun W hW => by
    have h9 := takes_any b s f X (pf, qf, df) (p2, q2, d2) W (N.m.blk (hW.block b hbw)) hfr hXs
    rw [show takesB (pf, qf, df) (p2, q2, d2) (f (Hd.sh (pf, qf, df), Hd.ino (pf, qf, df), false)).isSome (f (Hd.sh (pf, qf, df), Hd.ino (pf, qf, df), true)).isSome s = tv from htv] at h9
    exact h9
  obtain ⟨res, hres⟩ : ∃ r, doF f s ⟨2, (p, q, d), nm, (p2, q2, d2), asn, ov⟩ (pf, qf, df) = r := ⟨_, rfl⟩
  have HRES : Hid ((if (2 : Int) = 4 ∧ tv = false then (f, s, rcI 11) else if dc ≠ 0 then (f, s, rcI dc) else doF2 f s ⟨2, (p, q, d), nm, (p2, q2, d2), asn, ov⟩ (pf, qf, df)) = res) := by
    show _ = _
    rw [← hres]
    unfold doF
    dsimp only [Hd.dir, Hd.sh, Hd.ino]
    rw [hth, hdc0, htv]
  rw [hres]
  have HNEW : Hid (tv = true → f (pf, qf, df) = none) := fun h => by
    rw [← htv] at h
    unfold takesB at h
    simp only [Bool.and_eq_true, Bool.not_eq_true', decide_eq_true_eq] at h
    cases df
    · exact Option.isNone_iff_eq_none.1 (by simpa using h.2.2.2.1)
    · exact Option.isNone_iff_eq_none.1 (by simpa using h.2.2.2.2.1)
  have HR2 : Hid (RdV w S2 (.slice ya nm.length yc) (.bytes nm)) := r2
  have HR3 : Hid (RdV w S2 (.slice za asn.length zc) (.bytes asn)) := r3
  have HDV : Hid (dirC 2 d th = dc) := hdc0
  have HTH : Hid ((f (p, q, d)).isSome = th) := hth
  clear N hXs r2 r3 hS2 hSS hin hito hfr ok hres htv hdc0 hth
  generalize hyn : nm.length = yn at *
  generalize hzn : asn.length = zn at *
  go_enter Tryz.func21, Tryz.ntmps21
  go_wp2_with fail
  go_at_call 47
  refine Calls.mono (HDC.out _ (by repeat (first | exact Below.refl _ _ | refine Below.al2 ?_ _))) ?_
  rintro e w1 ⟨rfl, hb1⟩
  have vO : VarA w1 w.heap.size 35 #[.int .i64 2, .int .i64 p, .int .i64 q, .bool d, .slice ya yn yc, .int .i64 p2, .int .i64 q2, .bool d2, .slice za zn zc, .int .i64 ov] := (((VarA.new w _ _).alloc _).alloc _).step hb1
  have vF : VarA w1 (w.heap.size + 1) 28 #[.int .i64 pf, .int .i64 qf, .bool df] := ((by simpa using VarA.new (w.alloc _) 28 _ : VarA ((w.alloc _).alloc (.cells #[.int .i64 pf, .int .i64 qf, .bool df] 28)) (w.heap.size + 1) _ _).alloc _).step hb1
  have vR : VarA w1 (w.heap.size + 2) 31 #[.int .i64 0, .int .i64 0, .int .i64 0, .bool false, .int .i64 0, .slice none 0 0] := (by simpa using VarA.new ((w.alloc _).alloc _) 31 _ : VarA (((w.alloc _).alloc _).alloc (.cells #[.int .i64 0, .int .i64 0, .int .i64 0, .bool false, .int .i64 0, .slice none 0 0] 31)) (w.heap.size + 2) _ _).step hb1
  have HB1 : Hid (Below w.heap.size w w1) := (show Below w.heap.size w (((w.alloc _).alloc _).alloc _) by repeat (first | exact Below.refl _ _ | refine Below.al2 ?_ _)).trans (hb1.mono (by simp <;> omega))
  have HVR : Hid (VarA w1 (w.heap.size + 2) 31 _) := vR
  have HVO : Hid (VarA w1 w.heap.size 35 _) := vO
  have HVF : Hid (VarA w1 (w.heap.size + 1) 28 _) := vF
  have s1 : w.heap.size + 3 ≤ w1.heap.size := by have := vR.lt; omega
  obtain ⟨q0, q1, q2_, q3, q4, q5, q6, q7, q8, q9⟩ := vO.l10
  obtain ⟨g0, g1, g2⟩ := vF.l3
  clear hb1 vO vF vR
  by_cases hdc : dc = 0
  case neg =>
    have hres2 : res = (f, s, rcI dc) := by rw [← HRES.out]; simp [hdc]
    subst hres2
    have hc1 : (dc == 0) = false := by simpa using hdc
    have hc2 : (dc != 0) = true := by simpa using hdc
    go_wp2_with ((with_reducible refine guardStore (ty := 31) ?_); refine wpList_storeF HVR.out rfl rfl (by kernel_rfl) rfl (of_decide_eq_true rfl) rfl ?_; intro w8 v8 t8)
    refine bodyPost_ret (results_cell_row Tryz.results21 _ _ _ _ _ _ _ rfl v8 Tryz.underlying31 rfl (by kernel_rfl)) rfl ?_
    exact DSub.ret (R := fun _ => False) (P' := P) HB1.out (OwV.nilR _ _ _ _ _) (HNM.out.step HB1.out) (fun c hc => hc.elim) (fun c hc => hc.elim) (fun c hc => .inl hc) (Turned.refl _ _) t8 (by omega) (by omega) HPS.out
  subst hdc
  obtain ⟨rfl, rfl⟩ : d = false ∧ th = true := by
    have h9 := HDV.out
    cases d <;> cases th <;> simp [dirC] at h9 ⊢
  obtain ⟨n, hf⟩ : ∃ n, f (p, q, false) = some n := Option.isSome_iff_exists.1 HTH.out
  obtain ⟨a, cap, hat, rx⟩ := atX_rd f X (p, q, false) P w (HN.out.rd _)
  rw [hf] at hat rx
  simp only [Option.getD_some] at hat rx
  have HA : Hid _ := hat
  have HM1 : Hid (MapH (ndX X) w1 b s f) := HN.out.m.blk (HB1.out.block b hbw)
  have hres2 : res = (f, s, ⟨0, hd0, n.val, []⟩) := by rw [← HRES.out]; simp [doF2, hf]
  subst hres2
  have HCP : Hid (∀ W, Below w.heap.size w W → _) := fun W hW => implCopyEn_any (.slice a n.es.length cap) n.es P W (rx.step hW) (OK.out.sz _ n hf) (OK.out.len _ n hf).1
  clear HRES HDC HTK HTH HDV hat rx hf
  obtain ⟨⟨s0, s1_, s2⟩, ⟨s3, s4, s5⟩, lk, vl, es⟩ := n
  dsimp only at HA HCP ⊢
  generalize hmm : es.length = m at *
  have kf4 : ∀ W : World, (Instr.field 51 (.agg #[.int .i64 s0, .int .i64 s1_, .bool s2, .int .i64 s3, .int .i64 s4, .bool s5, .int .i64 lk, .int .i64 vl, .slice a m cap]) 4).run Tryz.prog W = .ok (.slice a m cap) W := fun W => by kernel_rfl
  have kf3 : ∀ W : World, (Instr.field 51 (.agg #[.int .i64 s0, .int .i64 s1_, .bool s2, .int .i64 s3, .int .i64 s4, .bool s5, .int .i64 lk, .int .i64 vl, .slice a m cap]) 3).run Tryz.prog W = .ok (.int .i64 vl) W := fun W => by kernel_rfl
  go_wp2_with (first | (at_lookup; refine wpList_lookX _ rfl (.tmp 48) (.tmp 50) rfl b s f X rfl HM1.out (p, q, false) HI.out rfl ?_; rw [HA.out]) | ((with_reducible refine guardStore (ty := 31) ?_); refine wpList_storeF HVR.out rfl rfl (by kernel_rfl) rfl (of_decide_eq_true rfl) rfl ?_; intro w8 v8 t8))
  refine bodyPost_ret (results_cell_row Tryz.results21 _ _ _ _ _ _ _ rfl v8 Tryz.underlying31 rfl (by kernel_rfl)) rfl ?_
  exact DSub.ret (R := fun _ => False) (P' := P) HB1.out (OwV.nilR _ _ _ _ _) (HNM.out.step HB1.out) (fun c hc => hc.elim) (fun c hc => hc.elim) (fun c hc => .inl hc) (Turned.refl _ _) t8 (by omega) (by omega) HPS.out
set_option maxHeartbeats 4000000 in
theorem implDo3 (b s : Nat) (f : Hd → Option Nd) (o : OpD) (fr : Hd) (y z : Value) (S2 P : Nat → Prop) (w : World) (N : NM w b s f P) (ok : FOk f) (hin : HIn o.dir) (hito : HIn o.to) (hfr : HIn fr) (r2 : RdV w S2 y (.bytes o.nm)) (r3 : RdV w S2 z (.bytes o.asn)) (hS2 : ∀ c, S2 c → ¬ P c) (hSS : ∀ c, S2 c → c < w.heap.size) (hnm : o.nm.length ≤ 2097152) (hna : o.asn.length ≤ 2097152) (hs : s ≤ 2097000) (hok : OOk o = true) (hk : o.kind = 3) :
    Calls Tryz.prog 21 #[.map (some b), opV o y z, fr.v] w (DSub w b P (doF f s o fr)) := by
  obtain ⟨ya, yc, rfl⟩ := r2.sliceB
  obtain ⟨za, zc, rfl⟩ := r3.sliceB
  have HNM : Hid (NM w b s f P) := N
  have HPS : Hid (∀ c, P c → c < w.heap.size) := N.sm
  have hbw := N.lt
  obtain ⟨X, Q, N⟩ := N
  have HN : Hid (NX w b s f X Q P) := N
  have hXs : ∀ h n, f h = some n → ∃ a m c, X n.h = .slice a m c := fun h n hn => by obtain ⟨a, c, e, _⟩ := RdV.sliced (N.rd h n hn); exact ⟨a, _, c, e⟩
  obtain ⟨kd, ⟨p, q, d⟩, nm, ⟨p2, q2, d2⟩, asn, ov⟩ := o
  obtain ⟨pf, qf, df⟩ := fr
  dsimp only at hin hito hfr r2 r3 hnm hna hk
  subst hk
  clear hok
  have HI : Hid (HIn (p, q, d)) := hin
  have HIT : Hid (HIn (p2, q2, d2)) := hito
  have HIF : Hid (HIn (pf, qf, df)) := hfr
  have HS2 : Hid (∀ c, S2 c → ¬ P c) := hS2
  have HSS : Hid (∀ c, S2 c → c < w.heap.size) := hSS
  have OK : Hid (FOk f) := ok
  obtain ⟨th, hth⟩ : ∃ th, (f (p, q, d)).isSome = th := ⟨_, rfl⟩
  obtain ⟨dc, hdc0⟩ : ∃ r, dirC 3 d th = r := ⟨_, rfl⟩
  obtain ⟨tv, htv⟩ : ∃ r, takesB (pf, qf, df) (p2, q2, d2) (f (pf, qf, false)).isSome (f (pf, qf, true)).isSome s = r := ⟨_, rfl⟩
  have HDC : Hid (∀ W, Below w.heap.size w W → Calls Tryz.prog 47 #[.map (some b), .agg #[.int .i64 3, .int .i64 p, .int .i64 q, .bool d, .slice ya nm.length yc, .int .i64 p2, .int .i64 q2, .bool d2, .slice za asn.length zc, .int .i64 ov]] W fun e w' => e = .returned (.int .i64 dc) ∧ Below W.heap.size W w') := fun W hW => by
    have h9 := dirCode_any b s f X ⟨3, (p, q, d), nm, (p2, q2, d2), asn, ov⟩ ya za nm.length yc asn.length zc W (N.m.blk (hW.block b hbw)) hin (fun n hn => hXs _ n hn)
    dsimp only at h9
    rw [hth, hdc0] at h9
    exact h9
  have HTK : Hid (∀ W, Below w.heap.size w W → Calls Tryz.prog 46 #[.map (some b), .agg #[.int .i64 pf, .int .i64 qf, .bool df], .agg #[.int .i64 p2, .int .i64 q2, .bool d2]] W fun e w' => e = .returned (.bool tv) ∧ Below W.heap.size W w') := fun W hW => by
    have h9 := takes_any b s f X (pf, qf, df) (p2, q2, d2) W (N.m.blk (hW.block b hbw)) hfr hXs
    rw [show takesB (pf, qf, df) (p2, q2, d2) (f (Hd.sh (pf, qf, df), Hd.ino (pf, qf, df), false)).isSome (f (Hd.sh (pf, qf, df), Hd.ino (pf, qf, df), true)).isSome s = tv from htv] at h9
    exact h9
  obtain ⟨res, hres⟩ : ∃ r, doF f s ⟨3, (p, q, d), nm, (p2, q2, d2), asn, ov⟩ (pf, qf, df) = r := ⟨_, rfl⟩
  have HRES : Hid ((if (3 : Int) = 4 ∧ tv = false then (f, s, rcI 11) else if dc ≠ 0 then (f, s, rcI dc) else doF2 f s ⟨3, (p, q, d), nm, (p2, q2, d2), asn, ov⟩ (pf, qf, df)) = res) := by
    show _ = _
    rw [← hres]
    unfold doF
    dsimp only [Hd.dir, Hd.sh, Hd.ino]
    rw [hth, hdc0, htv]
  rw [hres]
  have HNEW : Hid (tv = true → f (pf, qf, df) = none) := fun h => by
    rw [← htv] at h
    unfold takesB at h
    simp only [Bool.and_eq_true, Bool.not_eq_true', decide_eq_true_eq] at h
    cases df
    · exact Option.isNone_iff_eq_none.1 (by simpa using h.2.2.2.1)
    · exact Option.isNone_iff_eq_none.1 (by simpa using h.2.2.2.2.1)
  have HR2 : Hid (RdV w S2 (.slice ya nm.length yc) (.bytes nm)) := r2
  have HR3 : Hid (RdV w S2 (.slice za asn.length zc) (.bytes asn)) := r3
  have HDV : Hid (dirC 3 d th = dc) := hdc0
  have HTH : Hid ((f (p, q, d)).isSome = th) := hth
  clear N hXs r2 r3 hS2 hSS hin hito hfr ok hres htv hdc0 hth
  generalize hyn : nm.length = yn at *
  generalize hzn : asn.length = zn at *
  go_enter Tryz.func21, Tryz.ntmps21
  go_wp2_with fail
  go_at_call 47
  refine Calls.mono (HDC.out _ (by repeat (first | exact Below.refl _ _ | refine Below.al2 ?_ _))) ?_
  rintro e w1 ⟨rfl, hb1⟩
  have vO : VarA w1 w.heap.size 35 #[.int .i64 3, .int .i64 p, .int .i64 q, .bool d, .slice ya yn yc, .int .i64 p2, .int .i64 q2, .bool d2, .slice za zn zc, .int .i64 ov] := (((VarA.new w _ _).alloc _).alloc _).step hb1
  have vF : VarA w1 (w.heap.size + 1) 28 #[.int .i64 pf, .int .i64 qf, .bool df] := ((by simpa using VarA.new (w.alloc _) 28 _ : VarA ((w.alloc _).alloc (.cells #[.int .i64 pf, .int .i64 qf, .bool df] 28)) (w.heap.size + 1) _ _).alloc _).step hb1
  have vR : VarA w1 (w.heap.size + 2) 31 #[.int .i64 0, .int .i64 0, .int .i64 0, .bool false, .int .i64 0, .slice none 0 0] := (by simpa using VarA.new ((w.alloc _).alloc _) 31 _ : VarA (((w.alloc _).alloc _).alloc (.cells #[.int .i64 0, .int .i64 0, .int .i64 0, .bool false, .int .i64 0, .slice none 0 0] 31)) (w.heap.size + 2) _ _).step hb1
  have HB1 : Hid (Below w.heap.size w w1) := (show Below w.heap.size w (((w.alloc _).alloc _).alloc _) by repeat (first | exact Below.refl _ _ | refine Below.al2 ?_ _)).trans (hb1.mono (by simp <;> omega))
  have HVR : Hid (VarA w1 (w.heap.size + 2) 31 _) := vR
  have HVO : Hid (VarA w1 w.heap.size 35 _) := vO
  have HVF : Hid (VarA w1 (w.heap.size + 1) 28 _) := vF
  have s1 : w.heap.size + 3 ≤ w1.heap.size := by have := vR.lt; omega
  obtain ⟨q0, q1, q2_, q3, q4, q5, q6, q7, q8, q9⟩ := vO.l10
  obtain ⟨g0, g1, g2⟩ := vF.l3
  clear hb1 vO vF vR
  by_cases hdc : dc = 0
  case neg =>
    have hres2 : res = (f, s, rcI dc) := by rw [← HRES.out]; simp [hdc]
    subst hres2
    have hc1 : (dc == 0) = false := by simpa using hdc
    have hc2 : (dc != 0) = true := by simpa using hdc
    go_wp2_with ((with_reducible refine guardStore (ty := 31) ?_); refine wpList_storeF HVR.out rfl rfl (by kernel_rfl) rfl (of_decide_eq_true rfl) rfl ?_; intro w8 v8 t8)
    refine bodyPost_ret (results_cell_row Tryz.results21 _ _ _ _ _ _ _ rfl v8 Tryz.underlying31 rfl (by kernel_rfl)) rfl ?_
    exact DSub.ret (R := fun _ => False) (P' := P) HB1.out (OwV.nilR _ _ _ _ _) (HNM.out.step HB1.out) (fun c hc => hc.elim) (fun c hc => hc.elim) (fun c hc => .inl hc) (Turned.refl _ _) t8 (by omega) (by omega) HPS.out
  subst hdc
  obtain ⟨rfl, rfl⟩ : d = false ∧ th = true := by
    have h9 := HDV.out
    cases d <;> cases th <;> simp [dirC] at h9 ⊢
  obtain ⟨n, hf⟩ : ∃ n, f (p, q, false) = some n := Option.isSome_iff_exists.1 HTH.out
  have hres2 : res = writeF f s ⟨3, (p, q, false), nm, (p2, q2, d2), asn, ov⟩ := by rw [← HRES.out]; simp [doF2]
  subst hres2
  have HSB : Hid (∀ W, Below w.heap.size w W → _) := fun W hW => writeD b s f ⟨3, (p, q, false), nm, (p2, q2, d2), asn, ov⟩ n ya za yn yc zn zc P W (HNM.out.step hW) HI.out hf hs
  clear HRES HDC HTK HTH HDV
  go_wp2_with (first | (go_at_call 49; refine Calls.mono (HSB.out _ HB1.out) ?_; rintro e w9 ⟨a9, n9, c9, R9, P9, rfl, o9, N9, d9, r9, p9, t9⟩; have s9 := t9.size; have kR := HVR.out.turn t9 (fun h => by have := HPS.out _ h; omega); have HR9 : Hid (VarA w9 (w.heap.size + 2) 31 _) := kR; clear kR) | ((with_reducible refine guardStore (ty := 31) ?_); refine wpList_storeF HR9.out rfl rfl (by kernel_rfl) rfl (of_decide_eq_true rfl) rfl ?_; intro w8 v8 t8))
  refine bodyPost_ret (results_cell_row Tryz.results21 _ _ _ _ _ _ _ rfl v8 Tryz.underlying31 rfl (by kernel_rfl)) rfl ?_
  exact DSub.ret HB1.out o9 N9 d9 r9 p9 t9 t8 (by omega) (by omega) HPS.out
end
section
open Go.Maps
set_option maxHeartbeats 4000000 in
theorem implDo4 (b s : Nat) (f : Hd → Option Nd) (o : OpD) (fr : Hd) (y z : Value) (S2 P : Nat → Prop) (w : World) (N : NM w b s f P) (ok : FOk f) (hin : HIn o.dir) (hito : HIn o.to) (hfr : HIn fr) (r2 : RdV w S2 y (.bytes o.nm)) (r3 : RdV w S2 z (.bytes o.asn)) (hS2 : ∀ c, S2 c → ¬ P c) (hSS : ∀ c, S2 c → c < w.heap.size) (hnm : o.nm.length ≤ 2097152) (hna : o.asn.length ≤ 2097152) (hs : s ≤ 2097000) (hok : OOk o = true) (hk : o.kind = 4) :
    Calls Tryz.prog 21 #[.map (some b), opV o y z, fr.v] w (DSub w b P (doF f s o fr)) := by
  obtain ⟨ya, yc, rfl⟩ := r2.sliceB
  obtain ⟨za, zc, rfl⟩ := r3.sliceB
  have HNM : Hid (NM w b s f P) := N
  have HPS : Hid (∀ c, P c → c < w.heap.size) := N.sm
  have hbw := N.lt
  obtain ⟨X, Q, N⟩ := N
  have HN : Hid (NX w b s f X Q P) := N
  have hXs : ∀ h n, f h = some n → ∃ a m c, X n.h = .slice a m c := fun h n hn => by obtain ⟨a, c, e, _⟩ := RdV.sliced (N.rd h n hn); exact ⟨a, _, c, e⟩
  obtain ⟨kd, ⟨p, q, d⟩, nm, ⟨p2, q2, d2⟩, asn, ov⟩ := o
  obtain ⟨pf, qf, df⟩ := fr
  dsimp only at hin hito hfr r2 r3 hnm hna hk
  subst hk
  have HQ : Hid (isNm nm = true) := by simp [OOk, nmB, nmP] at hok; exact hok.2.1
  clear hok
  have HI : Hid (HIn (p, q, d)) := hin
  have HIT : Hid (HIn (p2, q2, d2)) := hito
  have HIF : Hid (HIn (pf, qf, df)) := hfr
  have HS2 : Hid (∀ c, S2 c → ¬ P c) := hS2
  have HSS : Hid (∀ c, S2 c → c < w.heap.size) := hSS
  have OK : Hid (FOk f) := ok
  obtain ⟨th, hth⟩ : ∃ th, (f (p, q, d)).isSome = th := ⟨_, rfl⟩
  obtain ⟨dc, hdc0⟩ : ∃ r, dirC 4 d th = r := ⟨_, rfl⟩
  obtain ⟨tv, htv⟩ : ∃ r, takesB (pf, qf, df) (p2, q2, d2) (f (pf, qf, false)).isSome (f (pf, qf, true)).isSome s = r := ⟨_, rfl⟩
  have HDC : Hid (∀ W, Below w.heap.size w W → Calls Tryz.prog 47 #[.map (some b), .agg #[.int .i64 4, .int .i64 p, .int .i64 q, .bool d, .slice ya nm.length yc, .int .i64 p2, .int .i64 q2, .bool d2, .slice za asn.length zc, .int .i64 ov]] W fun e w' => e = .returned (.int .i64 dc) ∧ Below W.heap.size W w') := fun W hW => by
    have h9 := dirCode_any b s f X ⟨4, (p, q, d), nm, (p2, q2, d2), asn, ov⟩ ya za nm.length yc asn.length zc W (N.m.blk (hW.block b hbw)) hin (fun n hn => hXs _ n hn)
    dsimp only at h9
    rw [hth, hdc0] at h9
    exact h9
  have HTK : Hid (∀ W, Below w.heap.size w W → Calls Tryz.prog 46 #[.map (some b), .agg #[.int .i64 pf, .int .i64 qf, .bool df], .agg #[.int .i64 p2, .int .i64 q2, .bool d2]] W fun e w' => e = .returned (.bool tv) ∧ Below W.heap.size W w') := fun W hW => by
    have h9 := takes_any b s f X (pf, qf, df) (p2, q2, d2) W (N.m.blk (hW.block b hbw)) hfr hXs
    rw [show takesB (pf, qf, df) (p2, q2, d2) (f (Hd.sh (pf, qf, df), Hd.ino (pf, qf, df), false)).isSome (f (Hd.sh (pf, qf, df), Hd.ino (pf, qf, df), true)).isSome s = tv from htv] at h9
    exact h9
  obtain ⟨res, hres⟩ : ∃ r, doF f s ⟨4, (p, q, d), nm, (p2, q2, d2), asn, ov⟩ (pf, qf, df) = r := ⟨_, rfl⟩
  have HRES : Hid ((if (4 : Int) = 4 ∧ tv = false then (f, s, rcI 11) else if dc ≠ 0 then (f, s, rcI dc) else doF2 f s ⟨4, (p, q, d), nm, (p2, q2, d2), asn, ov⟩ (pf, qf, df)) = res) := by
    show _ = _
    rw [← hres]
    unfold doF
    dsimp only [Hd.dir, Hd.sh, Hd.ino]
    rw [hth, hdc0, htv]
  rw [hres]
  have HNEW : Hid (tv = true → f (pf, qf, df) = none) := fun h => by
    rw [← htv] at h
    unfold takesB at h
    simp only [Bool.and_eq_true, Bool.not_eq_true', decide_eq_true_eq] at h
    cases df
    · exact Option.isNone_iff_eq_none.1 (by simpa using h.2.2.2.1)
    · exact Option.isNone_iff_eq_none.1 (by simpa using h.2.2.2.2.1)
  have HR2 : Hid (RdV w S2 (.slice ya nm.length yc) (.bytes nm)) := r2
  have HR3 : Hid (RdV w S2 (.slice za asn.length zc) (.bytes asn)) := r3
  have HDV : Hid (dirC 4 d th = dc) := hdc0
  have HTH : Hid ((f (p, q, d)).isSome = th) := hth
  clear N hXs r2 r3 hS2 hSS hin hito hfr ok hres htv hdc0 hth
  generalize hyn : nm.length = yn at *
  generalize hzn : asn.length = zn at *
  go_enter Tryz.func21, Tryz.ntmps21
  go_wp2_with fail
  go_at_call 46
  refine Calls.mono (HTK.out _ (by repeat (first | exact Below.refl _ _ | refine Below.al2 ?_ _))) ?_
  rintro e wt ⟨rfl, hbt⟩
  have vO : VarA wt w.heap.size 35 #[.int .i64 4, .int .i64 p, .int .i64 q, .bool d, .slice ya yn yc, .int .i64 p2, .int .i64 q2, .bool d2, .slice za zn zc, .int .i64 ov] := (((VarA.new w _ _).alloc _).alloc _).step hbt
  have vF : VarA wt (w.heap.size + 1) 28 #[.int .i64 pf, .int .i64 qf, .bool df] := ((by simpa using VarA.new (w.alloc _) 28 _ : VarA ((w.alloc _).alloc (.cells #[.int .i64 pf, .int .i64 qf, .bool df] 28)) (w.heap.size + 1) _ _).alloc _).step hbt
  have vR : VarA wt (w.heap.size + 2) 31 #[.int .i64 0, .int .i64 0, .int .i64 0, .bool false, .int .i64 0, .slice none 0 0] := (by simpa using VarA.new ((w.alloc _).alloc _) 31 _ : VarA (((w.alloc _).alloc _).alloc (.cells #[.int .i64 0, .int .i64 0, .int .i64 0, .bool false, .int .i64 0, .slice none 0 0] 31)) (w.heap.size + 2) _ _).step hbt
  have HBt : Hid (Below w.heap.size w wt) := (show Below w.heap.size w (((w.alloc _).alloc _).alloc _) by repeat (first | exact Below.refl _ _ | refine Below.al2 ?_ _)).trans (hbt.mono (by simp <;> omega))
  have HVR : Hid (VarA wt (w.heap.size + 2) 31 _) := vR
  have HVO : Hid (VarA wt w.heap.size 35 _) := vO
  have HVF : Hid (VarA wt (w.heap.size + 1) 28 _) := vF
  have s1 : w.heap.size + 3 ≤ wt.heap.size := by have := vR.lt; omega
  obtain ⟨q0, q1, q2_, q3, q4, q5, q6, q7, q8, q9⟩ := vO.l10
  clear hbt vO vF vR
  cases tv
  case false =>
    have hres2 : res = (f, s, rcI 11) := by rw [← HRES.out]; simp
    subst hres2
    go_wp2_with ((with_reducible refine guardStore (ty := 31) ?_); refine wpList_storeF HVR.out rfl rfl (by kernel_rfl) rfl (of_decide_eq_true rfl) rfl ?_; intro w8 v8 t8)
    refine bodyPost_ret (results_cell_row Tryz.results21 _ _ _ _ _ _ _ rfl v8 Tryz.underlying31 rfl (by kernel_rfl)) rfl ?_
    exact DSub.ret (R := fun _ => False) (P' := P) HBt.out (OwV.nilR _ _ _ _ _) (HNM.out.step HBt.out) (fun c hc => hc.elim) (fun c hc => hc.elim) (fun c hc => .inl hc) (Turned.refl _ _) t8 (by omega) (by omega) HPS.out
  go_wp2_with fail
  go_at_call 47
  refine Calls.mono (HDC.out _ HBt.out) ?_
  rintro e w1 ⟨rfl, hb1⟩
  have vO := HVO.out.step hb1
  have vF := HVF.out.step hb1
  have vR := HVR.out.step hb1
  have HB1 : Hid (Below w.heap.size w w1) := HBt.out.trans (hb1.mono HBt.out.size)
  clear HVO HVF HVR q0 q1 q2_ q3 q4 q5 q6 q7 q8 q9 s1
  have HVR : Hid (VarA w1 (w.heap.size + 2) 31 _) := vR
  have HVO : Hid (VarA w1 w.heap.size 35 _) := vO
  have HVF : Hid (VarA w1 (w.heap.size + 1) 28 _) := vF
  have s1 : w.heap.size + 3 ≤ w1.heap.size := by have := vR.lt; omega
  obtain ⟨q0, q1, q2_, q3, q4, q5, q6, q7, q8, q9⟩ := vO.l10
  obtain ⟨g0, g1, g2⟩ := vF.l3
  clear hb1 vO vF vR
  by_cases hdc : dc = 0
  case neg =>
    have hres2 : res = (f, s, rcI dc) := by rw [← HRES.out]; simp [hdc]
    subst hres2
    have hc1 : (dc == 0) = false := by simpa using hdc
    have hc2 : (dc != 0) = true := by simpa using hdc
    go_wp2_with ((with_reducible refine guardStore (ty := 31) ?_); refine wpList_storeF HVR.out rfl rfl (by kernel_rfl) rfl (of_decide_eq_true rfl) rfl ?_; intro w8 v8 t8)
    refine bodyPost_ret (results_cell_row Tryz.results21 _ _ _ _ _ _ _ rfl v8 Tryz.underlying31 rfl (by kernel_rfl)) rfl ?_
    exact DSub.ret (R := fun _ => False) (P' := P) HB1.out (OwV.nilR _ _ _ _ _) (HNM.out.step HB1.out) (fun c hc => hc.elim) (fun c hc => hc.elim) (fun c hc => .inl hc) (Turned.refl _ _) t8 (by omega) (by omega) HPS.out
  subst hdc
  obtain ⟨rfl, rfl⟩ : d = true ∧ th = true := by
    have h9 := HDV.out
    cases d <;> cases th <;> simp [dirC] at h9 ⊢
  obtain ⟨n, hf⟩ : ∃ n, f (p, q, true) = some n := Option.isSome_iff_exists.1 HTH.out
  have hres2 : res = makeF f s ⟨4, (p, q, true), nm, (p2, q2, d2), asn, ov⟩ (pf, qf, df) := by rw [← HRES.out]; simp [doF2]
  subst hres2
  have HSB : Hid (∀ W, Below w.heap.size w W → _) := fun W hW => makeD b s f ⟨4, (p, q, true), nm, (p2, q2, d2), asn, ov⟩ HQ.out (pf, qf, df) n (.slice ya yn yc) za zn zc S2 P W (HNM.out.step hW) OK.out HI.out HIF.out hf (HNEW.out (by simp)) (HR2.out.step hW) HS2.out (by dsimp only; omega) hs
  clear HRES HDC HTK HTH HDV
  go_wp2_with (first | (go_at_call 50; refine Calls.mono (HSB.out _ HB1.out) ?_; rintro e w9 ⟨a9, n9, c9, R9, P9, rfl, o9, N9, d9, r9, p9, t9⟩; have s9 := t9.size; have kR := HVR.out.turn t9 (fun h => by have := HPS.out _ h; omega); have HR9 : Hid (VarA w9 (w.heap.size + 2) 31 _) := kR; clear kR) | ((with_reducible refine guardStore (ty := 31) ?_); refine wpList_storeF HR9.out rfl rfl (by kernel_rfl) rfl (of_decide_eq_true rfl) rfl ?_; intro w8 v8 t8))
  refine bodyPost_ret (results_cell_row Tryz.results21 _ _ _ _ _ _ _ rfl v8 Tryz.underlying31 rfl (by kernel_rfl)) rfl ?_
  exact DSub.ret HB1.out o9 N9 d9 r9 p9 t9 t8 (by omega) (by omega) HPS.out
set_option maxHeartbeats 4000000 in
theorem implDo5 (b s : Nat) (f : Hd → Option Nd) (o : OpD) (fr : Hd) (y z : Value) (S2 P : Nat → Prop) (w : World) (N : NM w b s f P) (ok : FOk f) (hin : HIn o.dir) (hito : HIn o.to) (hfr : HIn fr) (r2 : RdV w S2 y (.bytes o.nm)) (r3 : RdV w S2 z (.bytes o.asn)) (hS2 : ∀ c, S2 c → ¬ P c) (hSS : ∀ c, S2 c → c < w.heap.size) (hnm : o.nm.length ≤ 2097152) (hna : o.asn.length ≤ 2097152) (hs : s ≤ 2097000) (hok : OOk o = true) (hk : o.kind = 5) :
    Calls Tryz.prog 21 #[.map (some b), opV o y z, fr.v] w (DSub w b P (doF f s o fr)) := by
  obtain ⟨ya, yc, rfl⟩ := r2.sliceB
  obtain ⟨za, zc, rfl⟩ := r3.sliceB
  have HNM : Hid (NM w b s f P) := N
  have HPS : Hid (∀ c, P c → c < w.heap.size) := N.sm
  have hbw := N.lt
  obtain ⟨X, Q, N⟩ := N
  have HN : Hid (NX w b s f X Q P) := N
  have hXs : ∀ h n, f h = some n → ∃ a m c, X n.h = .slice a m c := fun h n hn => by obtain ⟨a, c, e, _⟩ := RdV.sliced (N.rd h n hn); exact ⟨a, _, c, e⟩
  obtain ⟨kd, ⟨p, q, d⟩, nm, ⟨p2, q2, d2⟩, asn, ov⟩ := o
  obtain ⟨pf, qf, df⟩ := fr
  dsimp only at hin hito hfr r2 r3 hnm hna hk
  subst hk
  clear hok
  have HI : Hid (HIn (p, q, d)) := hin
  have HIT : Hid (HIn (p2, q2, d2)) := hito
  have HIF : Hid (HIn (pf, qf, df)) := hfr
  have HS2 : Hid (∀ c, S2 c → ¬ P c) := hS2
  have HSS : Hid (∀ c, S2 c → c < w.heap.size) := hSS
  have OK : Hid (FOk f) := ok
  obtain ⟨th, hth⟩ : ∃ th, (f (p, q, d)).isSome = th := ⟨_, rfl⟩
  obtain ⟨dc, hdc0⟩ : ∃ r, dirC 5 d th = r := ⟨_, rfl⟩
  obtain ⟨tv, htv⟩ : ∃ r, takesB (pf, qf, df) (p2, q2, d2) (f (pf, qf, false)).isSome (f (pf, qf, true)).isSome s = r := ⟨_, rfl⟩
  have HDC : Hid (∀ W, Below w.heap.size w W → Calls Tryz.prog 47 #[.map (some b), .agg #[.int .i64 5, .int .i64 p, .int .i64 q, .bool d, .slice ya nm.length yc, .int .i64 p2, .int .i64 q2, .bool d2, .slice za asn.length zc, .int .i64 ov]] W fun e w' => e = .returned (.int .i64 dc) ∧ Below W.heap.size W w') := fun W hW => by
    have h9 := dirCode_any b s f X ⟨5, (p, q, d), nm, (p2, q2, d2), asn, ov⟩ ya za nm.length yc asn.length zc W (N.m.blk (hW.block b hbw)) hin (fun n hn => hXs _ n hn)
    dsimp only at h9
    rw [hth, hdc0] at h9
    exact h9
  have HTK : Hid (∀ W, Below w.heap.size w W → Calls Tryz.prog 46 #[.map (some b), .agg #[.int .i64 pf, .int .i64 qf, .bool df], .agg #[.int .i64 p2, .int .i64 q2, .bool d2]] W fun e w' => e = .returned (.bool tv) ∧ Below W.heap.size W w') := fun W hW => by
    have h9 := takes_any b s f X (pf, qf, df) (p2, q2, d2) W (N.m.blk (hW.block b hbw)) hfr hXs
    rw [show takesB (pf, qf, df) (p2, q2, d2) (f (Hd.sh (pf, qf, df), Hd.ino (pf, qf, df), false)).isSome (f (Hd.sh (pf, qf, df), Hd.ino (pf, qf, df), true)).isSome s = tv from htv] at h9
    exact h9
  obtain ⟨res, hres⟩ : ∃ r, doF f s ⟨5, (p, q, d), nm, (p2, q2, d2), asn, ov⟩ (pf, qf, df) = r := ⟨_, rfl⟩
  have HRES : Hid ((if (5 : Int) = 4 ∧ tv = false then (f, s, rcI 11) else if dc ≠ 0 then (f, s, rcI dc) else doF2 f s ⟨5, (p, q, d), nm, (p2, q2, d2), asn, ov⟩ (pf, qf, df)) = res) := by
    show _ = _
    rw [← hres]
    unfold doF
    dsimp only [Hd.dir, Hd.sh, Hd.ino]
    rw [hth, hdc0, htv]
  rw [hres]
  have HNEW : Hid (tv = true → f (pf, qf, df) = none) := fun h => by
    rw [← htv] at h
    unfold takesB at h
    simp only [Bool.and_eq_true, Bool.not_eq_true', decide_eq_true_eq] at h
    cases df
    · exact Option.isNone_iff_eq_none.1 (by simpa using h.2.2.2.1)
    · exact Option.isNone_iff_eq_none.1 (by simpa using h.2.2.2.2.1)
  have HR2 : Hid (RdV w S2 (.slice ya nm.length yc) (.bytes nm)) := r2
  have HR3 : Hid (RdV w S2 (.slice za asn.length zc) (.bytes asn)) := r3
  have HDV : Hid (dirC 5 d th = dc) := hdc0
  have HTH : Hid ((f (p, q, d)).isSome = th) := hth
  clear N hXs r2 r3 hS2 hSS hin hito hfr ok hres htv hdc0 hth
  generalize hyn : nm.length = yn at *
  generalize hzn : asn.length = zn at *
  go_enter Tryz.func21, Tryz.ntmps21
  go_wp2_with fail
  go_at_call 47
  refine Calls.mono (HDC.out _ (by repeat (first | exact Below.refl _ _ | refine Below.al2 ?_ _))) ?_
  rintro e w1 ⟨rfl, hb1⟩
  have vO : VarA w1 w.heap.size 35 #[.int .i64 5, .int .i64 p, .int .i64 q, .bool d, .slice ya yn yc, .int .i64 p2, .int .i64 q2, .bool d2, .slice za zn zc, .int .i64 ov] := (((VarA.new w _ _).alloc _).alloc _).step hb1
  have vF : VarA w1 (w.heap.size + 1) 28 #[.int .i64 pf, .int .i64 qf, .bool df] := ((by simpa using VarA.new (w.alloc _) 28 _ : VarA ((w.alloc _).alloc (.cells #[.int .i64 pf, .int .i64 qf, .bool df] 28)) (w.heap.size + 1) _ _).alloc _).step hb1
  have vR : VarA w1 (w.heap.size + 2) 31 #[.int .i64 0, .int .i64 0, .int .i64 0, .bool false, .int .i64 0, .slice none 0 0] := (by simpa using VarA.new ((w.alloc _).alloc _) 31 _ : VarA (((w.alloc _).alloc _).alloc (.cells #[.int .i64 0, .int .i64 0, .int .i64 0, .bool false, .int .i64 0, .slice none 0 0] 31)) (w.heap.size + 2) _ _).step hb1
  have HB1 : Hid (Below w.heap.size w w1) := (show Below w.heap.size w (((w.alloc _).alloc _).alloc _) by repeat (first | exact Below.refl _ _ | refine Below.al2 ?_ _)).trans (hb1.mono (by simp <;> omega))
  have HVR : Hid (VarA w1 (w.heap.size + 2) 31 _) := vR
  have HVO : Hid (VarA w1 w.heap.size 35 _) := vO
  have HVF : Hid (VarA w1 (w.heap.size + 1) 28 _) := vF
  have s1 : w.heap.size + 3 ≤ w1.heap.size := by have := vR.lt; omega
  obtain ⟨q0, q1, q2_, q3, q4, q5, q6, q7, q8, q9⟩ := vO.l10
  obtain ⟨g0, g1, g2⟩ := vF.l3
  clear hb1 vO vF vR
  by_cases hdc : dc = 0
  case neg =>
    have hres2 : res = (f, s, rcI dc) := by rw [← HRES.out]; simp [hdc]
    subst hres2
    have hc1 : (dc == 0) = false := by simpa using hdc
    have hc2 : (dc != 0) = true := by simpa using hdc
    go_wp2_with ((with_reducible refine guardStore (ty := 31) ?_); refine wpList_storeF HVR.out rfl rfl (by kernel_rfl) rfl (of_decide_eq_true rfl) rfl ?_; intro w8 v8 t8)
    refine bodyPost_ret (results_cell_row Tryz.results21 _ _ _ _ _ _ _ rfl v8 Tryz.underlying31 rfl (by kernel_rfl)) rfl ?_
    exact DSub.ret (R := fun _ => False) (P' := P) HB1.out (OwV.nilR _ _ _ _ _) (HNM.out.step HB1.out) (fun c hc => hc.elim) (fun c hc => hc.elim) (fun c hc => .inl hc) (Turned.refl _ _) t8 (by omega) (by omega) HPS.out
  subst hdc
  obtain ⟨rfl, rfl⟩ : d = true ∧ th = true := by
    have h9 := HDV.out
    cases d <;> cases th <;> simp [dirC] at h9 ⊢
  obtain ⟨n, hf⟩ : ∃ n, f (p, q, true) = some n := Option.isSome_iff_exists.1 HTH.out
  have hres2 : res = dropF f s ⟨5, (p, q, true), nm, (p2, q2, d2), asn, ov⟩ := by rw [← HRES.out]; simp [doF2]
  subst hres2
  have HSB : Hid (∀ W, Below w.heap.size w W → _) := fun W hW => dropD_ b s f ⟨5, (p, q, true), nm, (p2, q2, d2), asn, ov⟩ n (.slice ya yn yc) za zn zc S2 P W (HNM.out.step hW) OK.out HI.out hf (HR2.out.step hW) HS2.out hs
  clear HRES HDC HTK HTH HDV
  go_wp2_with (first | (go_at_call 51; refine Calls.mono (HSB.out _ HB1.out) ?_; rintro e w9 ⟨a9, n9, c9, R9, P9, rfl, o9, N9, d9, r9, p9, t9⟩; have s9 := t9.size; have kR := HVR.out.turn t9 (fun h => by have := HPS.out _ h; omega); have HR9 : Hid (VarA w9 (w.heap.size + 2) 31 _) := kR; clear kR) | ((with_reducible refine guardStore (ty := 31) ?_); refine wpList_storeF HR9.out rfl rfl (by kernel_rfl) rfl (of_decide_eq_true rfl) rfl ?_; intro w8 v8 t8))
  refine bodyPost_ret (results_cell_row Tryz.results21 _ _ _ _ _ _ _ rfl v8 Tryz.underlying31 rfl (by kernel_rfl)) rfl ?_
  exact DSub.ret HB1.out o9 N9 d9 r9 p9 t9 t8 (by omega) (by omega) HPS.out
set_option maxHeartbeats 4000000 in
theorem implDo6 (b s : Nat) (f : Hd → Option Nd) (o : OpD) (fr : Hd) (y z : Value) (S2 P : Nat → Prop) (w : World) (N : NM w b s f P) (ok : FOk f) (hin : HIn o.dir) (hito : HIn o.to) (hfr : HIn fr) (r2 : RdV w S2 y (.bytes o.nm)) (r3 : RdV w S2 z (.bytes o.asn)) (hS2 : ∀ c, S2 c → ¬ P c) (hSS : ∀ c, S2 c → c < w.heap.size) (hnm : o.nm.length ≤ 2097152) (hna : o.asn.length ≤ 2097152) (hs : s ≤ 2097000) (hok : OOk o = true) (hk : o.kind = 6) :
    Calls Tryz.prog 21 #[.map (some b), opV o y z, fr.v] w (DSub w b P (doF f s o fr)) := by
  obtain ⟨ya, yc, rfl⟩ := r2.sliceB
  obtain ⟨za, zc, rfl⟩ := r3.sliceB
  have HNM : Hid (NM w b s f P) := N
  have HPS : Hid (∀ c, P c → c < w.heap.size) := N.sm
  have hbw := N.lt
  obtain ⟨X, Q, N⟩ := N
  have HN : Hid (NX w b s f X Q P) := N
  have hXs : ∀ h n, f h = some n → ∃ a m c, X n.h = .slice a m c := fun h n hn => by obtain ⟨a, c, e, _⟩ := RdV.sliced (N.rd h n hn); exact ⟨a, _, c, e⟩
  obtain ⟨kd, ⟨p, q, d⟩, nm, ⟨p2, q2, d2⟩, asn, ov⟩ := o
  obtain ⟨pf, qf, df⟩ := fr
  dsimp only at hin hito hfr r2 r3 hnm hna hk
  subst hk
  have HQ : Hid (isNm nm = true) := by simp [OOk, nmB, nmP] at hok; exact hok.2.1
  clear hok
  have HI : Hid (HIn (p, q, d)) := hin
  have HIT : Hid (HIn (p2, q2, d2)) := hito
  have HIF : Hid (HIn (pf, qf, df)) := hfr
  have HS2 : Hid (∀ c, S2 c → ¬ P c) := hS2
  have HSS : Hid (∀ c, S2 c → c < w.heap.size) := hSS
  have OK : Hid (FOk f) := ok
  obtain ⟨th, hth⟩ : ∃ th, (f (p, q, d)).isSome = th := ⟨_, rfl⟩
  obtain ⟨dc, hdc0⟩ : ∃ r, dirC 6 d th = r := ⟨_, rfl⟩
  obtain ⟨tv, htv⟩ : ∃ r, takesB (pf, qf, df) (p2, q2, d2) (f (pf, qf, false)).isSome (f (pf, qf, true)).isSome s = r := ⟨_, rfl⟩
  have HDC : Hid (∀ W, Below w.heap.size w W → Calls Tryz.prog 47 #[.map (some b), .agg #[.int .i64 6, .int .i64 p, .int .i64 q, .bool d, .slice ya nm.length yc, .int .i64 p2, .int .i64 q2, .bool d2, .slice za asn.length zc, .int .i64 ov]] W fun e w' => e = .returned (.int .i64 dc) ∧ Below W.heap.size W w') := fun W hW => by
    have h9 := dirCode_any b s f X ⟨6, (p, q, d), nm, (p2, q2, d2), asn, ov⟩ ya za nm.length yc asn.length zc W (N.m.blk (hW.block b hbw)) hin (fun n hn => hXs _ n hn)
    dsimp only at h9
    rw [hth, hdc0] at h9
    exact h9
  have HTK : Hid (∀ W, Below w.heap.size w W → Calls Tryz.prog 46 #[.map (some b), .agg #[.int .i64 pf, .int .i64 qf, .bool df], .agg #[.int .i64 p2, .int .i64 q2, .bool d2]] W fun e w' => e = .returned (.bool tv) ∧ Below W.heap.size W w') := fun W hW => by
    have h9 := takes_any b s f X (pf, qf, df) (p2, q2, d2) W (N.m.blk (hW.block b hbw)) hfr hXs
    rw [show takesB (pf, qf, df) (p2, q2, d2) (f (Hd.sh (pf, qf, df), Hd.ino (pf, qf, df), false)).isSome (f (Hd.sh (pf, qf, df), Hd.ino (pf, qf, df), true)).isSome s = tv from htv] at h9
    exact h9
  obtain ⟨res, hres⟩ : ∃ r, doF f s ⟨6, (p, q, d), nm, (p2, q2, d2), asn, ov⟩ (pf, qf, df) = r := ⟨_, rfl⟩
  have HRES : Hid ((if (6 : Int) = 4 ∧ tv = false then (f, s, rcI 11) else if dc ≠ 0 then (f, s, rcI dc) else doF2 f s ⟨6, (p, q, d), nm, (p2, q2, d2), asn, ov⟩ (pf, qf, df)) = res) := by
    show _ = _
    rw [← hres]
    unfold doF
    dsimp only [Hd.dir, Hd.sh, Hd.ino]
    rw [hth, hdc0, htv]
  rw [hres]
  have HNEW : Hid (tv = true → f (pf, qf, df) = none) := fun h => by
    rw [← htv] at h
    unfold takesB at h
    simp only [Bool.and_eq_true, Bool.not_eq_true', decide_eq_true_eq] at h
    cases df
    · exact Option.isNone_iff_eq_none.1 (by simpa using h.2.2.2.1)
    · exact Option.isNone_iff_eq_none.1 (by simpa using h.2.2.2.2.1)
  have HR2 : Hid (RdV w S2 (.slice ya nm.length yc) (.bytes nm)) := r2
  have HR3 : Hid (RdV w S2 (.slice za asn.length zc) (.bytes asn)) := r3
  have HDV : Hid (dirC 6 d th = dc) := hdc0
  have HTH : Hid ((f (p, q, d)).isSome = th) := hth
  clear N hXs r2 r3 hS2 hSS hin hito hfr ok hres htv hdc0 hth
  generalize hyn : nm.length = yn at *
  generalize hzn : asn.length = zn at *
  go_enter Tryz.func21, Tryz.ntmps21
  go_wp2_with fail
  go_at_call 47
  refine Calls.mono (HDC.out _ (by repeat (first | exact Below.refl _ _ | refine Below.al2 ?_ _))) ?_
  rintro e w1 ⟨rfl, hb1⟩
  have vO : VarA w1 w.heap.size 35 #[.int .i64 6, .int .i64 p, .int .i64 q, .bool d, .slice ya yn yc, .int .i64 p2, .int .i64 q2, .bool d2, .slice za zn zc, .int .i64 ov] := (((VarA.new w _ _).alloc _).alloc _).step hb1
  have vF : VarA w1 (w.heap.size + 1) 28 #[.int .i64 pf, .int .i64 qf, .bool df] := ((by simpa using VarA.new (w.alloc _) 28 _ : VarA ((w.alloc _).alloc (.cells #[.int .i64 pf, .int .i64 qf, .bool df] 28)) (w.heap.size + 1) _ _).alloc _).step hb1
  have vR : VarA w1 (w.heap.size + 2) 31 #[.int .i64 0, .int .i64 0, .int .i64 0, .bool false, .int .i64 0, .slice none 0 0] := (by simpa using VarA.new ((w.alloc _).alloc _) 31 _ : VarA (((w.alloc _).alloc _).alloc (.cells #[.int .i64 0, .int .i64 0, .int .i64 0, .bool false, .int .i64 0, .slice none 0 0] 31)) (w.heap.size + 2) _ _).step hb1
  have HB1 : Hid (Below w.heap.size w w1) := (show Below w.heap.size w (((w.alloc _).alloc _).alloc _) by repeat (first | exact Below.refl _ _ | refine Below.al2 ?_ _)).trans (hb1.mono (by simp <;> omega))
  have HVR : Hid (VarA w1 (w.heap.size + 2) 31 _) := vR
  have HVO : Hid (VarA w1 w.heap.size 35 _) := vO
  have HVF : Hid (VarA w1 (w.heap.size + 1) 28 _) := vF
  have s1 : w.heap.size + 3 ≤ w1.heap.size := by have := vR.lt; omega
  obtain ⟨q0, q1, q2_, q3, q4, q5, q6, q7, q8, q9⟩ := vO.l10
  obtain ⟨g0, g1, g2⟩ := vF.l3
  clear hb1 vO vF vR
  by_cases hdc : dc = 0
  case neg =>
    have hres2 : res = (f, s, rcI dc) := by rw [← HRES.out]; simp [hdc]
    subst hres2
    have hc1 : (dc == 0) = false := by simpa using hdc
    have hc2 : (dc != 0) = true := by simpa using hdc
    go_wp2_with ((with_reducible refine guardStore (ty := 31) ?_); refine wpList_storeF HVR.out rfl rfl (by kernel_rfl) rfl (of_decide_eq_true rfl) rfl ?_; intro w8 v8 t8)
    refine bodyPost_ret (results_cell_row Tryz.results21 _ _ _ _ _ _ _ rfl v8 Tryz.underlying31 rfl (by kernel_rfl)) rfl ?_
    exact DSub.ret (R := fun _ => False) (P' := P) HB1.out (OwV.nilR _ _ _ _ _) (HNM.out.step HB1.out) (fun c hc => hc.elim) (fun c hc => hc.elim) (fun c hc => .inl hc) (Turned.refl _ _) t8 (by omega) (by omega) HPS.out
  subst hdc
  obtain ⟨rfl, rfl⟩ : d = true ∧ th = true := by
    have h9 := HDV.out
    cases d <;> cases th <;> simp [dirC] at h9 ⊢
  obtain ⟨n, hf⟩ : ∃ n, f (p, q, true) = some n := Option.isSome_iff_exists.1 HTH.out
  have hres2 : res = linkF f s ⟨6, (p, q, true), nm, (p2, q2, d2), asn, ov⟩ := by rw [← HRES.out]; simp [doF2]
  subst hres2
  have HSB : Hid (∀ W, Below w.heap.size w W → _) := fun W hW => linkD b s f ⟨6, (p, q, true), nm, (p2, q2, d2), asn, ov⟩ HQ.out n (.slice ya yn yc) za zn zc S2 P W (HNM.out.step hW) OK.out HI.out HIT.out hf rfl (HR2.out.step hW) HS2.out (by dsimp only; omega) hs
  clear HRES HDC HTK HTH HDV
  go_wp2_with (first | (go_at_call 52; refine Calls.mono (HSB.out _ HB1.out) ?_; rintro e w9 ⟨a9, n9, c9, R9, P9, rfl, o9, N9, d9, r9, p9, t9⟩; have s9 := t9.size; have kR := HVR.out.turn t9 (fun h => by have := HPS.out _ h; omega); have HR9 : Hid (VarA w9 (w.heap.size + 2) 31 _) := kR; clear kR) | ((with_reducible refine guardStore (ty := 31) ?_); refine wpList_storeF HR9.out rfl rfl (by kernel_rfl) rfl (of_decide_eq_true rfl) rfl ?_; intro w8 v8 t8))
  refine bodyPost_ret (results_cell_row Tryz.results21 _ _ _ _ _ _ _ rfl v8 Tryz.underlying31 rfl (by kernel_rfl)) rfl ?_
  exact DSub.ret HB1.out o9 N9 d9 r9 p9 t9 t8 (by omega) (by omega) HPS.out
set_option maxHeartbeats 4000000 in
theorem implDo7 (b s : Nat) (f : Hd → Option Nd) (o : OpD) (fr : Hd) (y z : Value) (S2 P : Nat → Prop) (w : World) (N : NM w b s f P) (ok : FOk f) (hin : HIn o.dir) (hito : HIn o.to) (hfr : HIn fr) (r2 : RdV w S2 y (.bytes o.nm)) (r3 : RdV w S2 z (.bytes o.asn)) (hS2 : ∀ c, S2 c → ¬ P c) (hSS : ∀ c, S2 c → c < w.heap.size) (hnm : o.nm.length ≤ 2097152) (hna : o.asn.length ≤ 2097152) (hs : s ≤ 2097000) (hok : OOk o = true) (hk : o.kind = 7) :
    Calls Tryz.prog 21 #[.map (some b), opV o y z, fr.v] w (DSub w b P (doF f s o fr)) := by
  obtain ⟨ya, yc, rfl⟩ := r2.sliceB
  obtain ⟨za, zc, rfl⟩ := r3.sliceB
  have HNM : Hid (NM w b s f P) := N
  have HPS : Hid (∀ c, P c → c < w.heap.size) := N.sm
  have hbw := N.lt
  obtain ⟨X, Q, N⟩ := N
  have HN : Hid (NX w b s f X Q P) := N
  have hXs : ∀ h n, f h = some n → ∃ a m c, X n.h = .slice a m c := fun h n hn => by obtain ⟨a, c, e, _⟩ := RdV.sliced (N.rd h n hn); exact ⟨a, _, c, e⟩
  obtain ⟨kd, ⟨p, q, d⟩, nm, ⟨p2, q2, d2⟩, asn, ov⟩ := o
  obtain ⟨pf, qf, df⟩ := fr
  dsimp only at hin hito hfr r2 r3 hnm hna hk
  subst hk
  have HQ : Hid (isNm asn = true) := by simp [OOk, asB, asP] at hok; exact hok.2.2.2.1
  clear hok
  have HI : Hid (HIn (p, q, d)) := hin
  have HIT : Hid (HIn (p2, q2, d2)) := hito
  have HIF : Hid (HIn (pf, qf, df)) := hfr
  have HS2 : Hid (∀ c, S2 c → ¬ P c) := hS2
  have HSS : Hid (∀ c, S2 c → c < w.heap.size) := hSS
  have OK : Hid (FOk f) := ok
  obtain ⟨th, hth⟩ : ∃ th, (f (p, q, d)).isSome = th := ⟨_, rfl⟩
  obtain ⟨dc, hdc0⟩ : ∃ r, dirC 7 d th = r := ⟨_, rfl⟩
  obtain ⟨tv, htv⟩ : ∃ r, takesB (pf, qf, df) (p2, q2, d2) (f (pf, qf, false)).isSome (f (pf, qf, true)).isSome s = r := ⟨_, rfl⟩
  have HDC : Hid (∀ W, Below w.heap.size w W → Calls Tryz.prog 47 #[.map (some b), .agg #[.int .i64 7, .int .i64 p, .int .i64 q, .bool d, .slice ya nm.length yc, .int .i64 p2, .int .i64 q2, .bool d2, .slice za asn.length zc, .int .i64 ov]] W fun e w' => e = .returned (.int .i64 dc) ∧ Below W.heap.size W w') := fun W hW => by
    have h9 := dirCode_any b s f X ⟨7, (p, q, d), nm, (p2, q2, d2), asn, ov⟩ ya za nm.length yc asn.length zc W (N.m.blk (hW.block b hbw)) hin (fun n hn => hXs _ n hn)
    dsimp only at h9
    rw [hth, hdc0] at h9
    exact h9
  have HTK : Hid (∀ W, Below w.heap.size w W → Calls Tryz.prog 46 #[.map (some b), .agg #[.int .i64 pf, .int .i64 qf, .bool df], .agg #[.int .i64 p2, .int .i64 q2, .bool d2]] W fun e w' => e = .returned (.bool tv) ∧ Below W.heap.size W w') := fun W hW => by
    have h9 := takes_any b s f X (pf, qf, df) (p2, q2, d2) W (N.m.blk (hW.block b hbw)) hfr hXs
    rw [show takesB (pf, qf, df) (p2, q2, d2) (f (Hd.sh (pf, qf, df), Hd.ino (pf, qf, df), false)).isSome (f (Hd.sh (pf, qf, df), Hd.ino (pf, qf, df), true)).isSome s = tv from htv] at h9
    exact h9
  obtain ⟨res, hres⟩ : ∃ r, doF f s ⟨7, (p, q, d), nm, (p2, q2, d2), asn, ov⟩ (pf, qf, df) = r := ⟨_, rfl⟩
  have HRES : Hid ((if (7 : Int) = 4 ∧ tv = false then (f, s, rcI 11) else if dc ≠ 0 then (f, s, rcI dc) else doF2 f s ⟨7, (p, q, d), nm, (p2, q2, d2), asn, ov⟩ (pf, qf, df)) = res) := by
    show _ = _
    rw [← hres]
    unfold doF
    dsimp only [Hd.dir, Hd.sh, Hd.ino]
    rw [hth, hdc0, htv]
  rw [hres]
  have HNEW : Hid (tv = true → f (pf, qf, df) = none) := fun h => by
    rw [← htv] at h
    unfold takesB at h
    simp only [Bool.and_eq_true, Bool.not_eq_true', decide_eq_true_eq] at h
    cases df
    · exact Option.isNone_iff_eq_none.1 (by simpa using h.2.2.2.1)
    · exact Option.isNone_iff_eq_none.1 (by simpa using h.2.2.2.2.1)
  have HR2 : Hid (RdV w S2 (.slice ya nm.length yc) (.bytes nm)) := r2
  have HR3 : Hid (RdV w S2 (.slice za asn.length zc) (.bytes asn)) := r3
  have HDV : Hid (dirC 7 d th = dc) := hdc0
  have HTH : Hid ((f (p, q, d)).isSome = th) := hth
  clear N hXs r2 r3 hS2 hSS hin hito hfr ok hres htv hdc0 hth
  generalize hyn : nm.length = yn at *
  generalize hzn : asn.length = zn at *
  go_enter Tryz.func21, Tryz.ntmps21
  go_wp2_with fail
  go_at_call 47
  refine Calls.mono (HDC.out _ (by repeat (first | exact Below.refl _ _ | refine Below.al2 ?_ _))) ?_
  rintro e w1 ⟨rfl, hb1⟩
  have vO : VarA w1 w.heap.size 35 #[.int .i64 7, .int .i64 p, .int .i64 q, .bool d, .slice ya yn yc, .int .i64 p2, .int .i64 q2, .bool d2, .slice za zn zc, .int .i64 ov] := (((VarA.new w _ _).alloc _).alloc _).step hb1
  have vF : VarA w1 (w.heap.size + 1) 28 #[.int .i64 pf, .int .i64 qf, .bool df] := ((by simpa using VarA.new (w.alloc _) 28 _ : VarA ((w.alloc _).alloc (.cells #[.int .i64 pf, .int .i64 qf, .bool df] 28)) (w.heap.size + 1) _ _).alloc _).step hb1
  have vR : VarA w1 (w.heap.size + 2) 31 #[.int .i64 0, .int .i64 0, .int .i64 0, .bool false, .int .i64 0, .slice none 0 0] := (by simpa using VarA.new ((w.alloc _).alloc _) 31 _ : VarA (((w.alloc _).alloc _).alloc (.cells #[.int .i64 0, .int .i64 0, .int .i64 0, .bool false, .int .i64 0, .slice none 0 0] 31)) (w.heap.size + 2) _ _).step hb1
  have HB1 : Hid (Below w.heap.size w w1) := (show Below w.heap.size w (((w.alloc _).alloc _).alloc _) by repeat (first | exact Below.refl _ _ | refine Below.al2 ?_ _)).trans (hb1.mono (by simp <;> omega))
  have HVR : Hid (VarA w1 (w.heap.size + 2) 31 _) := vR
  have HVO : Hid (VarA w1 w.heap.size 35 _) := vO
  have HVF : Hid (VarA w1 (w.heap.size + 1) 28 _) := vF
  have s1 : w.heap.size + 3 ≤ w1.heap.size := by have := vR.lt; omega
  obtain ⟨q0, q1, q2_, q3, q4, q5, q6, q7, q8, q9⟩ := vO.l10
  obtain ⟨g0, g1, g2⟩ := vF.l3
  clear hb1 vO vF vR
  by_cases hdc : dc = 0
  case neg =>
    have hres2 : res = (f, s, rcI dc) := by rw [← HRES.out]; simp [hdc]
    subst hres2
    have hc1 : (dc == 0) = false := by simpa using hdc
    have hc2 : (dc != 0) = true := by simpa using hdc
    go_wp2_with ((with_reducible refine guardStore (ty := 31) ?_); refine wpList_storeF HVR.out rfl rfl (by kernel_rfl) rfl (of_decide_eq_true rfl) rfl ?_; intro w8 v8 t8)
    refine bodyPost_ret (results_cell_row Tryz.results21 _ _ _ _ _ _ _ rfl v8 Tryz.underlying31 rfl (by kernel_rfl)) rfl ?_
    exact DSub.ret (R := fun _ => False) (P' := P) HB1.out (OwV.nilR _ _ _ _ _) (HNM.out.step HB1.out) (fun c hc => hc.elim) (fun c hc => hc.elim) (fun c hc => .inl hc) (Turned.refl _ _) t8 (by omega) (by omega) HPS.out
  subst hdc
  obtain ⟨rfl, rfl⟩ : d = true ∧ th = true := by
    have h9 := HDV.out
    cases d <;> cases th <;> simp [dirC] at h9 ⊢
  obtain ⟨n, hf⟩ : ∃ n, f (p, q, true) = some n := Option.isSome_iff_exists.1 HTH.out
  have hres2 : res = moveF f s ⟨7, (p, q, true), nm, (p2, q2, d2), asn, ov⟩ := by rw [← HRES.out]; simp [doF2]
  subst hres2
  have HSB : Hid (∀ W, Below w.heap.size w W → _) := fun W hW => moveD_ b s f ⟨7, (p, q, true), nm, (p2, q2, d2), asn, ov⟩ HQ.out n (.slice ya yn yc) (.slice za zn zc) S2 P W (HNM.out.step hW) OK.out HI.out HIT.out hf (HR2.out.step hW) (HR3.out.step hW) HS2.out (fun c hc => Nat.lt_of_lt_of_le (HSS.out c hc) hW.size) hs (by dsimp only; omega)
  clear HRES HDC HTK HTH HDV
  go_wp2_with (first | (go_at_call 53; refine Calls.mono (HSB.out _ HB1.out) ?_; rintro e w9 ⟨a9, n9, c9, R9, P9, rfl, o9, N9, d9, r9, p9, t9⟩; have s9 := t9.size; have kR := HVR.out.turn t9 (fun h => by have := HPS.out _ h; omega); have HR9 : Hid (VarA w9 (w.heap.size + 2) 31 _) := kR; clear kR) | ((with_reducible refine guardStore (ty := 31) ?_); refine wpList_storeF HR9.out rfl rfl (by kernel_rfl) rfl (of_decide_eq_true rfl) rfl ?_; intro w8 v8 t8))
  refine bodyPost_ret (results_cell_row Tryz.results21 _ _ _ _ _ _ _ rfl v8 Tryz.underlying31 rfl (by kernel_rfl)) rfl ?_
  exact DSub.ret HB1.out o9 N9 d9 r9 p9 t9 t8 (by omega) (by omega) HPS.out
end
section
theorem lessH_trans {a b c : Hd} (h : lessH a b = true) (g : lessH b c = true) : lessH a c = true := by
  simp only [lessH, Bool.or_eq_true, Bool.and_eq_true, decide_eq_true_eq] at *
  omega
theorem lessH_irr (a : Hd) : lessH a a = false := by
  rw [Bool.eq_false_iff]; intro h
  simp only [lessH, Bool.or_eq_true, Bool.and_eq_true, decide_eq_true_eq] at h
  omega
theorem ascL_at {l : List Nd} (h : ascL l = true) {i : Nat} (hi : i + 1 < l.length) : lessH (l[i]?.getD nd0).h (l[i + 1]?.getD nd0).h = true := by
  unfold ascL at h
  rw [List.all_eq_true] at h
  have h1 := h (i + 1) (by simpa using hi)
  simpa [ascAt] using h1
theorem ascL_less {l : List Nd} (h : ascL l = true) (i : Nat) : ∀ d, i + d + 1 < l.length → lessH (l[i]?.getD nd0).h (l[i + d + 1]?.getD nd0).h = true
  | 0, hi => ascL_at h hi
  | d + 1, hi => lessH_trans (ascL_less h i d (by omega)) (ascL_at h (i := i + d + 1) (by omega))
theorem ascL_one {l : List Nd} (h : ascL l = true) : OneH l := by
  intro i j hi hj he
  rcases Nat.lt_trichotomy i j with hij | hij | hij
  · have h1 := ascL_less h i (j - i - 1) (by omega)
    rw [show i + (j - i - 1) + 1 = j by omega, he, lessH_irr] at h1; cases h1
  · exact hij
  · have h1 := ascL_less h j (i - j - 1) (by omega)
    rw [show j + (i - j - 1) + 1 = i by omega, he, lessH_irr] at h1; cases h1
theorem ndI_h {n : Nd} (h : ndI n = true) : HIn n.h := by
  simp only [ndI, Bool.and_eq_true] at h
  exact HOk.inn h.1.1
theorem ndI_par {n : Nd} (h : ndI n = true) : HIn n.par := by
  simp only [ndI, Bool.and_eq_true] at h
  have h2 := h.2
  split at h2
  · simp only [dirOk, Bool.and_eq_true] at h2; exact HOk.inn h2.1.2.2.1
  · simp only [fileOk, Bool.and_eq_true, decide_eq_true_eq] at h2; rw [h2.2.2]; exact hd0_in
theorem ndI_es {n : Nd} (h : ndI n = true) : n.es.length ≤ 12 ∧ ∀ j, j < n.es.length → HIn (n.es[j]?.getD en0).h := by
  simp only [ndI, Bool.and_eq_true] at h
  have h2 := h.2
  split at h2
  · simp only [Bool.and_eq_true, entsI, decide_eq_true_eq, List.all_eq_true] at h2
    refine ⟨h2.2.1, fun j hj => ?_⟩
    have h3 := h2.2.2 j (by simpa using hj)
    simp only [enAt, Bool.and_eq_true] at h3
    exact HOk.inn h3.2.1
  · simp only [fileOk, Bool.and_eq_true, decide_eq_true_eq] at h2
    exact ⟨by omega, fun j hj => by omega⟩
theorem atH_mem {l : List Nd} {k : Nat} {g : Hd} {n : Nd} (h : atH l k g = some n) : n ∈ l := List.mem_of_mem_take (List.mem_of_find?_eq_some h)
theorem atH_par {l : List Nd} (hall : (List.range l.length).all (fun i => ndI (l[i]?.getD nd0)) = true) (g : Hd) (n : Nd) (h : atH l l.length g = some n) : HIn n.par := by
  obtain ⟨i, hi, rfl⟩ := List.getElem_of_mem (atH_mem h)
  rw [List.all_eq_true] at hall
  have h1 := hall i (by simpa using hi)
  rw [List.getElem?_eq_getElem hi] at h1
  exact ndI_par h1
def ndIAt (l : List Nd) (i : Nat) : Bool := ndI (l[i]?.getD nd0)
def treeI (l : List Nd) : Bool := (decide (1 ≤ l.length) && (decide (l.length ≤ 240) && ascL l)) && ((decide ((l[0]?.getD nd0).h = rootH) && decide ((l[0]?.getD nd0).par = rootH)) && ((List.range l.length).all (ndIAt l) && (leadR (atH l l.length) l && (List.range l.length).all (climbAt (atH l l.length) l.length l))))
end
section
set_option maxRecDepth 100000 in
set_option maxHeartbeats 1000000 in
theorem implTree_any (x : Value) (l : List Nd) (S : Nat → Prop) (w : World) (r : RdV w S x (ndsDt l)) (hl : szNds l ≤ 2097152) :
    Calls Tryz.prog 8 #[.agg #[x]] w fun e w' => e = .returned (.bool (treeI l)) ∧ Below w.heap.size w w' := by
  obtain ⟨a, cap, rfl, _⟩ := RdV.sliced r
  have hl1 : l.length ≤ 2097152 := by unfold szNds at hl; omega
  have HR0 : Hid (RdV w S (.slice a l.length cap) (ndsDt l)) := r
  have HR : Hid (∀ W, Below w.heap.size w W → RdV W S (.slice a l.length cap) (ndsDt l)) := RdV.old r
  have HAS : Hid (∀ W, Below w.heap.size w W → _) := fun W hW => ascending_any _ l S W (HR.out W hW) hl1
  have HSZ : Hid (∀ i, i < l.length → szEns (l[i]?.getD nd0).es ≤ 2097152) := fun i hi => by have := szNds_at l i; omega
  have HRT : Hid (∀ W, _) := fun W => implRootH_any W
  obtain ⟨n, hn⟩ : ∃ n, l.length = n := ⟨_, rfl⟩
  have HN : Hid (l.length = n) := hn
  have HV : Hid (treeI l = ((decide (1 ≤ n) && (decide (n ≤ 240) && ascL l)) && ((decide ((l[0]?.getD nd0).h = rootH) && decide ((l[0]?.getD nd0).par = rootH)) && ((List.range n).all (ndIAt l) && (leadR (atH l n) l && (List.range n).all (climbAt (atH l n) n l)))))) := by show _ = _; unfold treeI; rw [hn]
  rw [hn] at HR HAS hl1 HSZ ⊢
  clear r hl HR0
  by_cases hn1 : 1 ≤ n ∧ n ≤ 240
  case neg =>
    have HF : Hid (treeI l = false) := by
      rw [HV.out]; show _ = _
      rw [Bool.eq_false_iff]; intro h
      simp only [Bool.and_eq_true, decide_eq_true_eq] at h
      exact hn1 ⟨h.1.1, h.1.2.1⟩
    rw [HF.out]
    clear HV HF HAS HR HSZ HN hn
    go_enter Tryz.func8, Tryz.ntmps8
    go_wp2_with fail
    all_goals first | (go_ret; exact ⟨rfl, Below.newH _⟩) | (exfalso; omega)
  obtain ⟨h1, h240⟩ := hn1
  obtain ⟨asc, has⟩ : ∃ asc, ascL l = asc := ⟨_, rfl⟩
  have HAE : Hid (ascL l = asc) := has
  rw [has] at HAS
  have v0 : VarA (w.alloc (.cells #[.slice a n cap] 25)) w.heap.size 25 #[.slice a n cap] := VarA.new w _ _
  have c0 := v0.l1
  have HB0 : Hid (Below w.heap.size w (w.alloc (.cells #[.slice a n cap] 25))) := Below.newH _
  clear hn has
  cases asc with
  | false =>
    have HF : Hid (treeI l = false) := by rw [HV.out, HAE.out]; show _ = _; simp
    rw [HF.out]
    clear HV HF HSZ HR
    go_enter Tryz.func8, Tryz.ntmps8
    go_wp2_with fail
    refine Calls.mono (HAS.out _ HB0.out) ?_
    rintro e w2 ⟨rfl, b_⟩
    have hb2 := HB0.out.trans (b_.mono HB0.out.size)
    clear v0 c0 b_
    go_wp2
    go_ret
    exact ⟨rfl, hb2⟩
  | true =>
  have HV2 : Hid (treeI l = ((decide ((l[0]?.getD nd0).h = rootH) && decide ((l[0]?.getD nd0).par = rootH)) && ((List.range n).all (ndIAt l) && (leadR (atH l n) l && (List.range n).all (climbAt (atH l n) n l))))) := by rw [HV.out, HAE.out]; show _ = _; simp [h1, h240]
  rw [HV2.out]
  have HONE : Hid (OneH l) := ascL_one HAE.out
  have HRR : Hid (∀ W, Below w.heap.size w W → RdV W S (.slice a n cap) (.rows 51 9 n (fun i j => ndCell (l[i]?.getD nd0) j))) := fun W hW => by
    have h9 := HR.out W hW; unfold ndsDt at h9; rw [HN.out] at h9; exact h9
  clear HV HV2 HAE
  go_enter Tryz.func8, Tryz.ntmps8
  go_wp2_with fail
  refine Calls.mono (HAS.out _ HB0.out) ?_
  rintro e w2 ⟨rfl, b_⟩
  have hb2 := HB0.out.trans (b_.mono HB0.out.size)
  have v2 := v0.step b_
  clear v0 c0 b_ HAS HB0
  have c0 := v2.l1
  obtain ⟨b, off, rfl, hbl, _, hx⟩ := RdV.at (HRR.out w2 hb2) (show 0 < n by omega)
  obtain ⟨x0, g0, s0⟩ := hx 0 (by omega)
  obtain ⟨x1, g1, s1⟩ := hx 1 (by omega)
  obtain ⟨x2, g2, s2⟩ := hx 2 (by omega)
  obtain ⟨x3, g3, s3⟩ := hx 3 (by omega)
  obtain ⟨x4, g4, s4⟩ := hx 4 (by omega)
  obtain ⟨x5, g5, s5⟩ := hx 5 (by omega)
  obtain ⟨x6, g6, s6⟩ := hx 6 (by omega)
  obtain ⟨x7, g7, s7⟩ := hx 7 (by omega)
  obtain ⟨x8, g8, s8⟩ := hx 8 (by omega)
  clear hx
  obtain ⟨e, he⟩ : ∃ e, l[0]?.getD nd0 = e := ⟨_, rfl⟩
  have HE0 : Hid (l[0]?.getD nd0 = e) := he
  rw [he] at s0 s1 s2 s3 s4 s5 s6 s7 s8
  clear he
  obtain ⟨⟨p, q, d⟩, ⟨p2, q2, d2⟩, lk, vl, es⟩ := e
  obtain rfl : x0 = .int .i64 p := s0
  obtain rfl : x1 = .int .i64 q := s1
  obtain rfl : x2 = .bool d := s2
  obtain rfl : x3 = .int .i64 p2 := s3
  obtain rfl : x4 = .int .i64 q2 := s4
  obtain rfl : x5 = .bool d2 := s5
  obtain rfl : x6 = .int .i64 lk := s6
  obtain rfl : x7 = .int .i64 vl := s7
  have S8 : RdV w2 S x8 (ensDt es) := s8
  obtain ⟨xa, xc, rfl, _⟩ := RdV.sliced S8
  generalize es.length = xn at g8
  clear S8 s8
  simp only [Nat.zero_mul, Nat.add_zero] at g0 g1 g2 g3 g4 g5 g6 g7 g8
  have VN := VarA.new w2 51 #[.int .i64 p, .int .i64 q, .bool d, .int .i64 p2, .int .i64 q2, .bool d2, .int .i64 lk, .int .i64 vl, .slice xa xn xc]
  obtain ⟨n0, n1, n2, n3, n4, n5, n6, n7, n8⟩ := VN.l9
  haveI : Nonempty (Cls (w2.alloc (.cells #[.int .i64 p, .int .i64 q, .bool d, .int .i64 p2, .int .i64 q2, .bool d2, .int .i64 lk, .int .i64 vl, .slice xa xn xc] 51))) := Cls.ne _
  have k0 := Cls.cell VN.lt n0
  have k1 := Cls.cell VN.lt n1
  have k2 := Cls.cell VN.lt n2
  have k3 := Cls.cell VN.lt n3
  have k4 := Cls.cell VN.lt n4
  have k5 := Cls.cell VN.lt n5
  clear n0 n1 n2 n3 n4 n5 n6 n7 n8
  have v3 := v2.alloc (.cells #[.int .i64 p, .int .i64 q, .bool d, .int .i64 p2, .int .i64 q2, .bool d2, .int .i64 lk, .int .i64 vl, .slice xa xn xc] 51)
  have HB3 : Hid (Below w.heap.size w (w2.alloc (.cells #[.int .i64 p, .int .i64 q, .bool d, .int .i64 p2, .int .i64 q2, .bool d2, .int .i64 lk, .int .i64 vl, .slice xa xn xc] 51))) := hb2.alloc hb2.size _
  by_cases h3 : ((p, q, d) : Hd) = rootH
  case neg =>
    have hne : ∀ W : World, (binOp .neq 28 (.agg #[.int .i64 p, .int .i64 q, .bool d]) (.agg #[.int .i64 0, .int .i64 1, .bool true])).run Tryz.prog W = .ok (.bool true) W := fun W => by rw [neH_run, decH_false h3]; rfl
    have HF : Hid (((decide ((l[0]?.getD nd0).h = rootH) && decide ((l[0]?.getD nd0).par = rootH)) && ((List.range n).all (ndIAt l) && (leadR (atH l n) l && (List.range n).all (climbAt (atH l n) n l)))) = false) := by rw [HE0.out]; show _ = _; simp [h3]
    clear h3 k3 k4 k5
    go_wp2
    refine wp_region_cls (by kernel_rfl) (by kernel_rfl) ?_
    repeat (go_big_quiet_step (first | (go_at_call 17; exact Calls.cls_new (HRT.out _))))
    refine wpQuiet_nil ?_
    rintro w' ⟨⟨w', hb'⟩, rfl⟩
    go_wp2
    go_ret
    exact ⟨by rw [HF.out]; rfl, HB3.out.trans (hb'.mono HB3.out.size)⟩
  have hne : ∀ W : World, (binOp .neq 28 (.agg #[.int .i64 p, .int .i64 q, .bool d]) (.agg #[.int .i64 0, .int .i64 1, .bool true])).run Tryz.prog W = .ok (.bool false) W := fun W => by rw [neH_run, decH_true h3]; rfl
  by_cases h4 : ((p2, q2, d2) : Hd) = rootH
  case neg =>
    have hne2 : ∀ W : World, (binOp .neq 28 (.agg #[.int .i64 p2, .int .i64 q2, .bool d2]) (.agg #[.int .i64 0, .int .i64 1, .bool true])).run Tryz.prog W = .ok (.bool true) W := fun W => by rw [neH_run, decH_false h4]; rfl
    have HF : Hid (((decide ((l[0]?.getD nd0).h = rootH) && decide ((l[0]?.getD nd0).par = rootH)) && ((List.range n).all (ndIAt l) && (leadR (atH l n) l && (List.range n).all (climbAt (atH l n) n l)))) = false) := by rw [HE0.out]; show _ = _; simp [h4]
    clear h3 h4
    go_wp2
    refine wp_region_cls (by kernel_rfl) (by kernel_rfl) ?_
    repeat (go_big_quiet_step (first | (go_at_call 17; exact Calls.cls_new (HRT.out _))))
    refine wpQuiet_nil ?_
    rintro w' ⟨⟨w', hb'⟩, rfl⟩
    go_wp2
    go_ret
    exact ⟨by rw [HF.out]; rfl, HB3.out.trans (hb'.mono HB3.out.size)⟩
  have hne2 : ∀ W : World, (binOp .neq 28 (.agg #[.int .i64 p2, .int .i64 q2, .bool d2]) (.agg #[.int .i64 0, .int .i64 1, .bool true])).run Tryz.prog W = .ok (.bool false) W := fun W => by rw [neH_run, decH_true h4]; rfl
  have HRS : Hid (((decide ((l[0]?.getD nd0).h = rootH) && decide ((l[0]?.getD nd0).par = rootH)) && ((List.range n).all (ndIAt l) && (leadR (atH l n) l && (List.range n).all (climbAt (atH l n) n l)))) = ((List.range n).all (ndIAt l) && (leadR (atH l n) l && (List.range n).all (climbAt (atH l n) n l)))) := by rw [HE0.out]; show _ = _; simp [h3, h4]
  clear h3 h4
  go_wp2
  refine wp_region_cls (by kernel_rfl) (by kernel_rfl) ?_
  repeat (go_big_quiet_step (first | (go_at_call 17; exact Calls.cls_new (HRT.out _))))
  refine wpQuiet_nil ?_
  rintro w' ⟨⟨w', hb'⟩, rfl⟩
  have v4 := v3.step hb'
  have hb4 := HB3.out.trans (hb'.mono HB3.out.size)
  clear v2 v3 c0 k0 k1 k2 k3 k4 k5 HB3 hb' hb2 VN hne hne2 g0 g1 g2 g3 g4 g5 g6 g7 g8 HE0
  have c0 := v4.l1
  have HV4 : Hid (VarA w' w.heap.size 25 #[(.slice (some ⟨b, off, none⟩) n cap)]) := v4
  have HB4 : Hid (Below w.heap.size w w') := hb4
  clear v4 hb4
  go_wp2
  clear c0
  go_loopw [40] (fun i wr => ∃ k : Nat, k ≤ n ∧ i = .int .i64 k ∧ Below w.heap.size w wr ∧ VarA wr w.heap.size 25 #[(.slice (some ⟨b, off, none⟩) n cap)] ∧ Hid ((List.range k).all (ndIAt l) = true)) (fun i _ => n - (intOf i).toNat)
  case atStart => exact ⟨0, Nat.zero_le _, rfl, HB4.out, HV4.out, by show _ = _; simp⟩
  case round =>
    clear HB4 HV4
    obtain ⟨k, hk, rfl, hbel, v0, HA⟩ := hrel
    by_cases hlt : k < n
    case neg =>
      have he : k = n := by omega
      subst he
      have HNI : Hid (∀ i, i < l.length → ndI (l[i]?.getD nd0) = true) := fun i hi => by
        have h9 := HA.out; rw [List.all_eq_true] at h9; exact h9 i (by rw [HN.out] at hi; simpa using hi)
      have HRS2 : Hid (((List.range k).all (ndIAt l) && (leadR (atH l k) l && (List.range k).all (climbAt (atH l k) k l))) = (leadR (atH l k) l && (List.range k).all (climbAt (atH l k) k l))) := by rw [HA.out]; show _ = _; simp
      have c0 := v0.l1
      have HNB : Hid (Calls Tryz.prog 19 #[(.slice (some ⟨b, off, none⟩) k cap)] wr fun e w' => e = .returned (.map (some wr.heap.size)) ∧ Below wr.heap.size wr w' ∧ MapH ndP w' wr.heap.size k (atH l k)) := by
        have h9 := nodesByHandle_any _ l S wr (HR.out wr hbel) (by rw [HN.out]; exact hl1) HONE.out (fun i hi => ndI_h (HNI.out i hi))
        rw [HN.out] at h9; exact h9
      go_wp2_with fail
      refine Calls.mono HNB.out ?_
      rintro e w5 ⟨rfl, b_, M5⟩
      have hb5 := hbel.trans (b_.mono hbel.size)
      have v5 := v0.step b_
      clear v0 c0 b_ HNB
      have c0 := v5.l1
      have HLR : Hid (Calls Tryz.prog 27 #[.map (some wr.heap.size), (.slice (some ⟨b, off, none⟩) k cap)] w5 _) := leadRightly_any _ l S _ k _ w5 (HR.out w5 hb5) (by rw [HN.out]; exact h240) M5 (fun i hi => ndI_h (HNI.out i hi)) (fun i hi => ndI_es (HNI.out i hi))
      have hM5 := M5.lt
      have HAC : Hid (∀ W, Below w5.heap.size w5 W → Calls Tryz.prog 28 #[.map (some wr.heap.size), (.slice (some ⟨b, off, none⟩) k cap)] W fun e w' => e = .returned (.bool ((List.range k).all (climbAt (atH l k) k l))) ∧ Below W.heap.size W w') := fun W hW => by
        have h9 := allCome_any _ l S wr.heap.size k (atH l k) W (HR.out W (hb5.trans (hW.mono hb5.size))) (by rw [HN.out]; exact hl1) (M5.blk (hW.block _ hM5)) hl1 (fun i hi => ndI_h (HNI.out i hi)) (by have h8 := atH_par (l := l) (by rw [List.all_eq_true]; intro i hi; exact HNI.out i (by simpa using hi)); rw [HN.out] at h8; exact h8)
        rw [HN.out] at h9; exact h9
      obtain ⟨lr, hlr⟩ : ∃ lr, leadR (atH l k) l = lr := ⟨_, rfl⟩
      have HLE : Hid (leadR (atH l k) l = lr) := hlr
      rw [hlr] at HLR
      clear hlr M5
      go_wp2_with fail
      refine Calls.mono HLR.out ?_
      rintro e w6 ⟨rfl, b_⟩
      have hb6 := hb5.trans (b_.mono hb5.size)
      have v6 := v5.step b_
      clear v5 c0 HLR
      have c0 := v6.l1
      cases lr with
      | false =>
        have HF : Hid ((leadR (atH l k) l && (List.range k).all (climbAt (atH l k) k l)) = false) := by rw [HLE.out]; rfl
        clear HLE HAC
        go_wp2
        go_ret
        exact ⟨by rw [HRS.out, HRS2.out, HF.out]; rfl, hb6⟩
      | true =>
        have HF : Hid ((leadR (atH l k) l && (List.range k).all (climbAt (atH l k) k l)) = (List.range k).all (climbAt (atH l k) k l)) := by rw [HLE.out]; rfl
        have HAX := HAC.out w6 b_
        obtain ⟨ac, hac⟩ : ∃ ac, (List.range k).all (climbAt (atH l k) k l) = ac := ⟨_, rfl⟩
        have HCE : Hid _ := hac
        rw [hac] at HAX
        have HAY : Hid _ := HAX
        clear HLE HAC HAX hac
        go_wp2_with fail
        refine Calls.mono HAY.out ?_
        rintro e w7 ⟨rfl, b7⟩
        have hb7 := hb6.trans (b7.mono hb6.size)
        clear v6 c0 b7 HAY
        go_wp2
        go_ret
        exact ⟨by rw [HRS.out, HRS2.out, HF.out, HCE.out]; rfl, hb7⟩
    obtain ⟨b9, off9, hbb, hbl9, _, hx⟩ := RdV.at (HRR.out wr hbel) hlt
    simp only [Option.some.injEq, Addr.mk.injEq, and_true] at hbb
    obtain ⟨rfl, rfl⟩ := hbb
    obtain ⟨x0, g0, s0⟩ := hx 0 (by omega)
    obtain ⟨x1, g1, s1⟩ := hx 1 (by omega)
    obtain ⟨x2, g2, s2⟩ := hx 2 (by omega)
    obtain ⟨x3, g3, s3⟩ := hx 3 (by omega)
    obtain ⟨x4, g4, s4⟩ := hx 4 (by omega)
    obtain ⟨x5, g5, s5⟩ := hx 5 (by omega)
    obtain ⟨x6, g6, s6⟩ := hx 6 (by omega)
    obtain ⟨x7, g7, s7⟩ := hx 7 (by omega)
    obtain ⟨x8, g8, s8⟩ := hx 8 (by omega)
    clear hx
    have HZ0 := HSZ.out k hlt
    have HAT : Hid (ndIAt l k = ndI (l[k]?.getD nd0)) := by show _ = _; rfl
    generalize l[k]?.getD nd0 = e at *
    obtain ⟨⟨p, q, d⟩, ⟨p2, q2, d2⟩, lk, vl, es⟩ := e
    obtain rfl : x0 = .int .i64 p := s0
    obtain rfl : x1 = .int .i64 q := s1
    obtain rfl : x2 = .bool d := s2
    obtain rfl : x3 = .int .i64 p2 := s3
    obtain rfl : x4 = .int .i64 q2 := s4
    obtain rfl : x5 = .bool d2 := s5
    obtain rfl : x6 = .int .i64 lk := s6
    obtain rfl : x7 = .int .i64 vl := s7
    have S8 : RdV wr S x8 (ensDt es) := s8
    obtain ⟨xa, xc, rfl, _⟩ := RdV.sliced S8
    have HNO : Hid (∀ W, Below wr.heap.size wr W → Calls Tryz.prog 26 #[.agg #[.int .i64 p, .int .i64 q, .bool d, .int .i64 p2, .int .i64 q2, .bool d2, .int .i64 lk, .int .i64 vl, .slice xa es.length xc]] W fun e w' => e = .returned (.bool (ndI ⟨(p, q, d), (p2, q2, d2), lk, vl, es⟩)) ∧ Below W.heap.size W w') := fun W hW => implNode_any _ ⟨(p, q, d), (p2, q2, d2), lk, vl, es⟩ S W (RdV.step S8 hW) HZ0
    generalize es.length = xn at g8 HNO
    simp only [Nat.add_zero] at g0
    generalize ndI ⟨(p, q, d), (p2, q2, d2), lk, vl, es⟩ = bo at HNO HAT
    clear S8 s8 HZ0
    have HX := HNO.out _ (Below.newH (w := wr) (.cells #[.int .i64 p, .int .i64 q, .bool d, .int .i64 p2, .int .i64 q2, .bool d2, .int .i64 lk, .int .i64 vl, .slice xa xn xc] 51))
    have HY : Hid _ := HX
    have HB5 : Hid (Below w.heap.size w (wr.alloc (.cells #[.int .i64 p, .int .i64 q, .bool d, .int .i64 p2, .int .i64 q2, .bool d2, .int .i64 lk, .int .i64 vl, .slice xa xn xc] 51))) := hbel.alloc hbel.size _
    have HV5 : Hid (VarA (wr.alloc (.cells #[.int .i64 p, .int .i64 q, .bool d, .int .i64 p2, .int .i64 q2, .bool d2, .int .i64 lk, .int .i64 vl, .slice xa xn xc] 51)) w.heap.size 25 #[(.slice (some ⟨b, off, none⟩) n cap)]) := v0.alloc _
    clear HNO HX v0
    go_wp2_with fail
    refine Calls.mono HY.out ?_
    rintro e w3 ⟨rfl, b_⟩
    have hb6 := HB5.out.trans (b_.mono HB5.out.size)
    have HV6 : Hid (VarA w3 w.heap.size 25 #[(.slice (some ⟨b, off, none⟩) n cap)]) := HV5.out.step b_
    clear HY HB5 HV5 b_ g0 g1 g2 g3 g4 g5 g6 g7 g8
    cases bo with
    | false =>
      have HF : Hid ((List.range n).all (ndIAt l) = false) := range_all_false _ _ k hlt HAT.out
      clear HAT HA
      go_wp2
      go_ret
      exact ⟨by rw [HRS.out, HF.out]; rfl, hb6⟩
    | true =>
      have HF : Hid ((List.range (k + 1)).all (ndIAt l) = true) := range_all_next _ _ HA.out HAT.out
      clear HAT HA
      go_wp2
      first
      | exact ⟨⟨k + 1, by omega, by go_num, hb6, HV6.out, HF.out⟩, by simp [intOf]; omega⟩
      | (go_roundw
         case rel => exact ⟨k + 1, by omega, by go_num, hb6, HV6.out, HF.out⟩
         case measure => simp [intOf]; omega)
end
section
theorem bless_irr : ∀ x : List UInt8, Op.bytesLess x x = false
  | [] => rfl
  | a :: x => by simp [Op.bytesLess, bless_irr x]
theorem bless_trans : ∀ x y z : List UInt8, Op.bytesLess x y = true → Op.bytesLess y z = true → Op.bytesLess x z = true
  | _, _, [], _, h => by simp [Op.bytesLess] at h
  | [], _, _ :: _, _, _ => by simp [Op.bytesLess]
  | _ :: _, [], _ :: _, h, _ => by simp [Op.bytesLess] at h
  | a :: x, b :: y, c :: z, h, g => by
    simp only [Op.bytesLess, Bool.or_eq_true, Bool.and_eq_true, decide_eq_true_eq, beq_iff_eq] at *
    rcases h with h | ⟨rfl, h⟩
    · rcases g with g | ⟨rfl, g⟩
      · exact .inl (UInt8.lt_trans h g)
      · exact .inl h
    · rcases g with g | ⟨rfl, g⟩
      · exact .inl g
      · exact .inr ⟨rfl, bless_trans x y z h g⟩
theorem geS_trans {a b c : List Int} (h : geS a b = false) (g : geS b c = false) : geS a c = false := by
  simp only [geS, Bool.not_eq_false'] at *
  exact bless_trans _ _ _ h g
theorem geS_irr (a : List Int) : geS a a = true := by simp [geS, bless_irr]
theorem asc_nm {es : List En} (h : ∀ i, i < es.length → enAt es i = true) (i : Nat) : ∀ d, i + d + 1 < es.length → geS (es[i]?.getD en0).nm (es[i + d + 1]?.getD en0).nm = false
  | 0, hi => by
    have h1 := h (i + 1) hi
    simp only [enAt, Bool.and_eq_true, Bool.or_eq_true, decide_eq_true_eq, Bool.not_eq_true'] at h1
    rcases h1.2.2 with h2 | h2
    · omega
    · exact h2
  | d + 1, hi => by
    have h0 := asc_nm h i d (by omega)
    have h1 := h (i + d + 1 + 1) hi
    simp only [enAt, Bool.and_eq_true, Bool.or_eq_true, decide_eq_true_eq, Bool.not_eq_true'] at h1
    rcases h1.2.2 with h2 | h2
    · omega
    · exact geS_trans h0 h2
theorem eiP_at {es : List En} (h : ∀ i, i < es.length → enAt es i = true) {i : Nat} (hi : i < es.length) : ei es (es[i]?.getD en0).nm = i := by
  unfold ei
  rw [List.findIdx_eq hi]
  refine ⟨by simp [hi], fun j hj => ?_⟩
  have h1 := asc_nm h j (i - j - 1) (by omega)
  rw [show j + (i - j - 1) + 1 = i by omega, List.getElem?_eq_getElem hi, List.getElem?_eq_getElem (by omega : j < es.length)] at h1
  rw [decide_eq_false_iff_not]
  intro he
  rw [List.getElem?_eq_getElem hi] at he
  simp only [Option.getD_some] at h1 he
  rw [he, geS_irr] at h1
  cases h1
theorem ents_same (es : List En) : entsOk es = (List.range es.length).all (enAt es) := by
  rw [Bool.eq_iff_iff]
  unfold entsOk
  simp only [List.all_eq_true, List.mem_range]
  constructor
  · intro h i hi
    have h1 := h i hi
    simp only [entOk, enAt, Bool.and_eq_true] at *
    exact ⟨h1.1, h1.2.1, h1.2.2.2⟩
  · intro h i hi
    have h1 := h i hi
    have h2 := eiP_at h hi
    simp only [entOk, enAt, Bool.and_eq_true, decide_eq_true_eq] at *
    exact ⟨h1.1, h1.2.1, by unfold findE; rw [h2, if_pos hi], h1.2.2⟩
theorem nd_same (n : Nd) : ndOk n = ndI n := by
  rw [Bool.eq_iff_iff]
  unfold ndOk ndI
  rw [ents_same]
  unfold entsI baseOk dirOk fileOk
  by_cases hd : n.h.dir = true
  · simp only [hd, if_true, Bool.and_eq_true, decide_eq_true_eq]
    constructor
    · rintro ⟨⟨h1, h2, h3, h4, h5, h6⟩, ⟨h7, h8, h9, h10⟩, h11⟩
      exact ⟨⟨h1, h2, h3⟩, ⟨h7, h8, h9, h10⟩, h6, h11⟩
    · rintro ⟨⟨h1, h2, h3⟩, ⟨h7, h8, h9, h10⟩, h6, h11⟩
      exact ⟨⟨h1, h2, h3, by omega, by omega, h6⟩, ⟨h7, h8, h9, h10⟩, h11⟩
  · have hd' : n.h.dir = false := by simpa using hd
    simp only [hd', Bool.false_eq_true, if_false, Bool.and_eq_true, decide_eq_true_eq]
    constructor
    · rintro ⟨⟨h1, h2, h3, h4, h5, h6⟩, h7, h8⟩
      exact ⟨⟨h1, h2, h3⟩, ⟨h4, h5⟩, h7, h8⟩
    · rintro ⟨⟨h1, h2, h3⟩, ⟨h4, h5⟩, h7, h8⟩
      exact ⟨⟨h1, h2, h3, h4, h5, by omega⟩, h7, h8⟩
theorem atH_fi (l : List Nd) (h : Hd) : atH l l.length h = if fi l h < l.length then some (l[fi l h]?.getD nd0) else none := by
  unfold atH fi
  rw [List.take_length]
  by_cases hlt : l.findIdx (fun n => decide (n.h = h)) < l.length
  · rw [if_pos hlt, List.getElem?_eq_getElem hlt, Option.getD_some, List.find?_eq_some_iff_getElem]
    have h1 := List.findIdx_getElem (w := hlt)
    refine ⟨h1, _, hlt, rfl, fun j hj => ?_⟩
    have := List.not_of_lt_findIdx hj
    simpa using this
  · rw [if_neg hlt, List.find?_eq_none]
    intro x hx
    have := List.findIdx_lt_length (p := fun n : Nd => decide (n.h = h)) (xs := l)
    rw [this] at hlt
    intro hp
    exact hlt ⟨x, hx, hp⟩
theorem lead_same (l : List Nd) (n : Nd) (e : En) : entLead l n e = leadE (atH l l.length) n e := by
  unfold entLead leadE
  rw [atH_fi]
  by_cases h : fi l e.h < l.length
  · simp [h]
  · simp [h]
theorem cnt_same (l : List Nd) (h : Hd) : cntH l h = cntE (l.flatMap (·.es)) h := by
  unfold cntH cntE
  rw [psum_all, List.countP_flatMap]
  rfl
theorem countP_more {α : Type} (p q : α → Bool) : ∀ (l : List α), (∀ x, x ∈ l → p x = true → q x = true) → (∃ x, x ∈ l ∧ q x = true ∧ p x = false) → l.countP p < l.countP q
  | [], _, h => by obtain ⟨x, hx, _⟩ := h; cases hx
  | a :: l, hpq, h => by
    have hm : l.countP p ≤ l.countP q := List.countP_mono_left (fun x hx => hpq x (List.mem_cons_of_mem _ hx))
    rw [List.countP_cons, List.countP_cons]
    have ha := hpq a (List.mem_cons_self)
    obtain ⟨x, hx, h1, h2⟩ := h
    rcases List.mem_cons.mp hx with rfl | hx
    · rw [h1, h2]; simp; omega
    · have := countP_more p q l (fun x hx => hpq x (List.mem_cons_of_mem _ hx)) ⟨x, hx, h1, h2⟩
      by_cases hp : p a = true
      · rw [hp, ha hp]; simp; omega
      · have hp' : p a = false := by simpa using hp
        rw [hp']; simp; omega
theorem node_mem {l : List Nd} {i : Nat} (h : i < l.length) : l[i]?.getD nd0 ∈ l := by rw [List.getElem?_eq_getElem h]; exact List.getElem_mem h
theorem rch_more (l : List Nd) : ∀ (k : Nat) (n : Nd), rch l k n = true → rch l (k + 1) n = true
  | 0, n, h => by
    have h1 : up n = false := by simpa [rch] using h
    simp [rch, h1]
  | k + 1, n, h => by
    by_cases hu : up n = true
    · by_cases hf : fi l n.par < l.length
      · rw [rch, if_pos hu, if_pos hf] at h
        rw [rch, if_pos hu, if_pos hf]
        exact rch_more l k _ h
      · rw [rch, if_pos hu, if_neg hf] at h; cases h
    · rw [rch, if_neg hu]
theorem rch_still (l : List Nd) (k : Nat) (h : ∀ n, n ∈ l → rch l (k + 1) n = true → rch l k n = true) : ∀ n, n ∈ l → rch l (k + 2) n = true → rch l (k + 1) n = true := by
  intro n hn hr
  by_cases hu : up n = true
  · by_cases hf : fi l n.par < l.length
    · rw [rch, if_pos hu, if_pos hf] at hr
      rw [rch, if_pos hu, if_pos hf]
      exact h _ (node_mem hf) hr
    · rw [rch, if_pos hu, if_neg hf] at hr; cases hr
  · rw [rch, if_neg hu]
theorem rch_count (l : List Nd) (h0 : ∃ n, n ∈ l ∧ up n = false) : ∀ k, (∀ n, n ∈ l → rch l (k + 1) n = true → rch l k n = true) ∨ k + 1 ≤ l.countP (rch l k)
  | 0 => by
    right
    obtain ⟨n, hn, hu⟩ := h0
    exact List.countP_pos_iff.mpr ⟨n, hn, by simp [rch, hu]⟩
  | k + 1 => by
    rcases rch_count l h0 k with h | h
    · exact .inl (rch_still l k h)
    · by_cases hs : ∀ n, n ∈ l → rch l (k + 1) n = true → rch l k n = true
      · exact .inl (rch_still l k hs)
      · right
        have : l.countP (rch l k) < l.countP (rch l (k + 1)) := by
          refine countP_more _ _ l (fun x _ => rch_more l k x) ?_
          apply Classical.byContradiction
          intro hc
          apply hs
          intro n hn hr
          cases hk : rch l k n with
          | true => rfl
          | false => exact absurd ⟨n, hn, hr, hk⟩ hc
        omega
theorem rch_short (l : List Nd) (h0 : ∃ n, n ∈ l ∧ up n = false) (hl : 1 ≤ l.length) (n : Nd) (hn : n ∈ l) : rch l (l.length + 1) n = rch l (l.length - 1) n := by
  obtain ⟨m, hm⟩ : ∃ m, l.length = m + 1 := ⟨l.length - 1, by omega⟩
  rw [hm, Nat.add_sub_cancel]
  have hs : ∀ n, n ∈ l → rch l (m + 1) n = true → rch l m n = true := by
    rcases rch_count l h0 m with h | h
    · exact h
    · have hc : l.countP (rch l m) = l.length := by
        have := List.countP_le_length (p := rch l m) (l := l)
        omega
      rw [List.countP_eq_length] at hc
      exact fun n hn _ => hc n hn
  rw [Bool.eq_iff_iff]
  constructor
  · intro h
    exact hs n hn (rch_still l m hs n hn h)
  · intro h
    exact rch_more l _ _ (rch_more l _ _ h)
theorem climb_lost (f : Hd → Option Nd) (h0 : f hd0 = none) : ∀ (k : Nat) (h : Hd), f h = none → h ≠ rootH → climb f k h = false
  | 0, _, _, _ => rfl
  | k + 1, h, hf, hr => by
    rw [climb, if_neg hr, hf]
    exact climb_lost f h0 k hd0 h0 (by decide)
theorem fiP_at {l : List Nd} (ho : OneH l) {i : Nat} (hi : i < l.length) : fi l (l[i]?.getD nd0).h = i := by
  unfold fi
  rw [List.findIdx_eq hi]
  refine ⟨by simp [hi], fun j hj => ?_⟩
  rw [decide_eq_false_iff_not]
  intro he
  have := ho j i (by omega) hi (by rw [List.getElem?_eq_getElem (by omega : j < l.length)]; exact he)
  omega
theorem fi_h {l : List Nd} {h : Hd} (hf : fi l h < l.length) : (l[fi l h]?.getD nd0).h = h := by
  have h1 := List.findIdx_getElem (w := hf)
  rw [List.getElem?_eq_getElem hf]
  exact of_decide_eq_true h1
theorem climb_rch {l : List Nd} (ho : OneH l) (hr : fi l rootH < l.length) (hz : ¬ fi l hd0 < l.length) (hp : ∀ i, i < l.length → (l[i]?.getD nd0).h.dir = true → (l[i]?.getD nd0).par.dir = true) :
    ∀ (k i : Nat), i < l.length → (l[i]?.getD nd0).h.dir = true → climb (atH l l.length) (k + 1) (l[i]?.getD nd0).h = rch l k (l[i]?.getD nd0)
  | 0, i, hi, hd => by
    rw [climb, rch]
    unfold up
    rw [hd]
    by_cases h : (l[i]?.getD nd0).h = rootH
    · rw [if_pos h]; simp [h]
    · rw [if_neg h]; simp [h, climb]
  | k + 1, i, hi, hd => by
    rw [climb, rch]
    by_cases h : (l[i]?.getD nd0).h = rootH
    · rw [if_pos h]
      have : up (l[i]?.getD nd0) = false := by unfold up; simp [h]
      simp [this]
    · have hu : up (l[i]?.getD nd0) = true := by unfold up; simp [h, hd]
      rw [if_neg h, if_pos hu, atH_fi, fiP_at ho hi, if_pos hi, Option.getD_some]
      by_cases hf : fi l (l[i]?.getD nd0).par < l.length
      · rw [if_pos hf]
        have h1 := climb_rch ho hr hz hp k _ hf (by rw [fi_h hf]; exact hp i hi hd)
        rw [fi_h hf] at h1
        exact h1
      · rw [if_neg hf]
        refine climb_lost _ (by rw [atH_fi, if_neg hz]) _ _ (by rw [atH_fi, if_neg hf]) ?_
        intro he
        rw [he] at hf
        exact hf hr
theorem tail_same {l : List Nd} (hl : 1 ≤ l.length) (hr : (l[0]?.getD nd0).h = rootH) (ha : ascL l = true) (hn : ∀ i, i < l.length → ndI (l[i]?.getD nd0) = true) {i : Nat} (hi : i < l.length) :
    tailT l (l[i]?.getD nd0) = (ledN l i && climbAt (atH l l.length) l.length l i) := by
  have ho := ascL_one ha
  have h0 : fi l rootH = 0 := by rw [← hr]; exact fiP_at ho (by omega)
  have hz : ¬ fi l hd0 < l.length := by
    intro hf
    have h1 := hn _ hf
    have h2 := fi_h hf
    unfold ndI at h1
    rw [h2] at h1
    have h3 : HOk hd0 = false := by decide
    simp only [h3, Bool.false_and, Bool.false_eq_true] at h1
  have hp : ∀ i, i < l.length → (l[i]?.getD nd0).h.dir = true → (l[i]?.getD nd0).par.dir = true := by
    intro i hi hd
    have h1 := hn i hi
    unfold ndI at h1
    rw [hd] at h1
    simp only [if_true, Bool.and_eq_true, dirOk] at h1
    exact h1.2.1.2.2.2
  have hx : ∃ n, n ∈ l ∧ up n = false := ⟨_, node_mem (l := l) (i := 0) (by omega), by unfold up; simp [hr]⟩
  unfold tailT ledN wantN climbAt
  rw [cnt_same]
  obtain ⟨m, hm⟩ : ∃ m, l.length = m + 1 := ⟨l.length - 1, by omega⟩
  by_cases h : (l[i]?.getD nd0).h = rootH
  · rw [if_pos h, if_pos h, h]
    have hc : climb (atH l l.length) l.length rootH = true := by rw [hm, climb, if_pos rfl]
    rw [hc]
    simp
  · rw [if_neg h, if_neg h, rch_short l hx hl _ (node_mem hi)]
    by_cases hd : (l[i]?.getD nd0).h.dir = true
    · have h1 := climb_rch ho (by omega) hz hp m i hi hd
      rw [show m + 1 = l.length by omega] at h1
      rw [h1, hd, show m = l.length - 1 by omega]
      simp
    · have hd' : (l[i]?.getD nd0).h.dir = false := by simpa using hd
      have hu : rch l (l.length - 1) (l[i]?.getD nd0) = true := by
        have : up (l[i]?.getD nd0) = false := by unfold up; simp [hd']
        cases l.length - 1 <;> simp [rch, this]
      rw [hu, hd']
      simp
/-- By the specification it is a tree just if it is one by the program. -/
theorem tree_same (l : List Nd) : treeOk l = treeI l := by
  rw [Bool.eq_iff_iff]
  unfold treeOk treeI headT leadR
  simp only [Bool.and_eq_true, decide_eq_true_eq, List.all_eq_true, List.mem_range]
  constructor
  · rintro ⟨⟨⟨h1, h2⟩, h3, h4⟩, h5⟩
    have hA : ascL l = true := by
      unfold ascL
      rw [List.all_eq_true]
      intro i hi
      have := h5 i (by simpa using hi)
      simp only [nodeT, Bool.and_eq_true] at this
      exact this.2.1
    have hN : ∀ i, i < l.length → ndI (l[i]?.getD nd0) = true := by
      intro i hi
      have := h5 i hi
      simp only [nodeT, Bool.and_eq_true] at this
      rw [← nd_same]
      exact this.1
    have hT : ∀ i, i < l.length → ledN l i = true ∧ climbAt (atH l l.length) l.length l i = true := by
      intro i hi
      have := h5 i hi
      simp only [nodeT, Bool.and_eq_true] at this
      have h6 := this.2.2.2
      rw [tail_same h1 h3 hA hN hi, Bool.and_eq_true] at h6
      exact h6
    refine ⟨⟨h1, h2, hA⟩, ⟨h3, h4⟩, hN, ⟨?_, fun i hi => (hT i hi).1⟩, fun i hi => (hT i hi).2⟩
    intro i hi
    have := h5 i hi
    simp only [nodeT, Bool.and_eq_true] at this
    have h7 := this.2.2.1
    unfold leadN
    rw [List.all_eq_true] at h7 ⊢
    intro e he
    rw [← lead_same]
    exact h7 e he
  · rintro ⟨⟨h1, h2, hA⟩, ⟨h3, h4⟩, hN, ⟨h6, h7⟩, h8⟩
    refine ⟨⟨⟨h1, h2⟩, h3, h4⟩, fun i hi => ?_⟩
    simp only [nodeT, Bool.and_eq_true]
    have hA' := hA
    unfold ascL at hA'
    rw [List.all_eq_true] at hA'
    refine ⟨by rw [nd_same]; exact hN i hi, hA' i (by simpa using hi), ?_, ?_⟩
    · have h9 := h6 i hi
      unfold leadN at h9
      rw [List.all_eq_true] at h9 ⊢
      intro e he
      rw [lead_same]
      exact h9 e he
    · rw [tail_same h1 h3 hA hN hi, h7 i hi, h8 i hi]; rfl
end
section
open Go.RowKit Go.Sort
theorem geS_cmp (a b : List Int) : geS a b = false ↔ cmpB a b < 0 := by
  have h := cmpB_ge a b
  constructor
  · intro e; rw [e] at h; have := of_decide_eq_false h; omega
  · intro e; rw [← h]; exact decide_eq_false (by omega)
theorem low_byte {c : Int} (h : isLow c = true) : 97 ≤ c ∧ c ≤ 122 := by
  simp [isLow] at h
  omega
theorem bytesOf_inj : ∀ {xs ys : List Int}, xs.all isLow = true → ys.all isLow = true → Lib.bytesOf xs = Lib.bytesOf ys → xs = ys
  | [], [], _, _, _ => rfl
  | [], _ :: _, _, _, h => by simp [Lib.bytesOf] at h
  | _ :: _, [], _, _, h => by simp [Lib.bytesOf] at h
  | x :: xs, y :: ys, hx, hy, h => by
    simp only [List.all_cons, Bool.and_eq_true] at hx hy
    simp only [Lib.bytesOf, List.map_cons, List.cons.injEq] at h
    have h1 := low_byte hx.1
    have h2 := low_byte hy.1
    have h3 : x.toNat % 256 = y.toNat % 256 := by
      have := congrArg UInt8.toNat h.1
      simpa using this
    rw [bytesOf_inj hx.2 hy.2 h.2]
    congr 1
    omega
theorem nm_low {nm : List Int} (h : isNm nm = true) : nm.all isLow = true := by
  simp only [isNm, Bool.and_eq_true] at h
  exact h.2
theorem cmpB_tri {a b : List Int} (ha : isNm a = true) (hb : isNm b = true) (hne : a ≠ b) (h : ¬ cmpB a b < 0) : cmpB b a < 0 := by
  have e1 := cmpB_lt a b
  have e2 := cmpB_lt b a
  rw [decide_eq_false h] at e1
  have h1 : ¬ Lib.bytesOf a < Lib.bytesOf b := of_decide_eq_false e1.symm
  have h2 : Lib.bytesOf b < Lib.bytesOf a := by
    by_cases h3 : Lib.bytesOf b < Lib.bytesOf a
    · exact h3
    · exact absurd (bytesOf_inj (nm_low hb) (nm_low ha) (List.le_antisymm (List.not_lt.1 h1) (List.not_lt.1 h3))).symm hne
  have h4 : ltStr (Lib.bytesOf b) (Lib.bytesOf a) = true := decide_eq_true h2
  rw [h4] at e2
  exact of_decide_eq_true e2
theorem cmpB_tr {a b c : List Int} (h1 : cmpB a b < 0) (h2 : cmpB b c < 0) : cmpB a c < 0 := by
  have := (swo_nm (fun x : List Int => x)).trans a b c (decide_eq_true h1) (decide_eq_true h2)
  exact of_decide_eq_true this
theorem cmpB_ir (a : List Int) : ¬ cmpB a a < 0 := fun h => by
  have := (swo_nm (fun x : List Int => x)).irrefl a
  rw [show Go.Proofs.ltOf (fun x y : List Int => cmpB x y) a a = decide (cmpB a a < 0) from rfl, decide_eq_true h] at this
  cases this
/-- Entries that ascend, their names all names. -/
def AscE (es : List En) : Prop := es.Pairwise (fun a b => cmpB a.nm b.nm < 0) ∧ ∀ e ∈ es, isNm e.nm = true
theorem ascE_of {es : List En} (h : ∀ i, i < es.length → enAt es i = true) : AscE es := by
  refine ⟨?_, fun e he => ?_⟩
  · rw [List.pairwise_iff_getElem]
    intro i j hi hj hij
    have h1 := asc_nm h i (j - i - 1) (by omega)
    rw [show i + (j - i - 1) + 1 = j by omega, List.getElem?_eq_getElem hi, List.getElem?_eq_getElem hj] at h1
    exact (geS_cmp _ _).1 h1
  · obtain ⟨i, hi, rfl⟩ := List.getElem_of_mem he
    have h1 := h i hi
    rw [show es[i] = es[i]?.getD en0 by rw [List.getElem?_eq_getElem hi]; rfl]
    simp only [enAt, Bool.and_eq_true] at h1
    exact h1.1
theorem fdB_no {es : List En} {nm : List Int} : fdB es nm = false ↔ ∀ e ∈ es, e.nm ≠ nm := by
  unfold fdB ei
  rw [decide_eq_false_iff_not, List.findIdx_lt_length]
  simp
theorem outE_asc {es : List En} (h : AscE es) (nm : List Int) : AscE (outE es nm) :=
  ⟨h.1.sublist List.filter_sublist, fun e he => h.2 e (List.mem_filter.1 he).1⟩
theorem addE_perm (es : List En) (nm : List Int) (h : Hd) : (es ++ [En.mk nm h]).Perm (addE es nm h) := by
  unfold addE
  have h1 : es ++ [En.mk nm h] = (es.take (pl es nm) ++ es.drop (pl es nm)) ++ [En.mk nm h] := by rw [List.take_append_drop]
  rw [h1, List.append_assoc, List.append_assoc]
  exact (List.perm_append_comm (l₁ := es.drop (pl es nm)) (l₂ := [En.mk nm h])).append_left _
theorem addE_asc {es : List En} (h : AscE es) {nm : List Int} (hn : isNm nm = true) (hf : fdB es nm = false) (hd : Hd) : (addE es nm hd).Pairwise (fun a b => cmpB a.nm b.nm < 0) := by
  have hno := fdB_no.1 hf
  unfold addE
  have h0 := h.1
  rw [← List.take_append_drop (pl es nm) es, List.pairwise_append] at h0
  have ht : ∀ a ∈ es.take (pl es nm), cmpB a.nm nm < 0 := by
    intro a ha
    obtain ⟨i, hi, rfl⟩ := List.getElem_of_mem ha
    rw [List.length_take] at hi
    have h9 := List.not_of_lt_findIdx (p := fun e : En => geS e.nm nm) (xs := es) (i := i) (by unfold pl at hi; omega)
    rw [List.getElem_take]
    exact (geS_cmp _ _).1 (by simpa using h9)
  have hdr : ∀ b ∈ es.drop (pl es nm), cmpB nm b.nm < 0 := by
    intro b hb
    obtain ⟨j, hj, rfl⟩ := List.getElem_of_mem hb
    rw [List.length_drop] at hj
    rw [List.getElem_drop]
    have hpl : pl es nm < es.length := by omega
    have hg : geS (es[pl es nm]'hpl).nm nm = true := List.findIdx_getElem (p := fun e : En => geS e.nm nm) (w := hpl)
    have hb0 : cmpB nm (es[pl es nm]'hpl).nm < 0 := by
      refine cmpB_tri (h.2 _ (List.getElem_mem hpl)) hn (hno _ (List.getElem_mem hpl)) (fun hlt => ?_)
      rw [(geS_cmp _ _).2 hlt] at hg
      cases hg
    by_cases hj0 : j = 0
    · subst hj0; simpa using hb0
    · have h8 := h.1
      rw [List.pairwise_iff_getElem] at h8
      exact cmpB_tr hb0 (h8 (pl es nm) (pl es nm + j) hpl (by omega) (by omega))
  rw [List.append_assoc, List.pairwise_append]
  refine ⟨h0.1, ?_, ?_⟩
  · rw [List.singleton_append, List.pairwise_cons]
    exact ⟨hdr, h0.2.1⟩
  · intro a ha b hb
    rw [List.singleton_append, List.mem_cons] at hb
    rcases hb with rfl | hb
    · exact ht a ha
    · exact h0.2.2 a ha b hb
/-- The entry of a name, cut out. -/
theorem cut_out {es : List En} (h : AscE es) {nm : List Int} (hf : ei es nm < es.length) : cutE es (ei es nm) = outE es nm := by
  have hat : (es[ei es nm]'hf).nm = nm := by
    have := List.findIdx_getElem (p := fun e : En => decide (e.nm = nm)) (w := hf)
    exact of_decide_eq_true this
  obtain ⟨k, hk⟩ : ∃ k, ei es nm = k := ⟨_, rfl⟩
  rw [hk]
  simp only [hk] at hf hat
  unfold cutE outE
  have hsp : es = es.take k ++ es[k]'hf :: es.drop (k + 1) := by rw [List.getElem_cons_drop, List.take_append_drop]
  have h0 := h.1
  rw [hsp, List.pairwise_append, List.pairwise_cons] at h0
  conv => rhs; rw [hsp]
  rw [List.filter_append, List.filter_cons]
  rw [if_neg (by simp [hat])]
  rw [List.filter_eq_self.2, List.filter_eq_self.2]
  · intro b hb
    have h1 := h0.2.1.1 b hb
    simp only [Bool.not_eq_true', decide_eq_false_iff_not]
    intro e
    rw [hat, e] at h1
    exact cmpB_ir _ h1
  · intro a ha
    have h1 := h0.2.2 a ha (es[k]'hf) (List.mem_cons_self)
    simp only [Bool.not_eq_true', decide_eq_false_iff_not]
    intro e
    rw [hat, e] at h1
    exact cmpB_ir _ h1
end
end Go.Proofs.YtnphmhobpmaebaaGreatDoor
