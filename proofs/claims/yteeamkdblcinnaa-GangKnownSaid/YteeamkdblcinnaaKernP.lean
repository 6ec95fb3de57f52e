/-
  Regions that draw their order are calculated rightly, for every order. It holds of every program whose table of types and functions fits (TabOk).
-/
import Derived.Test.YteeamkdblcinnaaKernN
namespace Go.Proofs.Yteeamkdblcinnaa.Kern
open Go Go.RowKit

/-! ## A region in whatever order -/
def On (listed : Array Bool) (i : Nat) : Prop := listed.getD i false = true

/-- How many of the first k are not listed. -/
def un (listed : Array Bool) : Nat → Nat
  | 0 => 0
  | k + 1 => un listed k + (if listed.getD k false then 0 else 1)
theorem un_set_ge {listed : Array Bool} {i : Nat} : ∀ (k : Nat), k ≤ i → un (listed.setIfInBounds i true) k = un listed k
  | 0, _ => rfl
  | k + 1, h => by
    simp only [un]
    rw [un_set_ge k (by omega), getD_set_ne false (by omega)]
theorem un_set {listed : Array Bool} {i : Nat} (hi : i < listed.size) (h : ¬ On listed i) : ∀ (k : Nat), i < k → un (listed.setIfInBounds i true) k + 1 = un listed k
  | 0, hk => by omega
  | k + 1, hk => by
    simp only [un]
    by_cases e : i = k
    · subst e
      rw [un_set_ge i (Nat.le_refl _)]
      have h1 : listed.getD i false = false := by simpa [On] using h
      have h2 : (listed.setIfInBounds i true).getD i false = true := by simp [hi]
      rw [h1, h2]; simp
    · rw [getD_set_ne false e]
      have := un_set hi h k (by omega)
      omega
theorem un_zero {listed : Array Bool} : ∀ (k : Nat), un listed k = 0 → ∀ i, i < k → On listed i
  | 0, _, i, hi => by omega
  | k + 1, h, i, hi => by
    simp only [un] at h
    by_cases e : i = k
    · subst e
      unfold On
      cases hb : listed.getD i false with
      | true => rfl
      | false => rw [hb] at h; simp at h
    · exact un_zero k (by omega) i (by omega)
theorem On.set {listed : Array Bool} {i j : Nat} (h : On listed j) : On (listed.setIfInBounds i true) j := getD_set_true h
theorem On.set_same {listed : Array Bool} {i : Nat} (h : i < listed.size) : On (listed.setIfInBounds i true) i := by simp [On, h]
theorem On.of_set {listed : Array Bool} {i j : Nat} (h : On (listed.setIfInBounds i true) j) (hne : j ≠ i) : On listed j := by
  unfold On at h ⊢; rwa [getD_set_ne false (Ne.symm hne)] at h

/-- Does an operation look at a temporary? -/
def Uses (x : PItem) (t : Tmp) : Prop := .tmp t ∈ x.oper.op.operands.toList ∨ ∃ b, x.op.guard = some (t, b)
theorem looks_of {x y : PItem} {t : Tmp} (h : x.op.dst = some t) (hu : Uses y t) : looks x y = true := by
  unfold looks
  rw [h]
  simp only [Bool.or_eq_true]
  rcases hu with hu | ⟨b, hb⟩
  · left
    exact List.any_eq_true.2 ⟨_, hu, by simp [usesTmp]⟩
  · right
    rw [hb]; simp

/-- What is known of an operation that was calculated ahead. -/
structure RecInv (n : Nat) (done : List PItem) (f0 f : Fr) (s0 s : St) (σ : Ren) (listed : Array Bool) (r : PRec) : Prop where
  mem : r.item ∈ done
  light : heavyA r.item.op.act = false
  early : ∀ d1 d2, done = d1 ++ r.item :: d2 → ∀ t, Uses r.item t → ((∃ y ∈ d1, y.op.dst = some t) → r.fr.get t = f.get t) ∧ ((∀ y ∈ d1, y.op.dst ≠ some t) → r.fr.get t = f0.get t)
  val : ∀ t, r.item.op.dst = some t → f.get t = r.val
  idle : wantedF r.item.op.guard r.fr = false → r.val = undef
  made : ∀ g, wantedF r.item.op.guard r.fr = true → r.item.op.act = .new g → ∃ id p, r.made = some (id, p.1) ∧ g r.fr.eval = some p ∧ r.val = p.2 id ∧ s0.next ≤ id ∧ id < s.next ∧ (¬ On listed r.item.idx → σ id = none)

structure Inv (T : Tab) (P : Program) (all : Array Oper) (n N : Nat) (L done r : List PItem) (pend : List PRec) (f0 f : Fr) (s0 s : St) (σ0 σ : Ren) (w0 : World) (listed : Array Bool) (a : Act) (w : World) : Prop where
  split : L = done ++ r
  size : listed.size = all.size
  later : ∀ x ∈ r, ¬ On listed x.idx
  wait : ∀ x ∈ done, ¬ On listed x.idx → ∃ q ∈ pend, q.item = x
  recs : ∀ q ∈ pend, RecInv n done f0 f s0 s σ listed q
  ids : ∀ q ∈ pend, ∀ q' ∈ pend, q.item.idx ≠ q'.item.idx → ∀ g g', wantedF q.item.op.guard q.fr = true → q.item.op.act = .new g → wantedF q'.item.op.guard q'.fr = true → q'.item.op.act = .new g' → ∀ i o i' o', q.made = some (i, o) → q'.made = some (i', o') → i ≠ i'
  shut : ∀ x ∈ L, On listed x.idx → ∀ e ∈ x.oper.after.toList, bindsF e = true → On listed e.on
  tsize : a.tmps.size = n
  marks : MarkRel σ f.marks a.defers
  now : ∀ t, (∀ x ∈ done, x.op.dst = some t → On listed x.idx) → VRel σ (f.get t) (a.tmps.getD t undef)
  old : ∀ t x, x ∈ done → x.op.dst = some t → ¬ On listed x.idx → VRel σ (f0.get t) (a.tmps.getD t undef)
  same : ∀ t, (∀ x ∈ done, x.op.dst ≠ some t) → f.get t = f0.get t
  world : WRel N σ s w
  ext : Ext N σ0 σ s0 s w0 w

section
variable {P : Program} {T : Tab} {all : Array Oper} {n N : Nat} {L : List PItem}

theorem distinct (hL : PlanOk T n all L) {x y : PItem} (hx : x ∈ L) (hy : y ∈ L) : x.idx = y.idx → x = y := by
  intro e
  obtain ⟨L1, L2, rfl⟩ := List.append_of_mem hx
  rcases List.mem_append.1 hy with h | h
  · obtain ⟨A, B, rfl⟩ := List.append_of_mem h
    have := hL.pair (L1 := A) (x := y) (L2 := B ++ x :: L2) (y := x) (by simp) (by simp)
    exact absurd e.symm this.idx
  · rcases List.mem_cons.1 h with rfl | h
    · rfl
    · exact absurd e (hL.pair rfl h).idx
theorem dst_one (hL : PlanOk T n all L) {x y : PItem} (hx : x ∈ L) (hy : y ∈ L) {t : Tmp} (h1 : x.op.dst = some t) (h2 : y.op.dst = some t) : x = y := by
  obtain ⟨L1, L2, rfl⟩ := List.append_of_mem hx
  rcases List.mem_append.1 hy with h | h
  · obtain ⟨A, B, rfl⟩ := List.append_of_mem h
    have := hL.pair (L1 := A) (x := y) (L2 := B ++ x :: L2) (y := x) (by simp) (by simp)
    exact absurd h1 (this.dst t h2)
  · rcases List.mem_cons.1 h with rfl | h
    · rfl
    · exact absurd h2 ((hL.pair rfl h).dst t h1)

/-- All that lies ahead of a listed operation is listed; and of one that may come next. -/
theorem mask_on (hL : PlanOk T n all L) {listed : Array Bool} (shut : ∀ x ∈ L, On listed x.idx → ∀ e ∈ x.oper.after.toList, bindsF e = true → On listed e.on) :
    ∀ (k : Nat) (L1 : List PItem) (x : PItem) (L2 : List PItem), L1.length ≤ k → L = L1 ++ x :: L2 → (∀ e ∈ x.oper.after.toList, bindsF e = true → On listed e.on) → ∀ j, x.mask.testBit j = true → On listed j := by
  intro k
  induction k with
  | zero =>
    intro L1 x L2 hl e hd j hj
    have : L1 = [] := List.eq_nil_of_length_eq_zero (by omega)
    subst this
    obtain ⟨ed, h1, h2, h3⟩ := hL.mask [] x L2 e j hj
    rcases h3 with rfl | ⟨y, hy, _⟩
    · exact hd ed h1 h2
    · simp at hy
  | succ k ih =>
    intro L1 x L2 hl e hd j hj
    obtain ⟨ed, h1, h2, h3⟩ := hL.mask L1 x L2 e j hj
    rcases h3 with rfl | ⟨y, hy, hyi, hym⟩
    · exact hd ed h1 h2
    · have hy' : y ∈ L1 := by simpa using hy
      obtain ⟨A, B, rfl⟩ := List.append_of_mem hy'
      have hyl : On listed y.idx := by rw [hyi]; exact hd ed h1 h2
      exact ih A y (B ++ x :: L2) (by simp at hl; omega) (by rw [e]; simp) (shut y (by rw [e]; simp) hyl) j hym

theorem first_off {listed : Array Bool} : ∀ {L : List PItem}, (∃ x ∈ L, ¬ On listed x.idx) → ∃ L1 x L2, L = L1 ++ x :: L2 ∧ ¬ On listed x.idx ∧ ∀ y ∈ L1, On listed y.idx
  | [], h => by obtain ⟨x, hx, _⟩ := h; simp at hx
  | z :: L, h => by
    by_cases hz : On listed z.idx
    · obtain ⟨x, hx, hn⟩ := h
      have : ∃ x ∈ L, ¬ On listed x.idx := by
        rcases List.mem_cons.1 hx with rfl | hx
        · exact absurd hz hn
        · exact ⟨x, hx, hn⟩
      obtain ⟨L1, x, L2, e, h1, h2⟩ := first_off this
      exact ⟨z :: L1, x, L2, by rw [e]; rfl, h1, fun y hy => by
        rcases List.mem_cons.1 hy with rfl | hy
        · exact hz
        · exact h2 y hy⟩
    · exact ⟨[], z, L, rfl, hz, fun y hy => by simp at hy⟩

/-- Where some operation is not listed, one may come next. -/
theorem some_ready (hL : PlanOk T n all L) {listed : Array Bool} (hs : listed.size = all.size) {i : Nat} (hi : i < all.size) (h : ¬ On listed i) : Region.ready .any all listed ≠ [] := by
  obtain ⟨x0, hx0, rfl⟩ := hL.cover i hi
  obtain ⟨L1, x, L2, e, h1, h2⟩ := first_off ⟨x0, hx0, h⟩
  have hx : x ∈ L := by rw [e]; simp
  have hio := hL.item x hx
  have hlt : x.idx < all.size := (Array.getElem?_eq_some_iff.1 hio.at_).1
  have : x.idx ∈ Region.ready .any all listed := by
    rw [mem_ready]
    refine ⟨?_, x.oper, hio.at_, fun ed hed hb => ?_⟩
    · have hf : listed.getD x.idx false = false := by simpa [On] using h1
      have hlt' : x.idx < listed.size := by rw [hs]; exact hlt
      simpa [Array.getD_eq_getD_getElem?, hlt'] using hf
    · rw [bindsF_eq] at hb
      have hed' : ed ∈ x.oper.after.toList := by simpa using hed
      obtain ⟨g1, g2⟩ := hL.edges x hx ed hed' hb
      obtain ⟨y, hy, hyi⟩ := hL.cover ed.on g1
      have hyL1 : y ∈ L1 := by
        rw [e] at hy
        rcases List.mem_append.1 hy with hy | hy
        · exact hy
        · rcases List.mem_cons.1 hy with rfl | hy
          · exact absurd hyi.symm g2
          · exact absurd hyi.symm ((hL.pair e hy).edge ed hed' hb)
      have := h2 y hyL1
      rw [hyi] at this
      exact this
  intro hnil
  rw [hnil] at this
  simp at this

theorem planRun_cons (self : Self) (x : PItem) (r : List PItem) (pend : List PRec) (f : Fr) (s : St) : planRun self (x :: r) pend f s = bt (heavyA x.op.act)
      (gd (pend.all (recOk s)) (ob (itemF self x f s) fun p => planRun self r (pend.filter fun q => !x.mask.testBit q.item.idx) (f.put x.op.dst p.1) p.2))
      (ob (itemF self x f s) fun p => planRun self r (⟨x, f, p.1, madeF x f s⟩ :: pend) (f.put x.op.dst p.1) p.2) := rfl

theorem Fr.put_marks (f : Fr) (d : Option Tmp) (v : Value) : (f.put d v).marks = f.marks := by cases d <;> rfl
theorem Fr.put_ne {f : Fr} {n : Nat} (hn : n < top) {d : Option Tmp} (hd : dstOk n d = true) {v : Value} {t : Tmp} (h : d ≠ some t) : (f.put d v).get t = f.get t := by
  cases d with
  | none => rfl
  | some d => rw [Fr.get_put (Nat.lt_trans (dstOk_some hd) hn), if_neg (fun e => h (by rw [e]))]
theorem Fr.put_same {f : Fr} {n : Nat} (hn : n < top) {t : Tmp} (hd : dstOk n (some t) = true) {v : Value} : (f.put (some t) v).get t = v := by
  rw [Fr.get_put (Nat.lt_trans (dstOk_some hd) hn), if_pos rfl]

/-- A light operation is calculated ahead; the true run stays where it is. -/
theorem Inv.ahead (hL : PlanOk T n all L) (hn : n < top) {self : Self} {done r : List PItem} {x : PItem} {pend : List PRec} {f0 f : Fr} {s0 s s1 : St} {σ0 σ : Ren} {w0 : World} {listed : Array Bool} {a : Act} {w : World} {v : Value}
    (h : Inv T P all n N L done (x :: r) pend f0 f s0 s σ0 σ w0 listed a w) (hx : heavyA x.op.act = false) (hv : itemF self x f s = some (v, s1)) :
    Inv T P all n N L (done ++ [x]) r (⟨x, f, v, madeF x f s⟩ :: pend) f0 (f.put x.op.dst v) s0 s1 σ0 σ w0 listed a w := by
  have hxL : x ∈ L := by rw [h.split]; simp
  have hio := hL.item x hxL
  have hdst : dstOk n x.op.dst = true := by rw [hio.dstEq]; exact hio.dst
  have hoff : ¬ On listed x.idx := h.later x (by simp)
  have hmem : ∀ y ∈ done, y ∈ L := fun y hy => by rw [h.split]; simp [hy]
  have hpair : ∀ y ∈ done, PairOk y x := fun y hy => by
    obtain ⟨A, B, rfl⟩ := List.append_of_mem hy
    exact hL.pair (L1 := A) (x := y) (L2 := B ++ x :: r) (y := x) (by rw [h.split]; simp) (by simp)
  have hne : ∀ y ∈ done, ∀ t, y.op.dst = some t → x.op.dst ≠ some t := fun y hy t e => (hpair y hy).dst t e
  -- the state: as it was, or with a block more
  have hst : (s1 = s ∧ ∀ g, wantedF x.op.guard f = true → x.op.act = .new g → False) ∨ ∃ g p, wantedF x.op.guard f = true ∧ x.op.act = .new g ∧ g f.eval = some p ∧ s.push p.1 = some s1 ∧ v = p.2 s.next := by
    unfold itemF at hv
    cases hw : wantedF x.op.guard f with
    | false => rw [hw] at hv; cases hv; exact .inl ⟨rfl, fun g e _ => by cases e⟩
    | true =>
      rw [hw] at hv
      cases ha : x.op.act with
      | pure g =>
        rw [ha] at hv
        obtain ⟨v1, _, h2⟩ := ob_eq (show ob (g f.eval s.heap) (fun v => some (v, s)) = some (v, s1) from hv)
        cases h2
        exact .inl ⟨rfl, fun g' _ e => by cases e⟩
      | new g =>
        rw [ha] at hv
        obtain ⟨p, h1, h2⟩ := ob_eq (show ob (g f.eval) (fun p => exNew s p.1 p.2) = some (v, s1) from hv)
        obtain ⟨s2, h3, h4⟩ := ob_eq h2
        cases h4
        exact .inr ⟨g, p, rfl, rfl, h1, h3, rfl⟩
      | act g => rw [ha] at hx; cases hx
  have hnext : s.next ≤ s1.next := by
    rcases hst with ⟨rfl, _⟩ | ⟨g, p, _, _, _, hp, _⟩
    · exact Nat.le_refl _
    · obtain ⟨_, rfl⟩ := push_eq hp; simp
  have hworld : WRel N σ s1 w := by
    rcases hst with ⟨rfl, _⟩ | ⟨g, p, _, _, _, hp, _⟩
    · exact h.world
    · exact h.world.junk hp
  refine ⟨by rw [h.split]; simp, h.size, fun y hy => h.later y (by simp [hy]), fun y hy hyo => ?_, fun q hq => ?_, fun q hq q' hq' hne' g g' hw1 ha1 hw2 ha2 i o i' o' e e' => ?_, h.shut, h.tsize, ?_, fun t ht => ?_, fun t y hy hyt hyo => ?_, fun t ht => ?_, hworld, ?_⟩
  · rcases List.mem_append.1 hy with hy | hy
    · obtain ⟨q, h1, h2⟩ := h.wait y hy hyo
      exact ⟨q, by simp [h1], h2⟩
    · have : y = x := by simpa using hy
      exact ⟨_, by simp; left; rfl, by rw [this]⟩
  · rcases List.mem_cons.1 hq with rfl | hq
    · refine ⟨by simp, hx, fun d1 d2 e t hu => ?_, fun t ht => ?_, fun hw => ?_, fun g hw hg => ?_⟩
      · have hd : d1 = done := by
          have hnx : x ∉ done := fun hxd => absurd rfl (hpair x hxd).idx
          have e' : done ++ [x] = d1 ++ x :: d2 := e
          have hd2 : d2 = [] := by
            cases hd2 : d2 with
            | nil => rfl
            | cons z zs =>
              exfalso
              rw [hd2] at e'
              have : x ∈ done := by
                have hlast := congrArg List.dropLast e'
                rw [List.dropLast_concat, List.dropLast_append_of_ne_nil (by simp)] at hlast
                rw [hlast]; simp
              exact hnx this
          rw [hd2] at e'
          exact (List.append_inj_left' e' rfl).symm
        subst hd
        refine ⟨fun ⟨y, hy, hyt⟩ => (Fr.put_ne hn hdst (hne y hy t hyt)).symm, fun hnone => h.same t hnone⟩
      · have hh : x.op.dst = some t := ht
        rw [hh] at hdst ⊢
        exact Fr.put_same hn hdst
      · have hw' : wantedF x.op.guard f = false := hw
        unfold itemF at hv
        rw [hw'] at hv
        cases hv
        rfl
      · have hw' : wantedF x.op.guard f = true := hw
        have hg' : x.op.act = .new g := hg
        rcases hst with ⟨_, hno⟩ | ⟨g', p, _, hg2, hp1, hp2, hp3⟩
        · exact (hno g hw' hg').elim
        · rw [hg'] at hg2
          cases hg2
          obtain ⟨_, rfl⟩ := push_eq hp2
          refine ⟨s.next, p, ?_, hp1, hp3, h.ext.next, by simp, fun _ => h.world.fresh (Nat.le_refl _)⟩
          show madeF x f s = _
          unfold madeF
          rw [hg']
          show ob (g f.eval) (fun p => some (s.next, p.1)) = _
          rw [hp1]; rfl
    · have hr := h.recs q hq
      have hqx : x ≠ q.item := fun e => absurd rfl (e ▸ (hpair q.item hr.mem)).idx
      refine ⟨by simp [hr.mem], hr.light, fun d1 d2 e t hu => ?_, fun t ht => ?_, hr.idle, fun g hw hg => ?_⟩
      · have : ∃ d2', done = d1 ++ q.item :: d2' := by
          have hd2 : d2 ≠ [] := by
            intro hd2
            rw [hd2] at e
            have := List.append_inj_right' e rfl
            simp only [List.cons.injEq, and_true] at this
            exact hqx this
          refine ⟨d2.dropLast, ?_⟩
          have hlast := congrArg List.dropLast e
          rw [List.dropLast_concat, List.dropLast_append_of_ne_nil (by simp)] at hlast
          rw [hlast]
          cases d2 with
          | nil => exact absurd rfl hd2
          | cons z zs => rfl
        obtain ⟨d2', hd⟩ := this
        obtain ⟨r1, r2⟩ := hr.early d1 d2' hd t hu
        refine ⟨fun hy => ?_, r2⟩
        rw [r1 hy]
        obtain ⟨y, hy1, hy2⟩ := hy
        exact (Fr.put_ne hn hdst (hne y (by rw [hd]; simp [hy1]) t hy2)).symm
      · rw [Fr.put_ne hn hdst (hne q.item hr.mem t ht)]; exact hr.val t ht
      · obtain ⟨id, p, k1, k2, k3, k4, k5, k6⟩ := hr.made g hw hg
        exact ⟨id, p, k1, k2, k3, k4, Nat.lt_of_lt_of_le k5 hnext, k6⟩
  · have fresh : ∀ g, wantedF x.op.guard f = true → x.op.act = .new g → ∀ i o, madeF x f s = some (i, o) → i = s.next := by
      intro g hw ha i o hm
      unfold madeF at hm
      rw [ha] at hm
      obtain ⟨p, _, hp⟩ := ob_eq (show ob (g f.eval) (fun p => some (s.next, p.1)) = some (i, o) from hm)
      simp only [Option.some.injEq, Prod.mk.injEq] at hp
      exact hp.1.symm
    have older : ∀ q ∈ pend, ∀ g, wantedF q.item.op.guard q.fr = true → q.item.op.act = .new g → ∀ i o, q.made = some (i, o) → i < s.next := by
      intro q hq g hw ha i o hm
      obtain ⟨id, p, k1, _, _, _, k5, _⟩ := (h.recs q hq).made g hw ha
      rw [hm] at k1
      cases k1
      exact k5
    rcases List.mem_cons.1 hq with rfl | hq
    · rcases List.mem_cons.1 hq' with rfl | hq'
      · exact absurd rfl hne'
      · have := fresh g hw1 ha1 i o e
        have := older q' hq' g' hw2 ha2 i' o' e'
        omega
    · rcases List.mem_cons.1 hq' with rfl | hq'
      · have := fresh g' hw2 ha2 i' o' e'
        have := older q hq g hw1 ha1 i o e
        omega
      · exact h.ids q hq q' hq' hne' g g' hw1 ha1 hw2 ha2 i o i' o' e e'
  · rw [Fr.put_marks]; exact h.marks
  · have hxt : x.op.dst ≠ some t := fun e => hoff (ht x (by simp) e)
    rw [Fr.put_ne hn hdst hxt]
    exact h.now t fun y hy e => ht y (by simp [hy]) e
  · rcases List.mem_append.1 hy with hy | hy
    · exact h.old t y hy hyt hyo
    · have : y = x := by simpa using hy
      subst this
      have h1 : ∀ z ∈ done, z.op.dst ≠ some t := fun z hz e => hne z hz t e hyt
      rw [← h.same t h1]
      exact h.now t fun z hz e => absurd e (h1 z hz)
  · rw [Fr.put_ne hn hdst (ht x (by simp))]
    exact h.same t fun y hy => ht y (by simp [hy])
  · exact ⟨h.ext.le, h.ext.same, Nat.le_trans h.ext.next hnext, h.ext.below⟩

theorem eval_rel {σ : Ren} {f : Fr} {a : Act} {x : Operand} (hx : constOk x = true) (ht : ∀ t, x = .tmp t → VRel σ (f.get t) (a.tmps.getD t undef)) : VRel σ (f.eval x) (a.eval x) := by
  cases x with
  | tmp t => exact ht t rfl
  | const v => exact closedV_rel hx
  | global g => simp [constOk] at hx
  | func g => exact .func _ (fun l e => by cases e) .nil .nil

/-- What a temporary that an operation of 'done' looks at holds, when it may come next. -/
theorem Inv.sees (hL : PlanOk T n all L) {done r : List PItem} {pend : List PRec} {f0 f : Fr} {s0 s : St} {σ0 σ : Ren} {w0 : World} {listed : Array Bool} {a : Act} {w : World}
    (h : Inv T P all n N L done r pend f0 f s0 s σ0 σ w0 listed a w) {q : PRec} (hq : q ∈ pend) (hoff : ¬ On listed q.item.idx) (hpre : ∀ e ∈ q.item.oper.after.toList, bindsF e = true → On listed e.on) {t : Tmp} (hu : Uses q.item t) :
    VRel σ (q.fr.get t) (a.tmps.getD t undef) := by
  have hr := h.recs q hq
  obtain ⟨d1, d2, hd⟩ := List.append_of_mem hr.mem
  have hsplit : L = d1 ++ q.item :: (d2 ++ r) := by rw [h.split, hd]; simp
  obtain ⟨e1, e2⟩ := hr.early d1 d2 hd t hu
  have hmask := mask_on hL h.shut d1.length d1 q.item (d2 ++ r) (Nat.le_refl _) hsplit hpre
  by_cases hex : ∃ y ∈ d1, y.op.dst = some t
  · rw [e1 hex]
    obtain ⟨y, hy, hyt⟩ := hex
    obtain ⟨A, B, hAB⟩ := List.append_of_mem hy
    have hpair := hL.pair (L1 := A) (x := y) (L2 := B ++ q.item :: (d2 ++ r)) (y := q.item) (by rw [hsplit, hAB]; simp) (by simp)
    have hyon : On listed y.idx := hmask _ (hpair.mask (.inl (looks_of hyt hu)))
    refine h.now t fun z hz hzt => ?_
    have : z = y := dst_one hL (by rw [h.split]; simp [hz]) (by rw [hsplit]; simp [hy]) hzt hyt
    rw [this]; exact hyon
  · have hno : ∀ y ∈ d1, y.op.dst ≠ some t := fun y hy e => hex ⟨y, hy, e⟩
    rw [e2 hno]
    by_cases hex2 : ∃ y ∈ done, y.op.dst = some t
    · obtain ⟨y, hy, hyt⟩ := hex2
      refine h.old t y hy hyt ?_
      rw [hd] at hy
      rcases List.mem_append.1 hy with hy | hy
      · exact absurd hyt (hno y hy)
      · rcases List.mem_cons.1 hy with rfl | hy
        · exact hoff
        · intro hyon
          have hpair := hL.pair (L1 := d1) (x := q.item) (L2 := d2 ++ r) (y := y) hsplit (by simp [hy])
          have hb := hpair.mask (.inr (.inl (looks_of hyt hu)))
          obtain ⟨A, B, hAB⟩ := List.append_of_mem hy
          have hyL : y ∈ L := by rw [hsplit]; simp [hy]
          have := mask_on hL h.shut (d1 ++ q.item :: A).length (d1 ++ q.item :: A) y (B ++ r) (Nat.le_refl _) (by rw [hsplit, hAB]; simp) (h.shut y hyL hyon) _ hb
          exact hoff this
    · have hno2 : ∀ y ∈ done, y.op.dst ≠ some t := fun y hy e => hex2 ⟨y, hy, e⟩
      rw [← h.same t hno2]
      exact h.now t fun y hy e => absurd e (hno2 y hy)

theorem Ext.every {N : Nat} {σ τ : Ren} {s : St} {w w' : World} (hx : Ext N σ τ s s w w') (hw : WRel N σ s w) (hw' : WRel N τ s w') (i : Nat) : τ i = σ i := by
  by_cases h : i < s.next
  · exact hx.same i h
  · rw [hw.fresh (by omega), hw'.fresh (by omega)]
theorem put_getD {a : Act} {d t : Tmp} {v : Value} (h : d < a.tmps.size) : (a.put (some d) v).tmps.getD t undef = if t = d then v else a.tmps.getD t undef := by
  simp only [Act.put]; exact getD_put h
theorem put_ne {a : Act} {d : Option Tmp} {t : Tmp} {v : Value} (h : d ≠ some t) : (a.put d v).tmps.getD t undef = a.tmps.getD t undef := by
  cases d with
  | none => rfl
  | some d =>
    simp only [Act.put, Array.getD_eq_getD_getElem?]
    rw [Array.getElem?_setIfInBounds_ne (fun e => h (by rw [e]))]
theorem put_size {a : Act} {d : Option Tmp} {v : Value} : (a.put d v).tmps.size = a.tmps.size := by cases d <;> simp [Act.put]
theorem put_defers {a : Act} {d : Option Tmp} {v : Value} : (a.put d v).defers = a.defers := by cases d <;> rfl

/-- An operation that was calculated ahead is carried out now: what is left. -/
theorem Inv.listed (hL : PlanOk T n all L) {done r : List PItem} {pend : List PRec} {f0 f : Fr} {s0 s : St} {σ0 σ τ : Ren} {w0 : World} {listed : Array Bool} {a : Act} {w w' : World}
    (h : Inv T P all n N L done r pend f0 f s0 s σ0 σ w0 listed a w) {q : PRec} (hq : q ∈ pend) (hpre : ∀ e ∈ q.item.oper.after.toList, bindsF e = true → On listed e.on) {v' : Value}
    (hle : σ.le τ) (hsame : ∀ i, (∀ g p, wantedF q.item.op.guard q.fr = true → q.item.op.act = .new g → q.made = some (i, p) → False) → τ i = σ i) (hw' : WRel N τ s w') (hbel : Below N w w') (hv : VRel τ q.val v')
    (hbig : ∀ i, i < s0.next → τ i = σ i) :
    Inv T P all n N L done r pend f0 f s0 s σ0 τ w0 (listed.setIfInBounds q.item.idx true) (a.put q.item.op.dst v') w' := by
  have hr := h.recs q hq
  have hqL : q.item ∈ L := by rw [h.split]; simp [hr.mem]
  have hio := hL.item _ hqL
  have hdst : dstOk n q.item.op.dst = true := by rw [hio.dstEq]; exact hio.dst
  have hlt : q.item.idx < listed.size := by rw [h.size]; exact (Array.getElem?_eq_some_iff.1 hio.at_).1
  have hmem : ∀ y ∈ done, y ∈ L := fun y hy => by rw [h.split]; simp [hy]
  refine ⟨h.split, by simpa using h.size, fun y hy hon => ?_, fun y hy hyo => ?_, fun q' hq' => ?_, h.ids, fun y hy hon e he hb => ?_, by rw [put_size]; exact h.tsize, by rw [put_defers]; exact h.marks.mono hle,
    fun t ht => ?_, fun t y hy hyt hyo => ?_, h.same, hw', ?_⟩
  · refine h.later y hy (hon.of_set fun e => ?_)
    have : y = q.item := distinct hL (by rw [h.split]; simp [hy]) hqL e
    subst this
    obtain ⟨A, B, hAB⟩ := List.append_of_mem hr.mem
    exact absurd rfl (hL.pair (L1 := A) (x := q.item) (L2 := B ++ r) (y := q.item) (by rw [h.split, hAB]; simp) (by simp [hy])).idx
  · exact h.wait y hy fun hon => hyo hon.set
  · have hr' := h.recs q' hq'
    refine ⟨hr'.mem, hr'.light, hr'.early, hr'.val, hr'.idle, fun g hw hg => ?_⟩
    obtain ⟨id, p, k1, k2, k3, k4, k5, k6⟩ := hr'.made g hw hg
    refine ⟨id, p, k1, k2, k3, k4, k5, fun hno => ?_⟩
    have hne : q'.item.idx ≠ q.item.idx := fun e => hno (by rw [e]; exact On.set_same hlt)
    have hno' : ¬ On listed q'.item.idx := fun hon => hno hon.set
    rw [hsame id (fun g' p' hw2 hg2 hm2 => h.ids q hq q' hq' (Ne.symm hne) g' g hw2 hg2 hw hg _ _ _ _ hm2 k1 rfl)]
    exact k6 hno'
  · by_cases e' : y.idx = q.item.idx
    · have : y = q.item := distinct hL hy hqL e'
      subst this
      exact (hpre e he hb).set
    · exact (h.shut y hy (hon.of_set e') e he hb).set
  · by_cases e : q.item.op.dst = some t
    · have hdl := hdst
      rw [e] at hdl
      rw [e, put_getD (by rw [h.tsize]; exact dstOk_some hdl), if_pos rfl, hr.val t e]
      exact hv
    · rw [put_ne e]
      exact (h.now t fun y hy hyt => (ht y hy hyt).of_set fun e' => e (by rw [← distinct hL (hmem y hy) hqL e']; exact hyt)).mono hle
  · have hne : y.idx ≠ q.item.idx := fun e => hyo (by rw [e]; exact On.set_same hlt)
    have e : q.item.op.dst ≠ some t := fun e => hne (by rw [dst_one hL (hmem y hy) hqL hyt e])
    rw [put_ne e]
    exact (h.old t y hy hyt fun hon => hyo hon.set).mono hle
  · exact ⟨Ren.le_trans h.ext.le hle, fun i hi => (hbig i hi).trans (h.ext.same i hi), h.ext.next, h.ext.below.trans hbel⟩

theorem pend_step (hT : TabOk P T) (hP : T.prog = P) (hL : PlanOk T n all L) {F : Fence} {rd : Bool} (hF : FOk F rd) {m : Nat} {Q : Exit → Act → World → Prop} {self : Self} (hself : SelfOk P self)
    {done r : List PItem} {pend : List PRec} {f0 f : Fr} {s0 s : St} {σ0 σ : Ren} {w0 : World} {listed : Array Bool} {a : Act} {w : World}
    (h : Inv T P all n N L done r pend f0 f s0 s σ0 σ w0 listed a w) {q : PRec} (hq : q ∈ pend) (hok : recOk s q = true) (hoff : ¬ On listed q.item.idx) (hpre : ∀ e ∈ q.item.oper.after.toList, bindsF e = true → On listed e.on) {K : Act → World → Prop}
    (hK : ∀ τ a' w', Inv T P all n N L done r pend f0 f s0 s σ0 τ w0 (listed.setIfInBounds q.item.idx true) a' w' → K a' w') : wpOpIn F m P all Q q.item.idx K a w := by
  have hr := h.recs q hq
  have hqL : q.item ∈ L := by rw [h.split]; simp [hr.mem]
  have hio := hL.item _ hqL
  have hops : ∀ x ∈ q.item.oper.op.operands.toList, VRel σ (q.fr.eval x) (a.eval x) := fun x hx => eval_rel (List.all_eq_true.1 hio.consts x hx) fun t e => h.sees hL hq hoff hpre (.inl (by rw [← e]; exact hx))
  have hgr : ∀ u b, q.item.op.guard = some (u, b) → VRel σ (q.fr.get u) (a.tmps.getD u undef) := fun u b e => h.sees hL hq hoff hpre (.inr ⟨b, e⟩)
  unfold recOk at hok
  cases hwf : wantedF q.item.op.guard q.fr with
  | false =>
    have hidle := hr.idle hwf
    refine item_ok hT hP hself hio.at_ hio.guard hio.comp hF (v := undef) (s' := s) h.world hops hgr (by rw [hwf]; rfl) ?_
    intro τ w' v' hx hw' hv
    rw [← hio.dstEq]
    exact hK τ _ w' (h.listed hL hq hpre hx.le (fun i _ => hx.every h.world hw' i) hw' hx.below (by rw [hidle]; exact hv) (fun i hi => hx.same i (Nat.lt_of_lt_of_le hi h.ext.next)))
  | true =>
    rw [hwf] at hok
    simp only [bt_true] at hok
    cases ha : q.item.op.act with
    | act g => have := hr.light; rw [ha] at this; cases this
    | pure g =>
      rw [ha] at hok
      have hok' : Option.rec (motive := fun _ => Bool) false (fun v => veq 5 v q.val) (g q.fr.eval s.heap) = true := hok
      cases hgv : g q.fr.eval s.heap with
      | none => rw [hgv] at hok'; cases hok'
      | some v =>
        rw [hgv] at hok'
        have hvv : v = q.val := veq_eq 5 _ _ hok'
        refine item_ok hT hP hself hio.at_ hio.guard hio.comp hF (v := q.val) (s' := s) h.world hops hgr (by rw [hwf, ha]; show ob (g q.fr.eval s.heap) (fun v => some (v, s)) = _; rw [hgv, hvv]; rfl) ?_
        intro τ w' v' hx hw' hv
        rw [← hio.dstEq]
        exact hK τ _ w' (h.listed hL hq hpre hx.le (fun i _ => hx.every h.world hw' i) hw' hx.below hv (fun i hi => hx.same i (Nat.lt_of_lt_of_le hi h.ext.next)))
    | new g =>
      rw [ha] at hok
      obtain ⟨id, p, k1, k2, k3, k4, k5, k6⟩ := hr.made g hwf ha
      have hok' : Option.rec (motive := fun _ => Bool) false (fun p => Option.rec (motive := fun _ => Bool) false (fun o => oeq o p.2) (s.heap.get p.1)) q.made = true := hok
      rw [k1] at hok'
      have hok2 : Option.rec (motive := fun _ => Bool) false (fun o => oeq o p.1) (s.heap.get id) = true := hok'
      cases hget : s.heap.get id with
      | none => rw [hget] at hok2; cases hok2
      | some o =>
        rw [hget] at hok2
        have hnr : isRom o = false := oeq_nr hok2
        have hoo : o = p.1 := oeq_eq hok2
        subst hoo
        have hcmp := hio.comp
        rw [ha] at hcmp
        have hnew : NewOk P q.item.oper g := comp_ok hT hP self hcmp
        obtain ⟨O, v', e1, _, e2⟩ := hnew (w := w) hops k2
        have hnone := k6 hoff
        obtain ⟨e3, e4⟩ := e2 (σ.add id w.heap.size 0 none) id (Ren.le_add hnone) Ren.add_same
        have hw2 : WRel N (σ.add id w.heap.size 0 none) s (w.alloc O) := (h.world.more O).name hnone k5 hget hnr h.world.base (World.alloc_heap_new w O) e3 (fun j sh' x' o' hj _ => by
          have := (h.world.lt hj).2; omega)
        unfold wpOpIn
        simp only [hio.at_]
        rw [wanted_ok hio.guard hgr, hwf]
        simp only [if_true]
        refine ⟨fun fn _ => hF.fn fn, ?_⟩
        rw [semAt_ok hcmp, e1, Oper.uponIn_value, ← hio.dstEq]
        refine hK _ _ _ (h.listed hL hq hpre (Ren.le_add hnone) (fun i hi => ?_) hw2 ((Below.refl _ _).alloc h.world.base _) (by rw [k3]; exact e4) (fun i hi => Ren.add_ne (by omega)))
        by_cases ei : i = id
        · subst ei; exact (hi g p.1 hwf ha k1).elim
        · exact Ren.add_ne ei

theorem heavy_step (hT : TabOk P T) (hP : T.prog = P) (hL : PlanOk T n all L) (hn : n < top) {F : Fence} {rd : Bool} (hF : FOk F rd) {m : Nat} {Q : Exit → Act → World → Prop} {self : Self} (hself : SelfOk P self)
    {done r : List PItem} {x : PItem} {pend : List PRec} {f0 f : Fr} {s0 s s1 : St} {σ0 σ : Ren} {w0 : World} {listed : Array Bool} {a : Act} {w : World} {v : Value}
    (h : Inv T P all n N L done (x :: r) pend f0 f s0 s σ0 σ w0 listed a w) (hpre : ∀ e ∈ x.oper.after.toList, bindsF e = true → On listed e.on) (hv : itemF self x f s = some (v, s1)) {K : Act → World → Prop}
    (hK : ∀ τ a' w', Inv T P all n N L (done ++ [x]) r (pend.filter fun q => !x.mask.testBit q.item.idx) f0 (f.put x.op.dst v) s0 s1 σ0 τ w0 (listed.setIfInBounds x.idx true) a' w' → K a' w') : wpOpIn F m P all Q x.idx K a w := by
  have hxL : x ∈ L := by rw [h.split]; simp
  have hio := hL.item x hxL
  have hdst : dstOk n x.op.dst = true := by rw [hio.dstEq]; exact hio.dst
  have hmem : ∀ y ∈ done, y ∈ L := fun y hy => by rw [h.split]; simp [hy]
  have hlt : x.idx < listed.size := by rw [h.size]; exact (Array.getElem?_eq_some_iff.1 hio.at_).1
  have hpair : ∀ y ∈ done, PairOk y x := fun y hy => by
    obtain ⟨A, B, rfl⟩ := List.append_of_mem hy
    exact hL.pair (L1 := A) (x := y) (L2 := B ++ x :: r) (y := x) (by rw [h.split]; simp) (by simp)
  have hne : ∀ y ∈ done, ∀ t, y.op.dst = some t → x.op.dst ≠ some t := fun y hy t e => (hpair y hy).dst t e
  have hmask := mask_on hL h.shut done.length done x r (Nat.le_refl _) h.split hpre
  have sees : ∀ t, Uses x t → VRel σ (f.get t) (a.tmps.getD t undef) := fun t hu => h.now t fun y hy hyt => hmask _ ((hpair y hy).mask (.inl (looks_of hyt hu)))
  have hops : ∀ o ∈ x.oper.op.operands.toList, VRel σ (f.eval o) (a.eval o) := fun o ho => eval_rel (List.all_eq_true.1 hio.consts o ho) fun t e => sees t (.inl (by rw [← e]; exact ho))
  have hgr : ∀ u b, x.op.guard = some (u, b) → VRel σ (f.get u) (a.tmps.getD u undef) := fun u b e => sees u (.inr ⟨b, e⟩)
  refine item_ok hT hP hself hio.at_ hio.guard hio.comp hF h.world hops hgr hv ?_
  intro τ w' v' hx hw' hvr
  rw [← hio.dstEq]
  refine hK τ _ w' ⟨by rw [h.split]; simp, by simpa using h.size, fun y hy hon => ?_, fun y hy hyo => ?_, fun q hq => ?_, fun q hq q' hq' => h.ids q (List.mem_filter.1 hq).1 q' (List.mem_filter.1 hq').1, fun y hy hon e he hb => ?_,
    by rw [put_size]; exact h.tsize, by rw [put_defers, Fr.put_marks]; exact h.marks.mono hx.le, fun t ht => ?_, fun t y hy hyt hyo => ?_, fun t ht => ?_, hw', h.ext.trans hx⟩
  · refine h.later y (by simp [hy]) (hon.of_set fun e => ?_)
    exact absurd e.symm (hL.pair (L1 := done) (x := x) (L2 := r) (y := y) h.split hy).idx
  · rcases List.mem_append.1 hy with hy | hy
    · have hyo' : ¬ On listed y.idx := fun hon => hyo hon.set
      obtain ⟨q, h1, h2⟩ := h.wait y hy hyo'
      refine ⟨q, List.mem_filter.2 ⟨h1, ?_⟩, h2⟩
      cases hb : x.mask.testBit q.item.idx with
      | false => rfl
      | true => rw [h2] at hb; exact absurd (hmask _ hb) hyo'
    · have : y = x := by simpa using hy
      subst this
      exact absurd (On.set_same hlt) hyo
  · have hr := h.recs q (List.mem_filter.1 hq).1
    have hqx : x ≠ q.item := fun e => absurd rfl (e ▸ (hpair q.item hr.mem)).idx
    refine ⟨by simp [hr.mem], hr.light, fun d1 d2 e t hu => ?_, fun t ht => ?_, hr.idle, fun g hw hg => ?_⟩
    · have : ∃ d2', done = d1 ++ q.item :: d2' := by
        have hd2 : d2 ≠ [] := by
          intro hd2
          rw [hd2] at e
          have := List.append_inj_right' e rfl
          simp only [List.cons.injEq, and_true] at this
          exact hqx this
        refine ⟨d2.dropLast, ?_⟩
        have hlast := congrArg List.dropLast e
        rw [List.dropLast_concat, List.dropLast_append_of_ne_nil (by simp)] at hlast
        rw [hlast]
        cases d2 with
        | nil => exact absurd rfl hd2
        | cons z zs => rfl
      obtain ⟨d2', hd⟩ := this
      obtain ⟨r1, r2⟩ := hr.early d1 d2' hd t hu
      refine ⟨fun hy => ?_, r2⟩
      rw [r1 hy]
      obtain ⟨y, hy1, hy2⟩ := hy
      exact (Fr.put_ne hn hdst (hne y (by rw [hd]; simp [hy1]) t hy2)).symm
    · rw [Fr.put_ne hn hdst (hne q.item hr.mem t ht)]; exact hr.val t ht
    · obtain ⟨id, p, k1, k2, k3, k4, k5, k6⟩ := hr.made g hw hg
      exact ⟨id, p, k1, k2, k3, k4, Nat.lt_of_lt_of_le k5 hx.next, fun hno => by rw [hx.same id k5]; exact k6 fun hon => hno hon.set⟩
  · by_cases e' : y.idx = x.idx
    · have : y = x := distinct hL hy hxL e'
      subst this
      exact (hpre e he hb).set
    · exact (h.shut y hy (hon.of_set e') e he hb).set
  · by_cases e : x.op.dst = some t
    · have hdl := hdst
      rw [e] at hdl ⊢
      rw [put_getD (by rw [h.tsize]; exact dstOk_some hdl), if_pos rfl, Fr.put_same hn hdl]
      exact hvr
    · rw [put_ne e, Fr.put_ne hn hdst e]
      refine (h.now t fun y hy hyt => (ht y (by simp [hy]) hyt).of_set fun e' => ?_).mono hx.le
      exact absurd e' (hpair y hy).idx
  · rcases List.mem_append.1 hy with hy | hy
    · rw [put_ne (hne y hy t hyt)]
      exact (h.old t y hy hyt fun hon => hyo hon.set).mono hx.le
    · have : y = x := by simpa using hy
      subst this
      exact absurd (On.set_same hlt) hyo
  · rw [Fr.put_ne hn hdst (ht x (by simp))]
    exact h.same t fun y hy => ht y (by simp [hy])

/-- Every order of a region that draws leads to what was calculated. -/
theorem any_ok (hT : TabOk P T) (hP : T.prog = P) {self : Self} (hself : SelfOk P self) (hL : PlanOk T n all L) (hn : n < top) {F : Fence} {rd : Bool} (hF : FOk F rd) {m : Nat} {Q : Exit → Act → World → Prop} {f0 fE : Fr} {s0 sE : St} {σ0 : Ren} {w0 : World}
    (hQ : ∀ τ a' w', Ext N σ0 τ s0 sE w0 w' → FRel τ n fE a' → WRel N τ sE w' → Q .normal a' w') :
    ∀ (fuel : Nat) (r done : List PItem) (pend : List PRec) (f : Fr) (s : St) (σ : Ren) (listed : Array Bool) (a : Act) (w : World), Inv T P all n N L done r pend f0 f s0 s σ0 σ w0 listed a w → un listed all.size ≤ fuel →
      planRun self r pend f s = some (fE, sE) → wpAnyIn F m P .any all Q fuel listed a w := by
  intro fuel
  induction fuel with
  | zero =>
    intro r
    induction r with
    | nil =>
      intro done pend f s σ listed a w h hu hr
      obtain ⟨_, hr2⟩ := gd_eq (show gd (pend.all (recOk s)) (some (f, s)) = some (fE, sE) from hr)
      cases hr2
      have hall := un_zero all.size (by omega : un listed all.size = 0)
      have hidx : ∀ x ∈ done, On listed x.idx := fun x hx => hall _ (Array.getElem?_eq_some_iff.1 (hL.item x (by rw [h.split]; simp [hx])).at_).1
      refine ⟨?_, hQ σ a w h.ext ⟨h.tsize, fun t => h.now t fun x hx _ => hidx x hx, h.marks⟩ h.world⟩
      cases hrd : Region.ready .any all listed with
      | nil => rfl
      | cons i is =>
        have : i ∈ Region.ready .any all listed := by rw [hrd]; simp
        obtain ⟨h1, o, h2, _⟩ := mem_ready.1 this
        have hlt : i < all.size := (Array.getElem?_eq_some_iff.1 h2).1
        have := hall i hlt
        unfold On at this
        have hlt' : i < listed.size := by rw [h.size]; exact hlt
        simp [Array.getD_eq_getD_getElem?, hlt'] at h1 this
        rw [h1] at this; cases this
    | cons x r ih =>
      intro done pend f s σ listed a w h hu hr
      have hall := un_zero all.size (by omega : un listed all.size = 0)
      exact absurd (hall _ (Array.getElem?_eq_some_iff.1 (hL.item x (by rw [h.split]; simp)).at_).1) (h.later x (by simp))
  | succ fuel IH =>
    -- at the end of a phase: whatever may come next
    have phase : ∀ (r done : List PItem) (pend : List PRec) (f : Fr) (s : St) (σ : Ren) (listed : Array Bool) (a : Act) (w : World), Inv T P all n N L done r pend f0 f s0 s σ0 σ w0 listed a w → un listed all.size ≤ fuel + 1 →
        planRun self r pend f s = some (fE, sE) → pend.all (recOk s) = true → (r = [] ∧ f = fE ∧ s = sE ∨ ∃ x r', r = x :: r' ∧ heavyA x.op.act = true) → wpAnyIn F m P .any all Q (fuel + 1) listed a w := by
      intro r done pend f s σ listed a w h hu hr hok hend
      refine ⟨fun hnil => ?_, fun i hi => ?_⟩
      · have hall : ∀ i, i < all.size → On listed i := fun i hi => Classical.byContradiction fun hno => some_ready hL h.size hi hno hnil
        have hidx : ∀ x ∈ L, On listed x.idx := fun x hx => hall _ (Array.getElem?_eq_some_iff.1 (hL.item x hx).at_).1
        rcases hend with ⟨rfl, rfl, rfl⟩ | ⟨x, r', rfl, _⟩
        · exact hQ σ a w h.ext ⟨h.tsize, fun t => h.now t fun x hx _ => hidx x (by rw [h.split]; simp [hx]), h.marks⟩ h.world
        · exact absurd (hidx x (by rw [h.split]; simp)) (h.later x (by simp))
      · obtain ⟨h1, o, h2, h3⟩ := mem_ready.1 hi
        have hlt : i < all.size := (Array.getElem?_eq_some_iff.1 h2).1
        have hoff : ¬ On listed i := by
          unfold On
          have hlt' : i < listed.size := by rw [h.size]; exact hlt
          simp [Array.getD_eq_getD_getElem?, hlt'] at h1 ⊢
          exact h1
        have hun := un_set (by rw [h.size]; exact hlt) hoff all.size hlt
        obtain ⟨x, hxL, rfl⟩ := hL.cover i hlt
        have hio := hL.item x hxL
        have ho : o = x.oper := by have := hio.at_; rw [h2] at this; exact Option.some.inj this
        subst ho
        have hpre : ∀ e ∈ x.oper.after.toList, bindsF e = true → On listed e.on := fun e he hb => h3 e (by simpa using he) (by rw [bindsF_eq]; exact hb)
        have hx' := hxL
        rw [h.split] at hx'
        rcases List.mem_append.1 hx' with hxd | hxr
        · obtain ⟨q, hq, rfl⟩ := h.wait x hxd hoff
          refine pend_step hT hP hL hF hself h hq (List.all_eq_true.1 hok q hq) hoff hpre fun τ a' w' h' => ?_
          exact IH r done pend f s τ _ a' w' h' (by omega) hr
        · rcases hend with ⟨rfl, _⟩ | ⟨y, r', rfl, hheavy⟩
          · simp at hxr
          · rcases List.mem_cons.1 hxr with rfl | hxr
            · rw [planRun_cons, hheavy] at hr
              obtain ⟨_, hr2⟩ := gd_eq (show gd (pend.all (recOk s)) (ob (itemF self x f s) fun p => planRun self r' (pend.filter fun q => !x.mask.testBit q.item.idx) (f.put x.op.dst p.1) p.2) = some (fE, sE) from hr)
              obtain ⟨⟨v, s1⟩, h4, h5⟩ := ob_eq hr2
              refine heavy_step hT hP hL hn hF hself h hpre h4 fun τ a' w' h' => ?_
              exact IH r' _ _ _ _ τ _ a' w' h' (by omega) h5
            · obtain ⟨A, B, hAB⟩ := List.append_of_mem hxr
              have hpair := hL.pair (L1 := done) (x := y) (L2 := r') (y := x) h.split hxr
              have hb := hpair.mask (.inr (.inr hheavy))
              have := mask_on hL h.shut (done ++ y :: A).length (done ++ y :: A) x B (Nat.le_refl _) (by rw [h.split, hAB]; simp) hpre _ hb
              exact absurd this (h.later y (by simp))
    intro r
    induction r with
    | nil =>
      intro done pend f s σ listed a w h hu hr
      obtain ⟨hok, hr2⟩ := gd_eq (show gd (pend.all (recOk s)) (some (f, s)) = some (fE, sE) from hr)
      cases hr2
      exact phase [] done pend _ _ σ listed a w h hu hr hok (.inl ⟨rfl, rfl, rfl⟩)
    | cons x r ih =>
      intro done pend f s σ listed a w h hu hr
      have hr0 := hr
      rw [planRun_cons] at hr
      cases hx : heavyA x.op.act with
      | false =>
        rw [hx] at hr
        obtain ⟨⟨v, s1⟩, h1, h2⟩ := ob_eq (show ob (itemF self x f s) (fun p => planRun self r (⟨x, f, p.1, madeF x f s⟩ :: pend) (f.put x.op.dst p.1) p.2) = some (fE, sE) from hr)
        exact ih _ _ _ _ _ _ _ _ (h.ahead hL hn hx h1) hu h2
      | true =>
        rw [hx] at hr
        have hok := (gd_eq (show gd (pend.all (recOk s)) (ob (itemF self x f s) fun p => planRun self r (pend.filter fun q => !x.mask.testBit q.item.idx) (f.put x.op.dst p.1) p.2) = some (fE, sE) from hr)).1
        exact phase (x :: r) done pend f s σ listed a w h hu hr0 hok (.inr ⟨x, r, rfl, hx⟩)

theorem un_none (k : Nat) : un (Array.replicate k false) k ≤ k := by
  have : ∀ j, un (Array.replicate k false) j ≤ j := by
    intro j
    induction j with
    | zero => exact Nat.le_refl _
    | succ j ih => simp only [un]; split <;> omega
  exact this k
theorem not_on_none (k i : Nat) : ¬ On (Array.replicate k false) i := by
  unfold On
  simp [Array.getD_eq_getD_getElem?, Array.getElem?_replicate]
  split <;> simp

/-- A region that draws its order. -/
theorem drawn_ok (hT : TabOk P T) (hP : T.prog = P) {self : Self} (hself : SelfOk P self) (hn : n < top) {F : Fence} {rd : Bool} (hF : FOk F rd) {m : Nat} {id : Nat} {l : List PItem} (hl : plan T n all = some l) {f f' : Fr} {s s' : St} (hr : planRun self l [] f s = some (f', s'))
    {σ : Ren} {a : Act} {w : World} (hf : FRel σ n f a) (hw : WRel N σ s w) {Q : Exit → Act → World → Prop}
    (hQ : ∀ τ a' w', Ext N σ τ s s' w w' → FRel τ n f' a' → WRel N τ s' w' → Q .normal a' w') : (Code.region id all true).wpIn F m P Q a w := by
  have hL := plan_ok hl
  refine wpIn_region_any hT.mixed ?_
  have hwd : WRel N σ s { w with drawn := w.drawn + 1 } := hw.drewN _
  refine any_ok hT hP hself hL hn hF (f0 := f) (fE := f') (s0 := s) (sE := s') (σ0 := σ) (w0 := w) hQ all.size l [] [] f s σ _ a _ ?_ (un_none _) hr
  refine ⟨rfl, by simp, fun x _ => not_on_none _ _, fun x hx => by simp at hx, fun q hq => by simp at hq, fun q hq => by simp at hq, fun x _ h => absurd h (not_on_none _ _), hf.size, hf.marks, fun t _ => hf.tmps t, fun t x hx => by simp at hx, fun t _ => rfl, hwd, ?_⟩
  exact ⟨σ.le_refl, fun _ _ => rfl, Nat.le_refl _, (Below.refl N w).drew⟩
end
end Go.Proofs.Yteeamkdblcinnaa.Kern
