/-
  Regions in the order of the text are calculated rightly. The plan of a region that draws its order is sound. Regions that draw their order are calculated rightly, for every order. Scopes, loops, marks and results. A closed call that the calculation finds true returns true in the model and leaves the old memory as it was. Rules by which a calculated run is followed on unknown data. What single operations of a calculated run do. Values, memory and numbers of a calculated run, as equations. Facts on the types of this program, and what its single operations do at them. Straight code, calls, loops and regions that draw their order, as rules. They hold with no condition but those that are written in each theorem.
-/
import Derived.RangeFuncLeaves
import Derived.RangeFuncRecord
import Derived.Test.YtnhokodcmeekhaaProg
import Derived.Test.YtnhokodcmeekhaaPN1
set_option linter.unusedSimpArgs false
set_option linter.unusedVariables false
namespace Go.Proofs.Ytnhokodcmeekhaa.Kern
open Go Go.RowKit

section
variable {P : Program} {T : Tab}

theorem yielded_eq {ops : Array Oper} {tmps : Array Value} {j d : Nat} {oj : Oper} (hj : ops.toList[j]? = some oj) (hd : oj.dst = some d) : yielded ops tmps j = boolOf (tmps.getD d undef) := by
  have hj' : ops[j]? = some oj := by simpa using hj
  unfold yielded
  simp only [hj', Option.bind_some, hd]
  cases ht : tmps[d]? with
  | none =>
    have : tmps.getD d undef = undef := by simp [Array.getD_eq_getD_getElem?, ht]
    rw [this]; rfl
  | some v =>
    have : tmps.getD d undef = v := by simp [Array.getD_eq_getD_getElem?, ht]
    rw [this]
    cases v <;> rfl
theorem boolOf_rel {σ : Ren} {v v' : Value} (h : VRel σ v v') : boolOf v' = boolOf v := by
  cases h <;> rfl
theorem wantedF_some (t : Tmp) (want : Bool) (f : Fr) : wantedF (some (t, want)) f = (match boolOf (f.get t) with | some b => b == want | none => false) := by
  change Option.rec (motive := fun _ => Bool) false (fun b => bt b want (bt want false true)) (boolOf (f.get t)) = _
  cases boolOf (f.get t) with
  | none => rfl
  | some b => cases b <;> cases want <;> rfl
theorem wanted_ok {σ : Ren} {ops : Array Oper} {o : Oper} {g : Option (Tmp × Bool)} (hg : guardOf ops.toList o = some g) {f : Fr} {tmps : Array Value} (hr : ∀ u b, g = some (u, b) → VRel σ (f.get u) (tmps.getD u undef)) :
    Region.wanted o (yielded ops tmps) = wantedF g f := by
  unfold guardOf at hg
  unfold Region.wanted
  cases ho : o.guard with
  | none =>
    rw [ho] at hg
    cases hg
    rfl
  | some p =>
    rw [ho] at hg
    obtain ⟨oj, h1, h2⟩ := ob_eq hg
    obtain ⟨d, h3, h4⟩ := ob_eq h2
    simp only [Option.some.injEq] at h4
    subst h4
    rw [nthL_eq] at h1
    obtain ⟨j, want⟩ := p
    simp only
    rw [yielded_eq h1 h3, wantedF_some, boolOf_rel (hr d want rfl)]
    cases boolOf (f.get d) with
    | none => rfl
    | some b => cases b <;> cases want <;> rfl

theorem semAt_ok {o : Oper} {act : CAct} (h : comp T o = some act) (F : Fence) (ρ : Operand → Value) : o.semAt F.round ρ = execOp ρ o := Oper.semAt_eq _ _ _ (comp_nodefer h)

/-- One operation, wherever it stands. -/
theorem item_ok (hT : TabOk P T) (hP : T.prog = P) {self : Self} (hself : SelfOk P self) {all : Array Oper} {o : Oper} {i : Nat} {g : Option (Tmp × Bool)} {act : CAct} (hi : all[i]? = some o) (hg : guardOf all.toList o = some g) (hc : comp T o = some act)
    {F : Fence} {rd : Bool} (hF : FOk F rd) {m N : Nat} {σ : Ren} {s s' : St} {w : World} {f : Fr} {a : Act} {v : Value} (hw : WRel N σ s w)
    (hops : ∀ x ∈ o.op.operands.toList, VRel σ (f.eval x) (a.eval x)) (hgr : ∀ u b, g = some (u, b) → VRel σ (f.get u) (a.tmps.getD u undef))
    (h : bt (wantedF g f) (actF self act f s) (some (undef, s)) = some (v, s')) {K : Act → World → Prop} {Q : Exit → Act → World → Prop}
    (hK : ∀ τ w' v', Ext N σ τ s s' w w' → WRel N τ s' w' → VRel τ v v' → K (a.put o.dst v') w') : wpOpIn F m P all Q i K a w := by
  unfold wpOpIn
  simp only [hi]
  rw [wanted_ok hg hgr]
  cases hwf : wantedF g f with
  | false =>
    rw [hwf] at h
    cases h
    simp only [Bool.false_eq_true, if_false]
    exact ⟨fun fn _ => hF.fn fn, hK σ w undef Ext.refl hw undef_rel⟩
  | true =>
    rw [hwf] at h
    simp only [if_true]
    refine ⟨fun fn _ => hF.fn fn, ?_⟩
    rw [semAt_ok hc]
    have hck := comp_ok hT hP self hc
    cases act with
    | pure gg =>
      obtain ⟨v1, h1, h2⟩ := ob_eq (show ob (gg f.eval s.heap) (fun v => some (v, s)) = some (v, s') from h)
      cases h2
      obtain ⟨v', k1, k2⟩ := hck hw hops h1
      rw [k1, Oper.uponIn_value]
      exact hK σ w v' Ext.refl hw k2
    | new gg =>
      obtain ⟨p, h1, h2⟩ := ob_eq (show ob (gg f.eval) (fun p => exNew s p.1 p.2) = some (v, s') from h)
      obtain ⟨s1, h3, h4⟩ := ob_eq h2
      cases h4
      obtain ⟨O, v', k1, _, k2⟩ := hck (w := w) hops h1
      obtain ⟨k3, k4⟩ := k2 (σ.add s.next w.heap.size 0 none) s.next (Ren.le_add (hw.fresh (Nat.le_refl _))) Ren.add_same
      rw [k1, Oper.uponIn_value]
      exact hK _ _ v' (Ext.push hw h3) (hw.push h3 k3) k4
    | act gg =>
      have h' : gg self f.eval s = some (v, s') := h
      rcases hck with hck | ⟨c, fo, ho, hcal, rfl⟩ | ⟨c, r, name, ho, hcal, rfl⟩
      · obtain ⟨τ, w', v', k1, k2, k3, k4⟩ := hck hw hops h'
        rcases k1 with k1 | ⟨k1, rfl⟩
        · rw [k1, Oper.uponIn_value]; exact hK τ w' v' k2 k3 k4
        · rw [k1, Oper.uponIn_skip]; exact hK τ w' undef k2 k3 k4
      · exact callV_ok hself ho hcal hF hw hops h' hK
      · exact invoke_ok hT hself ho hcal hF hw hops h' hK

theorem compOps_cons {n : Nat} {all : List Oper} {o : Oper} {l : List Oper} {r : List COp} (h : compOps T n all (o :: l) = some r) :
    ∃ g a r', dstOk n o.dst = true ∧ o.op.operands.toList.all constOk = true ∧ guardOf all o = some g ∧ comp T o = some a ∧ compOps T n all l = some r' ∧ r = ⟨g, o.dst, a⟩ :: r' := by
  have h' : gd (dstOk n o.dst && o.op.operands.toList.all constOk) (ob (guardOf all o) fun g => ob (comp T o) fun a => ob (compOps T n all l) fun r => some (⟨g, o.dst, a⟩ :: r)) = some r := h
  obtain ⟨h1, h2⟩ := gd_eq h'
  obtain ⟨g, h3, h4⟩ := ob_eq h2
  obtain ⟨a, h5, h6⟩ := ob_eq h4
  obtain ⟨r', h7, h8⟩ := ob_eq h6
  simp only [Bool.and_eq_true] at h1
  cases h8
  exact ⟨g, a, r', h1.1, h1.2, h3, h5, h7, rfl⟩

theorem guard_lt {n : Nat} {f : Fr} {a : Act} {σ : Ren} (hf : FRel σ n f a) (g : Option (Tmp × Bool)) : ∀ u b, g = some (u, b) → VRel σ (f.get u) (a.tmps.getD u undef) := fun u _ _ => hf.tmps u

/-- Operations in the order of the text. -/
theorem ops_ok (hT : TabOk P T) (hP : T.prog = P) {self : Self} (hself : SelfOk P self) {all : Array Oper} {n : Nat} (hn : n < top) {F : Fence} {rd : Bool} (hF : FOk F rd) {m N : Nat} {Q : Exit → Act → World → Prop} {f' : Fr} {s' : St} :
    ∀ (l : List Oper) (is : List Nat) (cl : List COp) {σ : Ren} {s : St} {w : World} {f : Fr} {a : Act}, is.length = l.length → (∀ (k i : Nat) (o : Oper), is[k]? = some i → l[k]? = some o → all[i]? = some o) → compOps T n all.toList l = some cl →
      opsF self cl f s = some (f', s') → FRel σ n f a → WRel N σ s w → (∀ τ a' w', Ext N σ τ s s' w w' → FRel τ n f' a' → WRel N τ s' w' → Q .normal a' w') → wpOpsIn F m P all Q is a w
  | [], [], cl, σ, s, w, f, a, _, _, hc, h, hf, hw, hQ => by
    change some [] = some cl at hc
    cases hc
    change some (f, s) = some (f', s') at h
    cases h
    exact hQ σ a w Ext.refl hf hw
  | [], _ :: _, _, _, _, _, _, _, hl, _, _, _, _, _, _ => by simp at hl
  | _ :: _, [], _, _, _, _, _, _, hl, _, _, _, _, _, _ => by simp at hl
  | o :: l, i :: is, cl, σ, s, w, f, a, hl, hidx, hc, h, hf, hw, hQ => by
    obtain ⟨g, act, r', h1, h2, h3, h4, h5, rfl⟩ := compOps_cons hc
    have h' : ob (bt (wantedF g f) (actF self act f s) (some (undef, s))) (fun p => opsF self r' (f.put o.dst p.1) p.2) = some (f', s') := h
    obtain ⟨⟨v, s1⟩, h6, h7⟩ := ob_eq h'
    rw [wpOpsIn_cons]
    have hops : ∀ x ∈ o.op.operands.toList, VRel σ (f.eval x) (a.eval x) := fun x hx => hf.eval (List.all_eq_true.1 h2 x hx)
    refine item_ok hT hP hself (hidx 0 i o rfl rfl) h3 h4 hF hw hops (guard_lt hf g) h6 ?_
    intro τ w' v' hx hw' hv
    exact ops_ok hT hP hself hn hF l is r' (by simpa using hl) (fun k i' o' a b => hidx (k + 1) i' o' (by simpa using a) (by simpa using b)) h5 h7 ((hf.mono hx.le).put hn h1 hv) hw'
      (fun τ2 a2 w2 x2 f2 hw2 => hQ τ2 a2 w2 (hx.trans x2) f2 hw2)
end
end Go.Proofs.Ytnhokodcmeekhaa.Kern
namespace Go.Proofs.Ytnhokodcmeekhaa.Kern
open Go Go.RowKit

/-! ## What equal values are -/
theorem addrEq_eq {a b : Addr} (h : addrEq a b = true) : a = b := by
  unfold addrEq at h
  simp only [Bool.and_eq_true] at h
  obtain ⟨⟨⟨h1, h2⟩, h3⟩, h4⟩ := h
  obtain ⟨ab, ao, ah⟩ := a
  obtain ⟨bb, bo, bs⟩ := b
  have e1 := beq_t h1
  have e2 := beq_t h2
  simp only [Option.isNone_iff_eq_none] at h3 h4
  simp only at e1 e2
  rw [e1, e2, h3, h4]
theorem listEq_eq {α : Type} {f : α → α → Bool} (hf : ∀ a b, f a b = true → a = b) : ∀ {x y : List α}, listEq f x y = true → x = y
  | [], [], _ => rfl
  | [], _ :: _, h => by simp [listEq] at h
  | _ :: _, [], h => by simp [listEq] at h
  | a :: x, b :: y, h => by
    simp only [listEq, Bool.and_eq_true] at h
    rw [hf a b h.1, listEq_eq hf h.2]
theorem veq_eq : ∀ (n : Nat) (a b : Value), veq n a b = true → a = b
  | 0, _, _, h => by simp [veq] at h
  | n + 1, a, b, h => by
    have ih : ∀ m, m = n → ∀ a b, veq m a b = true → a = b := fun m e a b => by rw [e]; exact veq_eq n a b
    unfold veq at h
    split at h
    · cases h
    · rw [boolEq_eq] at h; simp at h; rw [h]
    · simp only [Bool.and_eq_true, intEq_eq, beq_iff_eq] at h; rw [kindEq_eq h.1, h.2]
    · exact congrArg Value.string (ByteArray.ext (Array.toList_inj.1 (eq_of_beq (by rw [← bytesEq_eq]; exact h))))
    · rfl
    · rw [addrEq_eq h]
    · simp only [Bool.and_eq_true] at h; rw [beq_t h.1, beq_t h.2]
    · simp only [Bool.and_eq_true] at h; rw [addrEq_eq h.1.1, beq_t h.1.2, beq_t h.2]
    · rfl
    · rw [beq_t h]
    · rfl
    · rfl
    · simp only [Bool.and_eq_true] at h; rw [beq_t h.1, ih _ (by omega) _ _ h.2]
    · rw [Array.toList_inj.1 (listEq_eq (ih _ (by omega)) h)]
    · rw [Array.toList_inj.1 (listEq_eq (ih _ (by omega)) h)]
    · simp only [Bool.and_eq_true, decide_eq_true_eq] at h
      rw [h.1.1, Array.toList_inj.1 (listEq_eq (ih _ (by omega)) h.1.2), Array.toList_inj.1 (listEq_eq (ih _ (by omega)) h.2)]
    · cases h
theorem optEq_eq {a b : Option Nat} (h : optEq a b = true) : a = b := by
  unfold optEq at h
  split at h
  · rfl
  · rw [beq_t h]
  · cases h
theorem oeq_nr {a b : AObj} (h : oeq a b = true) : isRom a = false := by
  cases a <;> first | rfl | (simp [oeq] at h)
theorem oeq_eq {a b : AObj} (h : oeq a b = true) : a = b := by
  unfold oeq at h
  split at h
  · simp only [Bool.and_eq_true] at h
    rw [listEq_eq (veq_eq 5) h.1, optEq_eq h.2]
  · rw [beq_t h]
  · cases h

/-! ## The plan -/
theorem bindsF_eq (e : Edge) : Region.binds .any e = bindsF e := by
  unfold Region.binds bindsF
  cases e.ground <;> rfl

structure ItemOk (T : Tab) (n : Nat) (all : Array Oper) (x : PItem) : Prop where
  at_ : all[x.idx]? = some x.oper
  dst : dstOk n x.oper.dst = true
  dstEq : x.op.dst = x.oper.dst
  consts : x.oper.op.operands.toList.all constOk = true
  guard : guardOf all.toList x.oper = some x.op.guard
  comp : comp T x.oper = some x.op.act

theorem pickF_at {T : Tab} {listed : Nat} {h : Bool} : ∀ {l : List Oper} {k : Nat} {p : Nat × Oper}, pickF T listed h l k = some p → k ≤ p.1 ∧ l[p.1 - k]? = some p.2
  | [], k, p, hp => by simp [pickF] at hp
  | o :: r, k, p, hp => by
    unfold pickF at hp
    cases hb : (!listed.testBit k && readyF listed o.after.toList && (heavyO T o == h)) with
    | true => rw [hb] at hp; simp only [bt_true, Option.some.injEq] at hp; subst hp; simp
    | false =>
      rw [hb] at hp
      simp only [bt_false] at hp
      obtain ⟨h1, h2⟩ := pickF_at hp
      refine ⟨by omega, ?_⟩
      have : p.1 - k = (p.1 - (k + 1)) + 1 := by omega
      rw [this]; simpa using h2
theorem orderF_at {T : Tab} {ops : List Oper} : ∀ (n listed : Nat) (p : Nat × Oper), p ∈ orderF T ops n listed → ops[p.1]? = some p.2
  | 0, _, p, h => by simp [orderF] at h
  | n + 1, listed, p, h => by
    unfold orderF at h
    split at h
    · rename_i q hq
      rcases List.mem_cons.1 h with rfl | h
      · simpa using (pickF_at hq).2
      · exact orderF_at n _ p h
    · split at h
      · rename_i q hq
        rcases List.mem_cons.1 h with rfl | h
        · simpa using (pickF_at hq).2
        · exact orderF_at n _ p h
      · simp at h

/-- The masks: what lies ahead of an operation is named by an edge of its, or lies ahead of what such an edge names. -/
def MaskOk (acc : List PItem) (x : PItem) : Prop := ∀ j, x.mask.testBit j = true → ∃ e ∈ x.oper.after.toList, bindsF e = true ∧ (e.on = j ∨ ∃ y ∈ acc, y.idx = e.on ∧ y.mask.testBit j = true)
theorem maskAt_ok : ∀ {l : List PItem} {i j : Nat}, (maskAt l i).testBit j = true → ∃ y ∈ l, y.idx = i ∧ y.mask.testBit j = true
  | [], i, j, h => by simp [maskAt] at h
  | x :: r, i, j, h => by
    unfold maskAt at h
    cases hb : Nat.beq x.idx i with
    | true => rw [hb] at h; exact ⟨x, by simp, beq_t hb, h⟩
    | false =>
      rw [hb] at h
      obtain ⟨y, h1, h2⟩ := maskAt_ok h
      exact ⟨y, by simp [h1], h2⟩
theorem maskOf_ok {acc : List PItem} : ∀ {es : List Edge} {j : Nat}, (maskOf acc es).testBit j = true → ∃ e ∈ es, bindsF e = true ∧ (e.on = j ∨ ∃ y ∈ acc, y.idx = e.on ∧ y.mask.testBit j = true)
  | [], j, h => by simp [maskOf] at h
  | e :: es, j, h => by
    unfold maskOf at h
    cases hb : bindsF e with
    | false =>
      rw [hb] at h
      obtain ⟨e', h1, h2⟩ := maskOf_ok h
      exact ⟨e', by simp [h1], h2⟩
    | true =>
      rw [hb] at h
      simp only [bt_true, Nat.testBit_or, Bool.or_eq_true] at h
      rcases h with (h | h) | h
      · rw [Nat.testBit_two_pow] at h
        exact ⟨e, by simp, hb, .inl (by simpa using h)⟩
      · exact ⟨e, by simp, hb, .inr (maskAt_ok h)⟩
      · obtain ⟨e', h1, h2⟩ := maskOf_ok h
        exact ⟨e', by simp [h1], h2⟩

theorem planF_ok {T : Tab} {n : Nat} {all : Array Oper} : ∀ {l : List (Nat × Oper)} {acc L : List PItem}, planF T n all.toList l acc = some L → (∀ p ∈ l, all.toList[p.1]? = some p.2) →
    (∀ x ∈ L, ItemOk T n all x) ∧ ∀ L1 x L2, L = L1 ++ x :: L2 → MaskOk (L1.reverse ++ acc) x
  | [], acc, L, h, _ => by
    simp only [planF, Option.some.injEq] at h
    subst h
    exact ⟨fun x hx => by simp at hx, fun L1 x L2 e => by simp at e⟩
  | p :: l, acc, L, h, hp => by
    unfold planF at h
    obtain ⟨h1, h2⟩ := gd_eq h
    obtain ⟨g, h3, h4⟩ := ob_eq h2
    obtain ⟨a, h5, h6⟩ := ob_eq h4
    obtain ⟨l', h7, h8⟩ := ob_eq h6
    cases h8
    simp only [Bool.and_eq_true] at h1
    obtain ⟨i1, i2⟩ := planF_ok h7 (fun q hq => hp q (by simp [hq]))
    refine ⟨fun x hx => ?_, fun L1 x L2 e => ?_⟩
    · rcases List.mem_cons.1 hx with rfl | hx
      · exact ⟨by simpa using hp p (by simp), h1.1, rfl, h1.2, h3, h5⟩
      · exact i1 x hx
    · cases L1 with
      | nil =>
        simp only [List.nil_append, List.cons.injEq] at e
        obtain ⟨rfl, -⟩ := e
        intro j hj
        simpa using maskOf_ok hj
      | cons y L1 =>
        simp only [List.cons_append, List.cons.injEq] at e
        obtain ⟨rfl, e⟩ := e
        have := i2 L1 x L2 e
        simpa using this

theorem pairsOk_at : ∀ {L : List PItem}, pairsOk L = true → ∀ {L1 x L2 y}, L = L1 ++ x :: L2 → y ∈ L2 → pairOk x y = true
  | [], _, L1, x, L2, y, e, _ => by simp at e
  | z :: L, h, L1, x, L2, y, e, hy => by
    simp only [pairsOk, Bool.and_eq_true] at h
    cases L1 with
    | nil =>
      simp only [List.nil_append, List.cons.injEq] at e
      obtain ⟨rfl, rfl⟩ := e
      exact List.all_eq_true.1 h.1 y hy
    | cons w L1 =>
      simp only [List.cons_append, List.cons.injEq] at e
      exact pairsOk_at h.2 e.2 hy

/-- What pairOk says. -/
structure PairOk (x y : PItem) : Prop where
  idx : x.idx ≠ y.idx
  dst : ∀ t, x.op.dst = some t → y.op.dst ≠ some t
  mask : looks x y = true ∨ looks y x = true ∨ heavyA x.op.act = true → y.mask.testBit x.idx = true
  edge : ∀ e ∈ x.oper.after.toList, bindsF e = true → e.on ≠ y.idx
theorem pairOk_ok {x y : PItem} (h : pairOk x y = true) : PairOk x y := by
  unfold pairOk at h
  simp only [Bool.and_eq_true, Bool.not_eq_true', Bool.or_eq_true] at h
  obtain ⟨⟨⟨h1, h2⟩, h3⟩, h4⟩ := h
  refine ⟨beq_f h1, fun t e e' => ?_, fun hm => ?_, fun e he hb => ?_⟩
  · unfold sameDst at h2
    rw [e, e'] at h2
    simp at h2
  · rcases h3 with h3 | h3
    · simp only [Bool.or_eq_false_iff] at h3
      rcases hm with hm | hm | hm
      · rw [h3.1.1] at hm; cases hm
      · rw [h3.1.2] at hm; cases hm
      · rw [h3.2] at hm; cases hm
    · exact h3
  · have := List.all_eq_true.1 h4 e he
    simp only [Bool.or_eq_true, Bool.not_eq_true', hb, Bool.true_eq_false, false_or] at this
    exact beq_f this

structure PlanOk (T : Tab) (n : Nat) (all : Array Oper) (L : List PItem) : Prop where
  item : ∀ x ∈ L, ItemOk T n all x
  mask : ∀ L1 x L2, L = L1 ++ x :: L2 → MaskOk L1.reverse x
  cover : ∀ i, i < all.size → ∃ x ∈ L, x.idx = i
  edges : ∀ x ∈ L, ∀ e ∈ x.oper.after.toList, bindsF e = true → e.on < all.size ∧ e.on ≠ x.idx
  pair : ∀ {L1 x L2 y}, L = L1 ++ x :: L2 → y ∈ L2 → PairOk x y
theorem plan_ok {T : Tab} {n : Nat} {all : Array Oper} {L : List PItem} (h : plan T n all = some L) : PlanOk T n all L := by
  obtain ⟨l, h1, h2⟩ := ob_eq h
  obtain ⟨h3, h4⟩ := gd_eq h2
  cases h4
  obtain ⟨i1, i2⟩ := planF_ok h1 (fun p hp => orderF_at _ _ p hp)
  unfold planOk at h3
  simp only [Bool.and_eq_true] at h3
  obtain ⟨⟨h5, h6⟩, h7⟩ := h3
  refine ⟨i1, fun L1 x L2 e => by simpa using i2 L1 x L2 e, fun i hi => ?_, fun x hx e he hb => ?_, fun e hy => pairOk_ok (pairsOk_at h7 e hy)⟩
  · have := List.all_eq_true.1 h5 i (by rw [lenL_eq]; simpa using hi)
    obtain ⟨x, hx, hxi⟩ := List.any_eq_true.1 this
    exact ⟨x, hx, beq_t hxi⟩
  · have := List.all_eq_true.1 (List.all_eq_true.1 h6 x hx) e he
    simp only [Bool.or_eq_true, Bool.not_eq_true', hb, Bool.true_eq_false, false_or, Bool.and_eq_true] at this
    refine ⟨?_, beq_f this.2⟩
    have := blt_t this.1
    rw [lenL_eq] at this
    simpa using this
end Go.Proofs.Ytnhokodcmeekhaa.Kern
namespace Go.Proofs.Ytnhokodcmeekhaa.Kern
open Go Go.RowKit

/-! ## A region in whatever order -/
def On (listed : Array Bool) (i : Nat) : Prop := listed.getD i false = true

/-- How many of the first k are not listed. -/
def un (listed : Array Bool) : Nat → Nat
  | 0 => 0
  | k + 1 => un listed k + (if listed.getD k false then 0 else 1)
theorem un_set_ge {listed : Array Bool} {i : Nat} : ∀ (k : Nat), k ≤ i → un (listed.setIfInBounds i true) k = un listed k
  | 0, _ => rfl
  | k + 1, h => by
    simp only [un]
    rw [un_set_ge k (by omega), getD_set_ne false (by omega)]
theorem un_set {listed : Array Bool} {i : Nat} (hi : i < listed.size) (h : ¬ On listed i) : ∀ (k : Nat), i < k → un (listed.setIfInBounds i true) k + 1 = un listed k
  | 0, hk => by omega
  | k + 1, hk => by
    simp only [un]
    by_cases e : i = k
    · subst e
      rw [un_set_ge i (Nat.le_refl _)]
      have h1 : listed.getD i false = false := by simpa [On] using h
      have h2 : (listed.setIfInBounds i true).getD i false = true := by simp [hi]
      rw [h1, h2]; simp
    · rw [getD_set_ne false e]
      have := un_set hi h k (by omega)
      omega
theorem un_zero {listed : Array Bool} : ∀ (k : Nat), un listed k = 0 → ∀ i, i < k → On listed i
  | 0, _, i, hi => by omega
  | k + 1, h, i, hi => by
    simp only [un] at h
    by_cases e : i = k
    · subst e
      unfold On
      cases hb : listed.getD i false with
      | true => rfl
      | false => rw [hb] at h; simp at h
    · exact un_zero k (by omega) i (by omega)
theorem On.set {listed : Array Bool} {i j : Nat} (h : On listed j) : On (listed.setIfInBounds i true) j := getD_set_true h
theorem On.set_same {listed : Array Bool} {i : Nat} (h : i < listed.size) : On (listed.setIfInBounds i true) i := by simp [On, h]
theorem On.of_set {listed : Array Bool} {i j : Nat} (h : On (listed.setIfInBounds i true) j) (hne : j ≠ i) : On listed j := by
  unfold On at h ⊢; rwa [getD_set_ne false (Ne.symm hne)] at h

/-- Does an operation look at a temporary? -/
def Uses (x : PItem) (t : Tmp) : Prop := .tmp t ∈ x.oper.op.operands.toList ∨ ∃ b, x.op.guard = some (t, b)
theorem looks_of {x y : PItem} {t : Tmp} (h : x.op.dst = some t) (hu : Uses y t) : looks x y = true := by
  unfold looks
  rw [h]
  simp only [Bool.or_eq_true]
  rcases hu with hu | ⟨b, hb⟩
  · left
    exact List.any_eq_true.2 ⟨_, hu, by simp [usesTmp]⟩
  · right
    rw [hb]; simp

/-- What is known of an operation that was calculated ahead. -/
structure RecInv (n : Nat) (done : List PItem) (f0 f : Fr) (s0 s : St) (σ : Ren) (listed : Array Bool) (r : PRec) : Prop where
  mem : r.item ∈ done
  light : heavyA r.item.op.act = false
  early : ∀ d1 d2, done = d1 ++ r.item :: d2 → ∀ t, Uses r.item t → ((∃ y ∈ d1, y.op.dst = some t) → r.fr.get t = f.get t) ∧ ((∀ y ∈ d1, y.op.dst ≠ some t) → r.fr.get t = f0.get t)
  val : ∀ t, r.item.op.dst = some t → f.get t = r.val
  idle : wantedF r.item.op.guard r.fr = false → r.val = undef
  made : ∀ g, wantedF r.item.op.guard r.fr = true → r.item.op.act = .new g → ∃ id p, r.made = some (id, p.1) ∧ g r.fr.eval = some p ∧ r.val = p.2 id ∧ s0.next ≤ id ∧ id < s.next ∧ (¬ On listed r.item.idx → σ id = none)

structure Inv (T : Tab) (P : Program) (all : Array Oper) (n N : Nat) (L done r : List PItem) (pend : List PRec) (f0 f : Fr) (s0 s : St) (σ0 σ : Ren) (w0 : World) (listed : Array Bool) (a : Act) (w : World) : Prop where
  split : L = done ++ r
  size : listed.size = all.size
  later : ∀ x ∈ r, ¬ On listed x.idx
  wait : ∀ x ∈ done, ¬ On listed x.idx → ∃ q ∈ pend, q.item = x
  recs : ∀ q ∈ pend, RecInv n done f0 f s0 s σ listed q
  ids : ∀ q ∈ pend, ∀ q' ∈ pend, q.item.idx ≠ q'.item.idx → ∀ g g', wantedF q.item.op.guard q.fr = true → q.item.op.act = .new g → wantedF q'.item.op.guard q'.fr = true → q'.item.op.act = .new g' → ∀ i o i' o', q.made = some (i, o) → q'.made = some (i', o') → i ≠ i'
  shut : ∀ x ∈ L, On listed x.idx → ∀ e ∈ x.oper.after.toList, bindsF e = true → On listed e.on
  tsize : a.tmps.size = n
  marks : MarkRel σ f.marks a.defers
  now : ∀ t, (∀ x ∈ done, x.op.dst = some t → On listed x.idx) → VRel σ (f.get t) (a.tmps.getD t undef)
  old : ∀ t x, x ∈ done → x.op.dst = some t → ¬ On listed x.idx → VRel σ (f0.get t) (a.tmps.getD t undef)
  same : ∀ t, (∀ x ∈ done, x.op.dst ≠ some t) → f.get t = f0.get t
  world : WRel N σ s w
  ext : Ext N σ0 σ s0 s w0 w

section
variable {P : Program} {T : Tab} {all : Array Oper} {n N : Nat} {L : List PItem}

theorem distinct (hL : PlanOk T n all L) {x y : PItem} (hx : x ∈ L) (hy : y ∈ L) : x.idx = y.idx → x = y := by
  intro e
  obtain ⟨L1, L2, rfl⟩ := List.append_of_mem hx
  rcases List.mem_append.1 hy with h | h
  · obtain ⟨A, B, rfl⟩ := List.append_of_mem h
    have := hL.pair (L1 := A) (x := y) (L2 := B ++ x :: L2) (y := x) (by simp) (by simp)
    exact absurd e.symm this.idx
  · rcases List.mem_cons.1 h with rfl | h
    · rfl
    · exact absurd e (hL.pair rfl h).idx
theorem dst_one (hL : PlanOk T n all L) {x y : PItem} (hx : x ∈ L) (hy : y ∈ L) {t : Tmp} (h1 : x.op.dst = some t) (h2 : y.op.dst = some t) : x = y := by
  obtain ⟨L1, L2, rfl⟩ := List.append_of_mem hx
  rcases List.mem_append.1 hy with h | h
  · obtain ⟨A, B, rfl⟩ := List.append_of_mem h
    have := hL.pair (L1 := A) (x := y) (L2 := B ++ x :: L2) (y := x) (by simp) (by simp)
    exact absurd h1 (this.dst t h2)
  · rcases List.mem_cons.1 h with rfl | h
    · rfl
    · exact absurd h2 ((hL.pair rfl h).dst t h1)

/-- All that lies ahead of a listed operation is listed; and of one that may come next. -/
theorem mask_on (hL : PlanOk T n all L) {listed : Array Bool} (shut : ∀ x ∈ L, On listed x.idx → ∀ e ∈ x.oper.after.toList, bindsF e = true → On listed e.on) :
    ∀ (k : Nat) (L1 : List PItem) (x : PItem) (L2 : List PItem), L1.length ≤ k → L = L1 ++ x :: L2 → (∀ e ∈ x.oper.after.toList, bindsF e = true → On listed e.on) → ∀ j, x.mask.testBit j = true → On listed j := by
  intro k
  induction k with
  | zero =>
    intro L1 x L2 hl e hd j hj
    have : L1 = [] := List.eq_nil_of_length_eq_zero (by omega)
    subst this
    obtain ⟨ed, h1, h2, h3⟩ := hL.mask [] x L2 e j hj
    rcases h3 with rfl | ⟨y, hy, _⟩
    · exact hd ed h1 h2
    · simp at hy
  | succ k ih =>
    intro L1 x L2 hl e hd j hj
    obtain ⟨ed, h1, h2, h3⟩ := hL.mask L1 x L2 e j hj
    rcases h3 with rfl | ⟨y, hy, hyi, hym⟩
    · exact hd ed h1 h2
    · have hy' : y ∈ L1 := by simpa using hy
      obtain ⟨A, B, rfl⟩ := List.append_of_mem hy'
      have hyl : On listed y.idx := by rw [hyi]; exact hd ed h1 h2
      exact ih A y (B ++ x :: L2) (by simp at hl; omega) (by rw [e]; simp) (shut y (by rw [e]; simp) hyl) j hym

theorem first_off {listed : Array Bool} : ∀ {L : List PItem}, (∃ x ∈ L, ¬ On listed x.idx) → ∃ L1 x L2, L = L1 ++ x :: L2 ∧ ¬ On listed x.idx ∧ ∀ y ∈ L1, On listed y.idx
  | [], h => by obtain ⟨x, hx, _⟩ := h; simp at hx
  | z :: L, h => by
    by_cases hz : On listed z.idx
    · obtain ⟨x, hx, hn⟩ := h
      have : ∃ x ∈ L, ¬ On listed x.idx := by
        rcases List.mem_cons.1 hx with rfl | hx
        · exact absurd hz hn
        · exact ⟨x, hx, hn⟩
      obtain ⟨L1, x, L2, e, h1, h2⟩ := first_off this
      exact ⟨z :: L1, x, L2, by rw [e]; rfl, h1, fun y hy => by
        rcases List.mem_cons.1 hy with rfl | hy
        · exact hz
        · exact h2 y hy⟩
    · exact ⟨[], z, L, rfl, hz, fun y hy => by simp at hy⟩

/-- Where some operation is not listed, one may come next. -/
theorem some_ready (hL : PlanOk T n all L) {listed : Array Bool} (hs : listed.size = all.size) {i : Nat} (hi : i < all.size) (h : ¬ On listed i) : Region.ready .any all listed ≠ [] := by
  obtain ⟨x0, hx0, rfl⟩ := hL.cover i hi
  obtain ⟨L1, x, L2, e, h1, h2⟩ := first_off ⟨x0, hx0, h⟩
  have hx : x ∈ L := by rw [e]; simp
  have hio := hL.item x hx
  have hlt : x.idx < all.size := (Array.getElem?_eq_some_iff.1 hio.at_).1
  have : x.idx ∈ Region.ready .any all listed := by
    rw [mem_ready]
    refine ⟨?_, x.oper, hio.at_, fun ed hed hb => ?_⟩
    · have hf : listed.getD x.idx false = false := by simpa [On] using h1
      have hlt' : x.idx < listed.size := by rw [hs]; exact hlt
      simpa [Array.getD_eq_getD_getElem?, hlt'] using hf
    · rw [bindsF_eq] at hb
      have hed' : ed ∈ x.oper.after.toList := by simpa using hed
      obtain ⟨g1, g2⟩ := hL.edges x hx ed hed' hb
      obtain ⟨y, hy, hyi⟩ := hL.cover ed.on g1
      have hyL1 : y ∈ L1 := by
        rw [e] at hy
        rcases List.mem_append.1 hy with hy | hy
        · exact hy
        · rcases List.mem_cons.1 hy with rfl | hy
          · exact absurd hyi.symm g2
          · exact absurd hyi.symm ((hL.pair e hy).edge ed hed' hb)
      have := h2 y hyL1
      rw [hyi] at this
      exact this
  intro hnil
  rw [hnil] at this
  simp at this

theorem planRun_cons (self : Self) (x : PItem) (r : List PItem) (pend : List PRec) (f : Fr) (s : St) : planRun self (x :: r) pend f s = bt (heavyA x.op.act)
      (gd (pend.all (recOk s)) (ob (itemF self x f s) fun p => planRun self r (pend.filter fun q => !x.mask.testBit q.item.idx) (f.put x.op.dst p.1) p.2))
      (ob (itemF self x f s) fun p => planRun self r (⟨x, f, p.1, madeF x f s⟩ :: pend) (f.put x.op.dst p.1) p.2) := rfl

theorem Fr.put_marks (f : Fr) (d : Option Tmp) (v : Value) : (f.put d v).marks = f.marks := by cases d <;> rfl
theorem Fr.put_ne {f : Fr} {n : Nat} (hn : n < top) {d : Option Tmp} (hd : dstOk n d = true) {v : Value} {t : Tmp} (h : d ≠ some t) : (f.put d v).get t = f.get t := by
  cases d with
  | none => rfl
  | some d => rw [Fr.get_put (Nat.lt_trans (dstOk_some hd) hn), if_neg (fun e => h (by rw [e]))]
theorem Fr.put_same {f : Fr} {n : Nat} (hn : n < top) {t : Tmp} (hd : dstOk n (some t) = true) {v : Value} : (f.put (some t) v).get t = v := by
  rw [Fr.get_put (Nat.lt_trans (dstOk_some hd) hn), if_pos rfl]

/-- A light operation is calculated ahead; the true run stays where it is. -/
theorem Inv.ahead (hL : PlanOk T n all L) (hn : n < top) {self : Self} {done r : List PItem} {x : PItem} {pend : List PRec} {f0 f : Fr} {s0 s s1 : St} {σ0 σ : Ren} {w0 : World} {listed : Array Bool} {a : Act} {w : World} {v : Value}
    (h : Inv T P all n N L done (x :: r) pend f0 f s0 s σ0 σ w0 listed a w) (hx : heavyA x.op.act = false) (hv : itemF self x f s = some (v, s1)) :
    Inv T P all n N L (done ++ [x]) r (⟨x, f, v, madeF x f s⟩ :: pend) f0 (f.put x.op.dst v) s0 s1 σ0 σ w0 listed a w := by
  have hxL : x ∈ L := by rw [h.split]; simp
  have hio := hL.item x hxL
  have hdst : dstOk n x.op.dst = true := by rw [hio.dstEq]; exact hio.dst
  have hoff : ¬ On listed x.idx := h.later x (by simp)
  have hmem : ∀ y ∈ done, y ∈ L := fun y hy => by rw [h.split]; simp [hy]
  have hpair : ∀ y ∈ done, PairOk y x := fun y hy => by
    obtain ⟨A, B, rfl⟩ := List.append_of_mem hy
    exact hL.pair (L1 := A) (x := y) (L2 := B ++ x :: r) (y := x) (by rw [h.split]; simp) (by simp)
  have hne : ∀ y ∈ done, ∀ t, y.op.dst = some t → x.op.dst ≠ some t := fun y hy t e => (hpair y hy).dst t e
  -- the state: as it was, or with a block more
  have hst : (s1 = s ∧ ∀ g, wantedF x.op.guard f = true → x.op.act = .new g → False) ∨ ∃ g p, wantedF x.op.guard f = true ∧ x.op.act = .new g ∧ g f.eval = some p ∧ s.push p.1 = some s1 ∧ v = p.2 s.next := by
    unfold itemF at hv
    cases hw : wantedF x.op.guard f with
    | false => rw [hw] at hv; cases hv; exact .inl ⟨rfl, fun g e _ => by cases e⟩
    | true =>
      rw [hw] at hv
      cases ha : x.op.act with
      | pure g =>
        rw [ha] at hv
        obtain ⟨v1, _, h2⟩ := ob_eq (show ob (g f.eval s.heap) (fun v => some (v, s)) = some (v, s1) from hv)
        cases h2
        exact .inl ⟨rfl, fun g' _ e => by cases e⟩
      | new g =>
        rw [ha] at hv
        obtain ⟨p, h1, h2⟩ := ob_eq (show ob (g f.eval) (fun p => exNew s p.1 p.2) = some (v, s1) from hv)
        obtain ⟨s2, h3, h4⟩ := ob_eq h2
        cases h4
        exact .inr ⟨g, p, rfl, rfl, h1, h3, rfl⟩
      | act g => rw [ha] at hx; cases hx
  have hnext : s.next ≤ s1.next := by
    rcases hst with ⟨rfl, _⟩ | ⟨g, p, _, _, _, hp, _⟩
    · exact Nat.le_refl _
    · obtain ⟨_, rfl⟩ := push_eq hp; simp
  have hworld : WRel N σ s1 w := by
    rcases hst with ⟨rfl, _⟩ | ⟨g, p, _, _, _, hp, _⟩
    · exact h.world
    · exact h.world.junk hp
  refine ⟨by rw [h.split]; simp, h.size, fun y hy => h.later y (by simp [hy]), fun y hy hyo => ?_, fun q hq => ?_, fun q hq q' hq' hne' g g' hw1 ha1 hw2 ha2 i o i' o' e e' => ?_, h.shut, h.tsize, ?_, fun t ht => ?_, fun t y hy hyt hyo => ?_, fun t ht => ?_, hworld, ?_⟩
  · rcases List.mem_append.1 hy with hy | hy
    · obtain ⟨q, h1, h2⟩ := h.wait y hy hyo
      exact ⟨q, by simp [h1], h2⟩
    · have : y = x := by simpa using hy
      exact ⟨_, by simp; left; rfl, by rw [this]⟩
  · rcases List.mem_cons.1 hq with rfl | hq
    · refine ⟨by simp, hx, fun d1 d2 e t hu => ?_, fun t ht => ?_, fun hw => ?_, fun g hw hg => ?_⟩
      · have hd : d1 = done := by
          have hnx : x ∉ done := fun hxd => absurd rfl (hpair x hxd).idx
          have e' : done ++ [x] = d1 ++ x :: d2 := e
          have hd2 : d2 = [] := by
            cases hd2 : d2 with
            | nil => rfl
            | cons z zs =>
              exfalso
              rw [hd2] at e'
              have : x ∈ done := by
                have hlast := congrArg List.dropLast e'
                rw [List.dropLast_concat, List.dropLast_append_of_ne_nil (by simp)] at hlast
                rw [hlast]; simp
              exact hnx this
          rw [hd2] at e'
          exact (List.append_inj_left' e' rfl).symm
        subst hd
        refine ⟨fun ⟨y, hy, hyt⟩ => (Fr.put_ne hn hdst (hne y hy t hyt)).symm, fun hnone => h.same t hnone⟩
      · have hh : x.op.dst = some t := ht
        rw [hh] at hdst ⊢
        exact Fr.put_same hn hdst
      · have hw' : wantedF x.op.guard f = false := hw
        unfold itemF at hv
        rw [hw'] at hv
        cases hv
        rfl
      · have hw' : wantedF x.op.guard f = true := hw
        have hg' : x.op.act = .new g := hg
        rcases hst with ⟨_, hno⟩ | ⟨g', p, _, hg2, hp1, hp2, hp3⟩
        · exact (hno g hw' hg').elim
        · rw [hg'] at hg2
          cases hg2
          obtain ⟨_, rfl⟩ := push_eq hp2
          refine ⟨s.next, p, ?_, hp1, hp3, h.ext.next, by simp, fun _ => h.world.fresh (Nat.le_refl _)⟩
          show madeF x f s = _
          unfold madeF
          rw [hg']
          show ob (g f.eval) (fun p => some (s.next, p.1)) = _
          rw [hp1]; rfl
    · have hr := h.recs q hq
      have hqx : x ≠ q.item := fun e => absurd rfl (e ▸ (hpair q.item hr.mem)).idx
      refine ⟨by simp [hr.mem], hr.light, fun d1 d2 e t hu => ?_, fun t ht => ?_, hr.idle, fun g hw hg => ?_⟩
      · have : ∃ d2', done = d1 ++ q.item :: d2' := by
          have hd2 : d2 ≠ [] := by
            intro hd2
            rw [hd2] at e
            have := List.append_inj_right' e rfl
            simp only [List.cons.injEq, and_true] at this
            exact hqx this
          refine ⟨d2.dropLast, ?_⟩
          have hlast := congrArg List.dropLast e
          rw [List.dropLast_concat, List.dropLast_append_of_ne_nil (by simp)] at hlast
          rw [hlast]
          cases d2 with
          | nil => exact absurd rfl hd2
          | cons z zs => rfl
        obtain ⟨d2', hd⟩ := this
        obtain ⟨r1, r2⟩ := hr.early d1 d2' hd t hu
        refine ⟨fun hy => ?_, r2⟩
        rw [r1 hy]
        obtain ⟨y, hy1, hy2⟩ := hy
        exact (Fr.put_ne hn hdst (hne y (by rw [hd]; simp [hy1]) t hy2)).symm
      · rw [Fr.put_ne hn hdst (hne q.item hr.mem t ht)]; exact hr.val t ht
      · obtain ⟨id, p, k1, k2, k3, k4, k5, k6⟩ := hr.made g hw hg
        exact ⟨id, p, k1, k2, k3, k4, Nat.lt_of_lt_of_le k5 hnext, k6⟩
  · have fresh : ∀ g, wantedF x.op.guard f = true → x.op.act = .new g → ∀ i o, madeF x f s = some (i, o) → i = s.next := by
      intro g hw ha i o hm
      unfold madeF at hm
      rw [ha] at hm
      obtain ⟨p, _, hp⟩ := ob_eq (show ob (g f.eval) (fun p => some (s.next, p.1)) = some (i, o) from hm)
      simp only [Option.some.injEq, Prod.mk.injEq] at hp
      exact hp.1.symm
    have older : ∀ q ∈ pend, ∀ g, wantedF q.item.op.guard q.fr = true → q.item.op.act = .new g → ∀ i o, q.made = some (i, o) → i < s.next := by
      intro q hq g hw ha i o hm
      obtain ⟨id, p, k1, _, _, _, k5, _⟩ := (h.recs q hq).made g hw ha
      rw [hm] at k1
      cases k1
      exact k5
    rcases List.mem_cons.1 hq with rfl | hq
    · rcases List.mem_cons.1 hq' with rfl | hq'
      · exact absurd rfl hne'
      · have := fresh g hw1 ha1 i o e
        have := older q' hq' g' hw2 ha2 i' o' e'
        omega
    · rcases List.mem_cons.1 hq' with rfl | hq'
      · have := fresh g' hw2 ha2 i' o' e'
        have := older q hq g hw1 ha1 i o e
        omega
      · exact h.ids q hq q' hq' hne' g g' hw1 ha1 hw2 ha2 i o i' o' e e'
  · rw [Fr.put_marks]; exact h.marks
  · have hxt : x.op.dst ≠ some t := fun e => hoff (ht x (by simp) e)
    rw [Fr.put_ne hn hdst hxt]
    exact h.now t fun y hy e => ht y (by simp [hy]) e
  · rcases List.mem_append.1 hy with hy | hy
    · exact h.old t y hy hyt hyo
    · have : y = x := by simpa using hy
      subst this
      have h1 : ∀ z ∈ done, z.op.dst ≠ some t := fun z hz e => hne z hz t e hyt
      rw [← h.same t h1]
      exact h.now t fun z hz e => absurd e (h1 z hz)
  · rw [Fr.put_ne hn hdst (ht x (by simp))]
    exact h.same t fun y hy => ht y (by simp [hy])
  · exact ⟨h.ext.le, h.ext.same, Nat.le_trans h.ext.next hnext, h.ext.below⟩

theorem eval_rel {σ : Ren} {f : Fr} {a : Act} {x : Operand} (hx : constOk x = true) (ht : ∀ t, x = .tmp t → VRel σ (f.get t) (a.tmps.getD t undef)) : VRel σ (f.eval x) (a.eval x) := by
  cases x with
  | tmp t => exact ht t rfl
  | const v => exact closedV_rel hx
  | global g => simp [constOk] at hx
  | func g => exact .func _ (fun l e => by cases e) .nil .nil

/-- What a temporary that an operation of 'done' looks at holds, when it may come next. -/
theorem Inv.sees (hL : PlanOk T n all L) {done r : List PItem} {pend : List PRec} {f0 f : Fr} {s0 s : St} {σ0 σ : Ren} {w0 : World} {listed : Array Bool} {a : Act} {w : World}
    (h : Inv T P all n N L done r pend f0 f s0 s σ0 σ w0 listed a w) {q : PRec} (hq : q ∈ pend) (hoff : ¬ On listed q.item.idx) (hpre : ∀ e ∈ q.item.oper.after.toList, bindsF e = true → On listed e.on) {t : Tmp} (hu : Uses q.item t) :
    VRel σ (q.fr.get t) (a.tmps.getD t undef) := by
  have hr := h.recs q hq
  obtain ⟨d1, d2, hd⟩ := List.append_of_mem hr.mem
  have hsplit : L = d1 ++ q.item :: (d2 ++ r) := by rw [h.split, hd]; simp
  obtain ⟨e1, e2⟩ := hr.early d1 d2 hd t hu
  have hmask := mask_on hL h.shut d1.length d1 q.item (d2 ++ r) (Nat.le_refl _) hsplit hpre
  by_cases hex : ∃ y ∈ d1, y.op.dst = some t
  · rw [e1 hex]
    obtain ⟨y, hy, hyt⟩ := hex
    obtain ⟨A, B, hAB⟩ := List.append_of_mem hy
    have hpair := hL.pair (L1 := A) (x := y) (L2 := B ++ q.item :: (d2 ++ r)) (y := q.item) (by rw [hsplit, hAB]; simp) (by simp)
    have hyon : On listed y.idx := hmask _ (hpair.mask (.inl (looks_of hyt hu)))
    refine h.now t fun z hz hzt => ?_
    have : z = y := dst_one hL (by rw [h.split]; simp [hz]) (by rw [hsplit]; simp [hy]) hzt hyt
    rw [this]; exact hyon
  · have hno : ∀ y ∈ d1, y.op.dst ≠ some t := fun y hy e => hex ⟨y, hy, e⟩
    rw [e2 hno]
    by_cases hex2 : ∃ y ∈ done, y.op.dst = some t
    · obtain ⟨y, hy, hyt⟩ := hex2
      refine h.old t y hy hyt ?_
      rw [hd] at hy
      rcases List.mem_append.1 hy with hy | hy
      · exact absurd hyt (hno y hy)
      · rcases List.mem_cons.1 hy with rfl | hy
        · exact hoff
        · intro hyon
          have hpair := hL.pair (L1 := d1) (x := q.item) (L2 := d2 ++ r) (y := y) hsplit (by simp [hy])
          have hb := hpair.mask (.inr (.inl (looks_of hyt hu)))
          obtain ⟨A, B, hAB⟩ := List.append_of_mem hy
          have hyL : y ∈ L := by rw [hsplit]; simp [hy]
          have := mask_on hL h.shut (d1 ++ q.item :: A).length (d1 ++ q.item :: A) y (B ++ r) (Nat.le_refl _) (by rw [hsplit, hAB]; simp) (h.shut y hyL hyon) _ hb
          exact hoff this
    · have hno2 : ∀ y ∈ done, y.op.dst ≠ some t := fun y hy e => hex2 ⟨y, hy, e⟩
      rw [← h.same t hno2]
      exact h.now t fun y hy e => absurd e (hno2 y hy)

theorem Ext.every {N : Nat} {σ τ : Ren} {s : St} {w w' : World} (hx : Ext N σ τ s s w w') (hw : WRel N σ s w) (hw' : WRel N τ s w') (i : Nat) : τ i = σ i := by
  by_cases h : i < s.next
  · exact hx.same i h
  · rw [hw.fresh (by omega), hw'.fresh (by omega)]
theorem put_getD {a : Act} {d t : Tmp} {v : Value} (h : d < a.tmps.size) : (a.put (some d) v).tmps.getD t undef = if t = d then v else a.tmps.getD t undef := by
  simp only [Act.put]; exact getD_put h
theorem put_ne {a : Act} {d : Option Tmp} {t : Tmp} {v : Value} (h : d ≠ some t) : (a.put d v).tmps.getD t undef = a.tmps.getD t undef := by
  cases d with
  | none => rfl
  | some d =>
    simp only [Act.put, Array.getD_eq_getD_getElem?]
    rw [Array.getElem?_setIfInBounds_ne (fun e => h (by rw [e]))]
theorem put_size {a : Act} {d : Option Tmp} {v : Value} : (a.put d v).tmps.size = a.tmps.size := by cases d <;> simp [Act.put]
theorem put_defers {a : Act} {d : Option Tmp} {v : Value} : (a.put d v).defers = a.defers := by cases d <;> rfl

/-- An operation that was calculated ahead is carried out now: what is left. -/
theorem Inv.listed (hL : PlanOk T n all L) {done r : List PItem} {pend : List PRec} {f0 f : Fr} {s0 s : St} {σ0 σ τ : Ren} {w0 : World} {listed : Array Bool} {a : Act} {w w' : World}
    (h : Inv T P all n N L done r pend f0 f s0 s σ0 σ w0 listed a w) {q : PRec} (hq : q ∈ pend) (hpre : ∀ e ∈ q.item.oper.after.toList, bindsF e = true → On listed e.on) {v' : Value}
    (hle : σ.le τ) (hsame : ∀ i, (∀ g p, wantedF q.item.op.guard q.fr = true → q.item.op.act = .new g → q.made = some (i, p) → False) → τ i = σ i) (hw' : WRel N τ s w') (hbel : Below N w w') (hv : VRel τ q.val v')
    (hbig : ∀ i, i < s0.next → τ i = σ i) :
    Inv T P all n N L done r pend f0 f s0 s σ0 τ w0 (listed.setIfInBounds q.item.idx true) (a.put q.item.op.dst v') w' := by
  have hr := h.recs q hq
  have hqL : q.item ∈ L := by rw [h.split]; simp [hr.mem]
  have hio := hL.item _ hqL
  have hdst : dstOk n q.item.op.dst = true := by rw [hio.dstEq]; exact hio.dst
  have hlt : q.item.idx < listed.size := by rw [h.size]; exact (Array.getElem?_eq_some_iff.1 hio.at_).1
  have hmem : ∀ y ∈ done, y ∈ L := fun y hy => by rw [h.split]; simp [hy]
  refine ⟨h.split, by simpa using h.size, fun y hy hon => ?_, fun y hy hyo => ?_, fun q' hq' => ?_, h.ids, fun y hy hon e he hb => ?_, by rw [put_size]; exact h.tsize, by rw [put_defers]; exact h.marks.mono hle,
    fun t ht => ?_, fun t y hy hyt hyo => ?_, h.same, hw', ?_⟩
  · refine h.later y hy (hon.of_set fun e => ?_)
    have : y = q.item := distinct hL (by rw [h.split]; simp [hy]) hqL e
    subst this
    obtain ⟨A, B, hAB⟩ := List.append_of_mem hr.mem
    exact absurd rfl (hL.pair (L1 := A) (x := q.item) (L2 := B ++ r) (y := q.item) (by rw [h.split, hAB]; simp) (by simp [hy])).idx
  · exact h.wait y hy fun hon => hyo hon.set
  · have hr' := h.recs q' hq'
    refine ⟨hr'.mem, hr'.light, hr'.early, hr'.val, hr'.idle, fun g hw hg => ?_⟩
    obtain ⟨id, p, k1, k2, k3, k4, k5, k6⟩ := hr'.made g hw hg
    refine ⟨id, p, k1, k2, k3, k4, k5, fun hno => ?_⟩
    have hne : q'.item.idx ≠ q.item.idx := fun e => hno (by rw [e]; exact On.set_same hlt)
    have hno' : ¬ On listed q'.item.idx := fun hon => hno hon.set
    rw [hsame id (fun g' p' hw2 hg2 hm2 => h.ids q hq q' hq' (Ne.symm hne) g' g hw2 hg2 hw hg _ _ _ _ hm2 k1 rfl)]
    exact k6 hno'
  · by_cases e' : y.idx = q.item.idx
    · have : y = q.item := distinct hL hy hqL e'
      subst this
      exact (hpre e he hb).set
    · exact (h.shut y hy (hon.of_set e') e he hb).set
  · by_cases e : q.item.op.dst = some t
    · have hdl := hdst
      rw [e] at hdl
      rw [e, put_getD (by rw [h.tsize]; exact dstOk_some hdl), if_pos rfl, hr.val t e]
      exact hv
    · rw [put_ne e]
      exact (h.now t fun y hy hyt => (ht y hy hyt).of_set fun e' => e (by rw [← distinct hL (hmem y hy) hqL e']; exact hyt)).mono hle
  · have hne : y.idx ≠ q.item.idx := fun e => hyo (by rw [e]; exact On.set_same hlt)
    have e : q.item.op.dst ≠ some t := fun e => hne (by rw [dst_one hL (hmem y hy) hqL hyt e])
    rw [put_ne e]
    exact (h.old t y hy hyt fun hon => hyo hon.set).mono hle
  · exact ⟨Ren.le_trans h.ext.le hle, fun i hi => (hbig i hi).trans (h.ext.same i hi), h.ext.next, h.ext.below.trans hbel⟩

theorem pend_step (hT : TabOk P T) (hP : T.prog = P) (hL : PlanOk T n all L) {F : Fence} {rd : Bool} (hF : FOk F rd) {m : Nat} {Q : Exit → Act → World → Prop} {self : Self} (hself : SelfOk P self)
    {done r : List PItem} {pend : List PRec} {f0 f : Fr} {s0 s : St} {σ0 σ : Ren} {w0 : World} {listed : Array Bool} {a : Act} {w : World}
    (h : Inv T P all n N L done r pend f0 f s0 s σ0 σ w0 listed a w) {q : PRec} (hq : q ∈ pend) (hok : recOk s q = true) (hoff : ¬ On listed q.item.idx) (hpre : ∀ e ∈ q.item.oper.after.toList, bindsF e = true → On listed e.on) {K : Act → World → Prop}
    (hK : ∀ τ a' w', Inv T P all n N L done r pend f0 f s0 s σ0 τ w0 (listed.setIfInBounds q.item.idx true) a' w' → K a' w') : wpOpIn F m P all Q q.item.idx K a w := by
  have hr := h.recs q hq
  have hqL : q.item ∈ L := by rw [h.split]; simp [hr.mem]
  have hio := hL.item _ hqL
  have hops : ∀ x ∈ q.item.oper.op.operands.toList, VRel σ (q.fr.eval x) (a.eval x) := fun x hx => eval_rel (List.all_eq_true.1 hio.consts x hx) fun t e => h.sees hL hq hoff hpre (.inl (by rw [← e]; exact hx))
  have hgr : ∀ u b, q.item.op.guard = some (u, b) → VRel σ (q.fr.get u) (a.tmps.getD u undef) := fun u b e => h.sees hL hq hoff hpre (.inr ⟨b, e⟩)
  unfold recOk at hok
  cases hwf : wantedF q.item.op.guard q.fr with
  | false =>
    have hidle := hr.idle hwf
    refine item_ok hT hP hself hio.at_ hio.guard hio.comp hF (v := undef) (s' := s) h.world hops hgr (by rw [hwf]; rfl) ?_
    intro τ w' v' hx hw' hv
    rw [← hio.dstEq]
    exact hK τ _ w' (h.listed hL hq hpre hx.le (fun i _ => hx.every h.world hw' i) hw' hx.below (by rw [hidle]; exact hv) (fun i hi => hx.same i (Nat.lt_of_lt_of_le hi h.ext.next)))
  | true =>
    rw [hwf] at hok
    simp only [bt_true] at hok
    cases ha : q.item.op.act with
    | act g => have := hr.light; rw [ha] at this; cases this
    | pure g =>
      rw [ha] at hok
      have hok' : Option.rec (motive := fun _ => Bool) false (fun v => veq 5 v q.val) (g q.fr.eval s.heap) = true := hok
      cases hgv : g q.fr.eval s.heap with
      | none => rw [hgv] at hok'; cases hok'
      | some v =>
        rw [hgv] at hok'
        have hvv : v = q.val := veq_eq 5 _ _ hok'
        refine item_ok hT hP hself hio.at_ hio.guard hio.comp hF (v := q.val) (s' := s) h.world hops hgr (by rw [hwf, ha]; show ob (g q.fr.eval s.heap) (fun v => some (v, s)) = _; rw [hgv, hvv]; rfl) ?_
        intro τ w' v' hx hw' hv
        rw [← hio.dstEq]
        exact hK τ _ w' (h.listed hL hq hpre hx.le (fun i _ => hx.every h.world hw' i) hw' hx.below hv (fun i hi => hx.same i (Nat.lt_of_lt_of_le hi h.ext.next)))
    | new g =>
      rw [ha] at hok
      obtain ⟨id, p, k1, k2, k3, k4, k5, k6⟩ := hr.made g hwf ha
      have hok' : Option.rec (motive := fun _ => Bool) false (fun p => Option.rec (motive := fun _ => Bool) false (fun o => oeq o p.2) (s.heap.get p.1)) q.made = true := hok
      rw [k1] at hok'
      have hok2 : Option.rec (motive := fun _ => Bool) false (fun o => oeq o p.1) (s.heap.get id) = true := hok'
      cases hget : s.heap.get id with
      | none => rw [hget] at hok2; cases hok2
      | some o =>
        rw [hget] at hok2
        have hnr : isRom o = false := oeq_nr hok2
        have hoo : o = p.1 := oeq_eq hok2
        subst hoo
        have hcmp := hio.comp
        rw [ha] at hcmp
        have hnew : NewOk P q.item.oper g := comp_ok hT hP self hcmp
        obtain ⟨O, v', e1, _, e2⟩ := hnew (w := w) hops k2
        have hnone := k6 hoff
        obtain ⟨e3, e4⟩ := e2 (σ.add id w.heap.size 0 none) id (Ren.le_add hnone) Ren.add_same
        have hw2 : WRel N (σ.add id w.heap.size 0 none) s (w.alloc O) := (h.world.more O).name hnone k5 hget hnr h.world.base (World.alloc_heap_new w O) e3 (fun j sh' x' o' hj _ => by
          have := (h.world.lt hj).2; omega)
        unfold wpOpIn
        simp only [hio.at_]
        rw [wanted_ok hio.guard hgr, hwf]
        simp only [if_true]
        refine ⟨fun fn _ => hF.fn fn, ?_⟩
        rw [semAt_ok hcmp, e1, Oper.uponIn_value, ← hio.dstEq]
        refine hK _ _ _ (h.listed hL hq hpre (Ren.le_add hnone) (fun i hi => ?_) hw2 ((Below.refl _ _).alloc h.world.base _) (by rw [k3]; exact e4) (fun i hi => Ren.add_ne (by omega)))
        by_cases ei : i = id
        · subst ei; exact (hi g p.1 hwf ha k1).elim
        · exact Ren.add_ne ei

theorem heavy_step (hT : TabOk P T) (hP : T.prog = P) (hL : PlanOk T n all L) (hn : n < top) {F : Fence} {rd : Bool} (hF : FOk F rd) {m : Nat} {Q : Exit → Act → World → Prop} {self : Self} (hself : SelfOk P self)
    {done r : List PItem} {x : PItem} {pend : List PRec} {f0 f : Fr} {s0 s s1 : St} {σ0 σ : Ren} {w0 : World} {listed : Array Bool} {a : Act} {w : World} {v : Value}
    (h : Inv T P all n N L done (x :: r) pend f0 f s0 s σ0 σ w0 listed a w) (hpre : ∀ e ∈ x.oper.after.toList, bindsF e = true → On listed e.on) (hv : itemF self x f s = some (v, s1)) {K : Act → World → Prop}
    (hK : ∀ τ a' w', Inv T P all n N L (done ++ [x]) r (pend.filter fun q => !x.mask.testBit q.item.idx) f0 (f.put x.op.dst v) s0 s1 σ0 τ w0 (listed.setIfInBounds x.idx true) a' w' → K a' w') : wpOpIn F m P all Q x.idx K a w := by
  have hxL : x ∈ L := by rw [h.split]; simp
  have hio := hL.item x hxL
  have hdst : dstOk n x.op.dst = true := by rw [hio.dstEq]; exact hio.dst
  have hmem : ∀ y ∈ done, y ∈ L := fun y hy => by rw [h.split]; simp [hy]
  have hlt : x.idx < listed.size := by rw [h.size]; exact (Array.getElem?_eq_some_iff.1 hio.at_).1
  have hpair : ∀ y ∈ done, PairOk y x := fun y hy => by
    obtain ⟨A, B, rfl⟩ := List.append_of_mem hy
    exact hL.pair (L1 := A) (x := y) (L2 := B ++ x :: r) (y := x) (by rw [h.split]; simp) (by simp)
  have hne : ∀ y ∈ done, ∀ t, y.op.dst = some t → x.op.dst ≠ some t := fun y hy t e => (hpair y hy).dst t e
  have hmask := mask_on hL h.shut done.length done x r (Nat.le_refl _) h.split hpre
  have sees : ∀ t, Uses x t → VRel σ (f.get t) (a.tmps.getD t undef) := fun t hu => h.now t fun y hy hyt => hmask _ ((hpair y hy).mask (.inl (looks_of hyt hu)))
  have hops : ∀ o ∈ x.oper.op.operands.toList, VRel σ (f.eval o) (a.eval o) := fun o ho => eval_rel (List.all_eq_true.1 hio.consts o ho) fun t e => sees t (.inl (by rw [← e]; exact ho))
  have hgr : ∀ u b, x.op.guard = some (u, b) → VRel σ (f.get u) (a.tmps.getD u undef) := fun u b e => sees u (.inr ⟨b, e⟩)
  refine item_ok hT hP hself hio.at_ hio.guard hio.comp hF h.world hops hgr hv ?_
  intro τ w' v' hx hw' hvr
  rw [← hio.dstEq]
  refine hK τ _ w' ⟨by rw [h.split]; simp, by simpa using h.size, fun y hy hon => ?_, fun y hy hyo => ?_, fun q hq => ?_, fun q hq q' hq' => h.ids q (List.mem_filter.1 hq).1 q' (List.mem_filter.1 hq').1, fun y hy hon e he hb => ?_,
    by rw [put_size]; exact h.tsize, by rw [put_defers, Fr.put_marks]; exact h.marks.mono hx.le, fun t ht => ?_, fun t y hy hyt hyo => ?_, fun t ht => ?_, hw', h.ext.trans hx⟩
  · refine h.later y (by simp [hy]) (hon.of_set fun e => ?_)
    exact absurd e.symm (hL.pair (L1 := done) (x := x) (L2 := r) (y := y) h.split hy).idx
  · rcases List.mem_append.1 hy with hy | hy
    · have hyo' : ¬ On listed y.idx := fun hon => hyo hon.set
      obtain ⟨q, h1, h2⟩ := h.wait y hy hyo'
      refine ⟨q, List.mem_filter.2 ⟨h1, ?_⟩, h2⟩
      cases hb : x.mask.testBit q.item.idx with
      | false => rfl
      | true => rw [h2] at hb; exact absurd (hmask _ hb) hyo'
    · have : y = x := by simpa using hy
      subst this
      exact absurd (On.set_same hlt) hyo
  · have hr := h.recs q (List.mem_filter.1 hq).1
    have hqx : x ≠ q.item := fun e => absurd rfl (e ▸ (hpair q.item hr.mem)).idx
    refine ⟨by simp [hr.mem], hr.light, fun d1 d2 e t hu => ?_, fun t ht => ?_, hr.idle, fun g hw hg => ?_⟩
    · have : ∃ d2', done = d1 ++ q.item :: d2' := by
        have hd2 : d2 ≠ [] := by
          intro hd2
          rw [hd2] at e
          have := List.append_inj_right' e rfl
          simp only [List.cons.injEq, and_true] at this
          exact hqx this
        refine ⟨d2.dropLast, ?_⟩
        have hlast := congrArg List.dropLast e
        rw [List.dropLast_concat, List.dropLast_append_of_ne_nil (by simp)] at hlast
        rw [hlast]
        cases d2 with
        | nil => exact absurd rfl hd2
        | cons z zs => rfl
      obtain ⟨d2', hd⟩ := this
      obtain ⟨r1, r2⟩ := hr.early d1 d2' hd t hu
      refine ⟨fun hy => ?_, r2⟩
      rw [r1 hy]
      obtain ⟨y, hy1, hy2⟩ := hy
      exact (Fr.put_ne hn hdst (hne y (by rw [hd]; simp [hy1]) t hy2)).symm
    · rw [Fr.put_ne hn hdst (hne q.item hr.mem t ht)]; exact hr.val t ht
    · obtain ⟨id, p, k1, k2, k3, k4, k5, k6⟩ := hr.made g hw hg
      exact ⟨id, p, k1, k2, k3, k4, Nat.lt_of_lt_of_le k5 hx.next, fun hno => by rw [hx.same id k5]; exact k6 fun hon => hno hon.set⟩
  · by_cases e' : y.idx = x.idx
    · have : y = x := distinct hL hy hxL e'
      subst this
      exact (hpre e he hb).set
    · exact (h.shut y hy (hon.of_set e') e he hb).set
  · by_cases e : x.op.dst = some t
    · have hdl := hdst
      rw [e] at hdl ⊢
      rw [put_getD (by rw [h.tsize]; exact dstOk_some hdl), if_pos rfl, Fr.put_same hn hdl]
      exact hvr
    · rw [put_ne e, Fr.put_ne hn hdst e]
      refine (h.now t fun y hy hyt => (ht y (by simp [hy]) hyt).of_set fun e' => ?_).mono hx.le
      exact absurd e' (hpair y hy).idx
  · rcases List.mem_append.1 hy with hy | hy
    · rw [put_ne (hne y hy t hyt)]
      exact (h.old t y hy hyt fun hon => hyo hon.set).mono hx.le
    · have : y = x := by simpa using hy
      subst this
      exact absurd (On.set_same hlt) hyo
  · rw [Fr.put_ne hn hdst (ht x (by simp))]
    exact h.same t fun y hy => ht y (by simp [hy])

/-- Every order of a region that draws leads to what was calculated. -/
theorem any_ok (hT : TabOk P T) (hP : T.prog = P) {self : Self} (hself : SelfOk P self) (hL : PlanOk T n all L) (hn : n < top) {F : Fence} {rd : Bool} (hF : FOk F rd) {m : Nat} {Q : Exit → Act → World → Prop} {f0 fE : Fr} {s0 sE : St} {σ0 : Ren} {w0 : World}
    (hQ : ∀ τ a' w', Ext N σ0 τ s0 sE w0 w' → FRel τ n fE a' → WRel N τ sE w' → Q .normal a' w') :
    ∀ (fuel : Nat) (r done : List PItem) (pend : List PRec) (f : Fr) (s : St) (σ : Ren) (listed : Array Bool) (a : Act) (w : World), Inv T P all n N L done r pend f0 f s0 s σ0 σ w0 listed a w → un listed all.size ≤ fuel →
      planRun self r pend f s = some (fE, sE) → wpAnyIn F m P .any all Q fuel listed a w := by
  intro fuel
  induction fuel with
  | zero =>
    intro r
    induction r with
    | nil =>
      intro done pend f s σ listed a w h hu hr
      obtain ⟨_, hr2⟩ := gd_eq (show gd (pend.all (recOk s)) (some (f, s)) = some (fE, sE) from hr)
      cases hr2
      have hall := un_zero all.size (by omega : un listed all.size = 0)
      have hidx : ∀ x ∈ done, On listed x.idx := fun x hx => hall _ (Array.getElem?_eq_some_iff.1 (hL.item x (by rw [h.split]; simp [hx])).at_).1
      refine ⟨?_, hQ σ a w h.ext ⟨h.tsize, fun t => h.now t fun x hx _ => hidx x hx, h.marks⟩ h.world⟩
      cases hrd : Region.ready .any all listed with
      | nil => rfl
      | cons i is =>
        have : i ∈ Region.ready .any all listed := by rw [hrd]; simp
        obtain ⟨h1, o, h2, _⟩ := mem_ready.1 this
        have hlt : i < all.size := (Array.getElem?_eq_some_iff.1 h2).1
        have := hall i hlt
        unfold On at this
        have hlt' : i < listed.size := by rw [h.size]; exact hlt
        simp [Array.getD_eq_getD_getElem?, hlt'] at h1 this
        rw [h1] at this; cases this
    | cons x r ih =>
      intro done pend f s σ listed a w h hu hr
      have hall := un_zero all.size (by omega : un listed all.size = 0)
      exact absurd (hall _ (Array.getElem?_eq_some_iff.1 (hL.item x (by rw [h.split]; simp)).at_).1) (h.later x (by simp))
  | succ fuel IH =>
    -- at the end of a phase: whatever may come next
    have phase : ∀ (r done : List PItem) (pend : List PRec) (f : Fr) (s : St) (σ : Ren) (listed : Array Bool) (a : Act) (w : World), Inv T P all n N L done r pend f0 f s0 s σ0 σ w0 listed a w → un listed all.size ≤ fuel + 1 →
        planRun self r pend f s = some (fE, sE) → pend.all (recOk s) = true → (r = [] ∧ f = fE ∧ s = sE ∨ ∃ x r', r = x :: r' ∧ heavyA x.op.act = true) → wpAnyIn F m P .any all Q (fuel + 1) listed a w := by
      intro r done pend f s σ listed a w h hu hr hok hend
      refine ⟨fun hnil => ?_, fun i hi => ?_⟩
      · have hall : ∀ i, i < all.size → On listed i := fun i hi => Classical.byContradiction fun hno => some_ready hL h.size hi hno hnil
        have hidx : ∀ x ∈ L, On listed x.idx := fun x hx => hall _ (Array.getElem?_eq_some_iff.1 (hL.item x hx).at_).1
        rcases hend with ⟨rfl, rfl, rfl⟩ | ⟨x, r', rfl, _⟩
        · exact hQ σ a w h.ext ⟨h.tsize, fun t => h.now t fun x hx _ => hidx x (by rw [h.split]; simp [hx]), h.marks⟩ h.world
        · exact absurd (hidx x (by rw [h.split]; simp)) (h.later x (by simp))
      · obtain ⟨h1, o, h2, h3⟩ := mem_ready.1 hi
        have hlt : i < all.size := (Array.getElem?_eq_some_iff.1 h2).1
        have hoff : ¬ On listed i := by
          unfold On
          have hlt' : i < listed.size := by rw [h.size]; exact hlt
          simp [Array.getD_eq_getD_getElem?, hlt'] at h1 ⊢
          exact h1
        have hun := un_set (by rw [h.size]; exact hlt) hoff all.size hlt
        obtain ⟨x, hxL, rfl⟩ := hL.cover i hlt
        have hio := hL.item x hxL
        have ho : o = x.oper := by have := hio.at_; rw [h2] at this; exact Option.some.inj this
        subst ho
        have hpre : ∀ e ∈ x.oper.after.toList, bindsF e = true → On listed e.on := fun e he hb => h3 e (by simpa using he) (by rw [bindsF_eq]; exact hb)
        have hx' := hxL
        rw [h.split] at hx'
        rcases List.mem_append.1 hx' with hxd | hxr
        · obtain ⟨q, hq, rfl⟩ := h.wait x hxd hoff
          refine pend_step hT hP hL hF hself h hq (List.all_eq_true.1 hok q hq) hoff hpre fun τ a' w' h' => ?_
          exact IH r done pend f s τ _ a' w' h' (by omega) hr
        · rcases hend with ⟨rfl, _⟩ | ⟨y, r', rfl, hheavy⟩
          · simp at hxr
          · rcases List.mem_cons.1 hxr with rfl | hxr
            · rw [planRun_cons, hheavy] at hr
              obtain ⟨_, hr2⟩ := gd_eq (show gd (pend.all (recOk s)) (ob (itemF self x f s) fun p => planRun self r' (pend.filter fun q => !x.mask.testBit q.item.idx) (f.put x.op.dst p.1) p.2) = some (fE, sE) from hr)
              obtain ⟨⟨v, s1⟩, h4, h5⟩ := ob_eq hr2
              refine heavy_step hT hP hL hn hF hself h hpre h4 fun τ a' w' h' => ?_
              exact IH r' _ _ _ _ τ _ a' w' h' (by omega) h5
            · obtain ⟨A, B, hAB⟩ := List.append_of_mem hxr
              have hpair := hL.pair (L1 := done) (x := y) (L2 := r') (y := x) h.split hxr
              have hb := hpair.mask (.inr (.inr hheavy))
              have := mask_on hL h.shut (done ++ y :: A).length (done ++ y :: A) x B (Nat.le_refl _) (by rw [h.split, hAB]; simp) hpre _ hb
              exact absurd this (h.later y (by simp))
    intro r
    induction r with
    | nil =>
      intro done pend f s σ listed a w h hu hr
      obtain ⟨hok, hr2⟩ := gd_eq (show gd (pend.all (recOk s)) (some (f, s)) = some (fE, sE) from hr)
      cases hr2
      exact phase [] done pend _ _ σ listed a w h hu hr hok (.inl ⟨rfl, rfl, rfl⟩)
    | cons x r ih =>
      intro done pend f s σ listed a w h hu hr
      have hr0 := hr
      rw [planRun_cons] at hr
      cases hx : heavyA x.op.act with
      | false =>
        rw [hx] at hr
        obtain ⟨⟨v, s1⟩, h1, h2⟩ := ob_eq (show ob (itemF self x f s) (fun p => planRun self r (⟨x, f, p.1, madeF x f s⟩ :: pend) (f.put x.op.dst p.1) p.2) = some (fE, sE) from hr)
        exact ih _ _ _ _ _ _ _ _ (h.ahead hL hn hx h1) hu h2
      | true =>
        rw [hx] at hr
        have hok := (gd_eq (show gd (pend.all (recOk s)) (ob (itemF self x f s) fun p => planRun self r (pend.filter fun q => !x.mask.testBit q.item.idx) (f.put x.op.dst p.1) p.2) = some (fE, sE) from hr)).1
        exact phase (x :: r) done pend f s σ listed a w h hu hr0 hok (.inr ⟨x, r, rfl, hx⟩)

theorem un_none (k : Nat) : un (Array.replicate k false) k ≤ k := by
  have : ∀ j, un (Array.replicate k false) j ≤ j := by
    intro j
    induction j with
    | zero => exact Nat.le_refl _
    | succ j ih => simp only [un]; split <;> omega
  exact this k
theorem not_on_none (k i : Nat) : ¬ On (Array.replicate k false) i := by
  unfold On
  simp [Array.getD_eq_getD_getElem?, Array.getElem?_replicate]
  split <;> simp

/-- A region that draws its order. -/
theorem drawn_ok (hT : TabOk P T) (hP : T.prog = P) {self : Self} (hself : SelfOk P self) (hn : n < top) {F : Fence} {rd : Bool} (hF : FOk F rd) {m : Nat} {id : Nat} {l : List PItem} (hl : plan T n all = some l) {f f' : Fr} {s s' : St} (hr : planRun self l [] f s = some (f', s'))
    {σ : Ren} {a : Act} {w : World} (hf : FRel σ n f a) (hw : WRel N σ s w) {Q : Exit → Act → World → Prop}
    (hQ : ∀ τ a' w', Ext N σ τ s s' w w' → FRel τ n f' a' → WRel N τ s' w' → Q .normal a' w') : (Code.region id all true).wpIn F m P Q a w := by
  have hL := plan_ok hl
  refine wpIn_region_any hT.mixed ?_
  have hwd : WRel N σ s { w with drawn := w.drawn + 1 } := hw.drewN _
  refine any_ok hT hP hself hL hn hF (f0 := f) (fE := f') (s0 := s) (sE := s') (σ0 := σ) (w0 := w) hQ all.size l [] [] f s σ _ a _ ?_ (un_none _) hr
  refine ⟨rfl, by simp, fun x _ => not_on_none _ _, fun x hx => by simp at hx, fun q hq => by simp at hq, fun q hq => by simp at hq, fun x _ h => absurd h (not_on_none _ _), hf.size, hf.marks, fun t _ => hf.tmps t, fun t x hx => by simp at hx, fun t _ => rfl, hwd, ?_⟩
  exact ⟨σ.le_refl, fun _ _ => rfl, Nat.le_refl _, (Below.refl N w).drew⟩
end
end Go.Proofs.Ytnhokodcmeekhaa.Kern
namespace Go.Proofs.Ytnhokodcmeekhaa.Kern
open Go Go.RowKit

theorem Tree.get_ofList {α : Type} : ∀ (l : List α) (k : Nat) (t : Tree α) (i : Nat), (Tree.ofList l k t).get i = if k ≤ i ∧ i < k + l.length then l[i - k]? else t.get i
  | [], k, t, i => by
    have : ¬ (k ≤ i ∧ i < k + ([] : List α).length) := by simp
    rw [if_neg this]; rfl
  | x :: l, k, t, i => by
    simp only [List.length_cons]
    change (Tree.ofList l (k + 1) (t.set x (k + 1) k)).get i = _
    rw [Tree.get_ofList l (k + 1) _ i, Tree.get_setN]
    by_cases h1 : i = k
    · subst h1
      rw [if_neg (by omega : ¬ (i + 1 ≤ i ∧ i < i + 1 + l.length)), if_pos rfl, if_pos (by simp)]
      simp
    · by_cases h2 : k ≤ i ∧ i < k + (l.length + 1)
      · have e : i - k = (i - (k + 1)) + 1 := by omega
        rw [if_pos (by omega : k + 1 ≤ i ∧ i < k + 1 + l.length), if_pos (by simpa using h2), e]
        simp
      · rw [if_neg (by omega), if_neg h1, if_neg (by simpa using h2)]
theorem Tree.get_list {α : Type} (l : List α) (i : Nat) (_ : l.length ≤ top) : (Tree.ofList l 0 .leaf).get i = l[i]? := by
  rw [Tree.get_ofList l 0 .leaf i]
  by_cases hi : i < l.length
  · rw [if_pos (by omega)]; simp
  · rw [if_neg (by omega), Tree.get_leaf]; simp; omega

section
variable {F : Fence} {n : Nat} {P : Program} {Q : Exit → Act → World → Prop} {a : Act} {w : World}

/-- A loop, at the start of a round. -/
def againIn (F : Fence) (n : Nat) (P : Program) (c : Code) (Q : Exit → Act → World → Prop) (a : Act) (w : World) : Prop :=
  ∀ (b : Frame) (k : List Item) (cs : List Frame), b.roundOf = F.round → F.fn b.fn → F.room (cs.length + 1 + n) →
    ∃ e a' w', Q e a' w' ∧ ArrivesIn (Machine.fenced P F) P (lone (b.atR a (.code c :: .inLoop c :: k)) cs w) b k cs e a' w'
theorem loop_of_again {c : Code} (h : againIn F n P c Q a w) : (Code.loop c).wpIn F n P Q a w := by
  intro b k cs hro hb hr
  obtain ⟨e, a', w', hq, harr⟩ := h b k cs hro hb hr
  exact ⟨e, a', w', hq, .of_steps (.one (fenced_calm hb hr rfl) stepR_loop) harr⟩
theorem again_of_round {c : Code} (h : c.wpIn F n P (Exit.then (againIn F n P c Q) Q) a w) : againIn F n P c Q a w := by
  intro b k cs hro hb hr
  obtain ⟨e, a₁, w₁, hq, harr⟩ := h b (.inLoop c :: k) cs hro hb hr
  cases e with
  | normal =>
    obtain ⟨e₂, a₂, w₂, hq₂, harr₂⟩ := hq b k cs hro hb hr
    exact ⟨e₂, a₂, w₂, hq₂, .of_steps (StepsIn.trans harr (.one (fenced_calm hb hr rfl) stepR_inLoop)) harr₂⟩
  | exit id => exact ⟨_, a₁, w₁, hq, .pass (x := .inLoop c) rfl (fun _ _ => .inl (by simp)) harr⟩
  | goto l => exact ⟨_, a₁, w₁, hq, .pass (x := .inLoop c) rfl (fun _ _ => .inl (by simp)) harr⟩
  | ret => exact ⟨_, a₁, w₁, hq, .pass (x := .inLoop c) rfl (fun _ _ => .inl (by simp)) harr⟩
  | panic ch => exact ⟨_, a₁, w₁, hq, .pass (x := .inLoop c) rfl (fun _ _ => .inl (by simp)) harr⟩
  | outgrown => exact ⟨_, a₁, w₁, hq, .pass (x := .inLoop c) rfl (fun _ _ => .inl (by simp)) harr⟩

theorem stepR_scope {b : Frame} {k : List Item} {cs : List Frame} {c : Code} : step P (lone (b.atR a (.code (.scope c) :: k)) cs w) = .next (lone (b.atR a (.code c :: .inScope c :: k)) cs w) :=
  step_lone_go (by simp [stepG, stepG.exec, Frame.atR])
theorem stepR_inScope {b : Frame} {k : List Item} {cs : List Frame} {c : Code} : step P (lone (b.atR a (.inScope c :: k)) cs w) = .next (lone (b.atR a k) cs w) :=
  step_lone_go (by simp [stepG, stepG.exec, Frame.atR])
def noGoto (Q : Exit → Act → World → Prop) : Exit → Act → World → Prop
  | .goto _, _, _ => False
  | e, a, w => Q e a w
theorem wpIn_scope {c : Code} (h : c.wpIn F n P (noGoto Q) a w) : (Code.scope c).wpIn F n P Q a w := by
  intro b k cs hro hb hr
  have h0 : (lone (b.atR a (.code (.scope c) :: k)) cs w).fenced P F := fenced_calm hb hr rfl
  obtain ⟨e, a₁, w₁, hq, harr⟩ := h b (.inScope c :: k) cs hro hb hr
  cases e with
  | normal => exact ⟨.normal, a₁, w₁, hq, .head h0 stepR_scope (StepsIn.trans harr (.one (fenced_calm hb hr rfl) stepR_inScope))⟩
  | exit id =>
    have hx : exitTo id (.inScope c :: k) = exitTo id k := by simp [exitTo]
    exact ⟨.exit id, a₁, w₁, hq, fun k' hk => .head h0 stepR_scope (harr.1 k' (by rw [hx]; exact hk)),
      fun hr' hk => let ⟨k₁, h1, h2⟩ := harr.2 hr' (by rw [hx]; exact hk); ⟨k₁, h1, .head h0 stepR_scope h2⟩⟩
  | goto l => exact hq.elim
  | ret => exact ⟨_, a₁, w₁, hq, .of_steps (.one h0 stepR_scope) harr⟩
  | panic ch => exact ⟨_, a₁, w₁, hq, .of_steps (.one h0 stepR_scope) harr⟩
  | outgrown => exact ⟨_, a₁, w₁, hq, .of_steps (.one h0 stepR_scope) harr⟩
end

section
variable {P : Program} {T : Tab}

/-- The marks are taken up. -/
theorem leave_ok {F : Fence} {m N : Nat} {fn : Func} {tmps : Array Value} {R : Ending → World → Prop} {σ : Ren} : ∀ {ms : List Nat} {ds : List Deferred} {s s' : St} {w : World}, MarkRel σ ms ds → leaveF ms s = some s' → WRel N σ s w →
    (∀ w', Ext N σ σ s s' w w' → WRel N σ s' w' → LeavesIn F m P fn tmps R [] .returning w') → LeavesInM F m P fn tmps R ds .returning w
  | [], _, s, s', w, .nil, h, hw, hQ => by
    change some s = some s' at h
    cases h
    exact hQ w Ext.refl hw
  | k :: ms, _, s, s', w, .cons (b := b) (ds := ds) hs ht, h, hw, hQ => by
    obtain ⟨o, h1, h2⟩ := ob_eq (show ob (s.heap.get k) (fun o => gd (isLive o) (ob (s.upd k .dead) (leaveF ms))) = some s' from h)
    obtain ⟨h3, h4⟩ := gd_eq h2
    obtain ⟨s1, h5, h6⟩ := ob_eq h4
    have ho : o = .deferred true := by
      cases o <;> simp [isLive] at h3
      rename_i x; subst h3; rfl
    subst ho
    obtain ⟨O, k1, k2⟩ := hw.real hs h1
    cases k2
    refine ⟨by simp, .inl ⟨b, _, rfl, run_takeDeferred k1, ?_⟩⟩
    refine leave_ok ht h6 (hw.upd (O := .deferred none) hs h1 (by simp) h5 (.deadR _)) ?_
    intro w' hx hw'
    exact hQ w' ((Ext.upd hw hs h5).trans hx) hw'

theorem resV_ok (hT : TabOk P T) {N n : Nat} {σ : Ren} {s : St} {w : World} {f : Fr} {a : Act} (hf : FRel σ n f a) (hw : WRel N σ s w) {r : ResultVar} {v : Value} (h : resV T f s r = some v) :
    ∃ v', (match r with | .tmp t => pure (a.tmps.getD t undef) | .cell c t => do loadVar t (← asAddr (a.tmps.getD c undef)) : Sem Value).run P w = .ok v' w ∧ VRel σ v v' := by
  cases r with
  | tmp t =>
    have h' : some (f.get t) = some v := h
    cases h'
    exact ⟨a.tmps.getD t undef, rfl, hf.tmps t⟩
  | cell c t =>
    obtain ⟨m, h1, h2⟩ := ob_eq (show ob (aggN T t) (fun m => vLoad m (.tmp c) f.eval s.heap) = some v from h)
    let o : Oper := { (default : Oper) with op := .load t (.tmp c) }
    obtain ⟨v', k1, k2⟩ := load_ok (o := o) (P := P) rfl h1 hT hw (ρ' := a.eval) (fun x hx => by
      have : x = .tmp c := by simpa [o, Op.operands] using hx
      subst this
      exact hf.tmps c) h2
    refine ⟨v', ?_, k2⟩
    obtain ⟨p, h3, _⟩ := ob_eq h2
    obtain ⟨b, sh, x, _, ha⟩ := (hf.tmps c).of_addr h3
    simp only [ha]
    have ha' : a.eval (.tmp c) = .pointer (some ⟨b, sh + p.2, none⟩) := ha
    simp [o, execOp, Instr.loadAt, Instr.sureAddr, ha'] at k1
    simp [asAddr]
    cases hl : (loadVar t ⟨b, sh + p.2, none⟩).run P w <;> simp_all
theorem resF_ok (hT : TabOk P T) {N n : Nat} {σ : Ren} {s : St} {w : World} {f : Fr} {a : Act} (hf : FRel σ n f a) (hw : WRel N σ s w) : ∀ {l : List ResultVar} {vs : List Value}, resF T f s l = some vs →
    ∃ vs', (l.mapM (fun r => (match r with | .tmp t => pure (a.tmps.getD t undef) | .cell c t => do loadVar t (← asAddr (a.tmps.getD c undef)) : Sem Value))).run P w = .ok vs' w ∧ LRel σ vs vs'
  | [], vs, h => by
    have h' : some [] = some vs := h
    cases h'
    exact ⟨[], by simp, .nil⟩
  | r :: l, vs, h => by
    obtain ⟨v, h1, h2⟩ := ob_eq (show ob (resV T f s r) (fun v => ob (resF T f s l) fun vs => some (v :: vs)) = some vs from h)
    obtain ⟨vs1, h3, h4⟩ := ob_eq h2
    cases h4
    obtain ⟨v', k1, k2⟩ := resV_ok hT hf hw h1
    obtain ⟨vs', k3, k4⟩ := resF_ok hT hf hw h3
    refine ⟨v' :: vs', ?_, .cons k2 k4⟩
    simp only [List.mapM_cons, Sem.run_bind, k1, andThen_ok', k3, Sem.run_pure]
theorem tupled_rel {σ : Ren} {vs vs' : List Value} (h : LRel σ vs vs') : VRel σ (tupled vs) (if h : vs'.toArray.size = 1 then vs'.toArray[0] else .tuple vs'.toArray) := by
  cases h with
  | nil => exact .tuple .nil
  | cons h t =>
    cases t with
    | nil => simpa [tupled] using h
    | cons h2 t2 =>
      have : ∀ (a b : Value) (c : List Value), tupled (a :: b :: c) = .tuple ⟨a :: b :: c⟩ := fun _ _ _ => rfl
      rw [this]
      simp
      exact .tuple (.cons h (.cons h2 t2))
theorem results_ok (hT : TabOk P T) {N n : Nat} {σ : Ren} {s : St} {w : World} {f : Fr} {a : Act} (hf : FRel σ n f a) (hw : WRel N σ s w) {fn : Func} {vs : List Value} (h : resF T f s fn.results.toList = some vs) :
    ∃ v', (results fn a.tmps).run P w = .ok v' w ∧ VRel σ (tupled vs) v' := by
  obtain ⟨vs', h1, h2⟩ := resF_ok hT hf hw h
  refine ⟨_, ?_, tupled_rel h2⟩
  unfold results
  rw [Sem.run_bind]
  have e := mapM_arr _ _ _ h1
  refine (congrArg (fun x => Result.andThen x _) (?_ : _ = Result.ok vs'.toArray w)).trans rfl
  refine Eq.trans (congrArg (fun g => Sem.run P (Array.mapM g fn.results) w) (funext fun r => ?_)) e
  cases r <;> rfl
end
end Go.Proofs.Ytnhokodcmeekhaa.Kern
namespace Go.Proofs.Ytnhokodcmeekhaa.Kern
open Go Go.RowKit

/-- What is shown of a run, with the start of a round beside it. -/
structure SelfOk2 (P : Program) (S : Self) : Prop extends SelfOk P S where
  again : ∀ {rd n c f s e f' s' N σ w a F m}, S.code rd n (.loop c) f s = some (e, f', s') → FOk F rd → n < top → FRel σ n f a → WRel N σ s w → ∀ {Q : Exit → Act → World → Prop},
    (∀ τ a' w', Ext N σ τ s s' w w' → FRel τ n f' a' → WRel N τ s' w' → Q (toExit e) a' w') → againIn F m P c Q a w

theorem cSeq_eq {self : Self} {rd : Bool} {n : Nat} {b : Code} {r : Option (Ex × Fr × St)} {q : Ex × Fr × St} (h : cSeq self rd n b r = some q) :
    ∃ e f s, r = some (e, f, s) ∧ ((e = .normal ∧ self.code rd n b f s = some q) ∨ (e ≠ .normal ∧ q = (e, f, s))) := by
  obtain ⟨⟨e, f, s⟩, h1, h2⟩ := ob_eq h
  refine ⟨e, f, s, h1, ?_⟩
  cases e with
  | normal => exact .inl ⟨rfl, h2⟩
  | exit id => exact .inr ⟨by simp, (Option.some.inj h2).symm⟩
  | goto l => exact .inr ⟨by simp, (Option.some.inj h2).symm⟩
  | ret => exact .inr ⟨by simp, (Option.some.inj h2).symm⟩
theorem then_ne {K : Act → World → Prop} {Q : Exit → Act → World → Prop} {e : Ex} (he : e ≠ .normal) {a : Act} {w : World} (h : Q (toExit e) a w) : Exit.then K Q (toExit e) a w := by
  cases e with
  | normal => exact absurd rfl he
  | exit id => exact h
  | goto l => exact h
  | ret => exact h

section
variable {P : Program} {T : Tab} {self : Self} (hT : TabOk P T) (hP : T.prog = P) (hS : SelfOk2 P self)
include hS

theorem again_ok {rd : Bool} {n : Nat} {c : Code} {f f' : Fr} {s s' : St} {e : Ex} {N : Nat} {σ : Ren} {w : World} {a : Act} {F : Fence} {m : Nat} (h : cSeq self rd n (.loop c) (self.code rd n c f s) = some (e, f', s')) (hF : FOk F rd) (hn : n < top)
    (hf : FRel σ n f a) (hw : WRel N σ s w) {Q : Exit → Act → World → Prop} (hQ : ∀ τ a' w', Ext N σ τ s s' w w' → FRel τ n f' a' → WRel N τ s' w' → Q (toExit e) a' w') : againIn F m P c Q a w := by
  obtain ⟨e1, f1, s1, h1, h2⟩ := cSeq_eq h
  refine again_of_round (hS.code h1 hF hn hf hw fun τ a1 w1 hx hf1 hw1 => ?_)
  rcases h2 with ⟨rfl, h2⟩ | ⟨hne, h2⟩
  · exact hS.again h2 hF hn hf1 hw1 fun τ2 a2 w2 x2 f2 k2 => hQ τ2 a2 w2 (hx.trans x2) f2 k2
  · cases h2
    exact then_ne hne (hQ τ a1 w1 hx hf1 hw1)

include hT hP

theorem code_ok {rd : Bool} {n : Nat} {c : Code} {f f' : Fr} {s s' : St} {e : Ex} {N : Nat} {σ : Ren} {w : World} {a : Act} {F : Fence} {m : Nat} (h : codeF T self rd n c f s = some (e, f', s')) (hF : FOk F rd) (hn : n < top)
    (hf : FRel σ n f a) (hw : WRel N σ s w) {Q : Exit → Act → World → Prop} (hQ : ∀ τ a' w', Ext N σ τ s s' w w' → FRel τ n f' a' → WRel N τ s' w' → Q (toExit e) a' w') : c.wpIn F m P Q a w := by
  cases c with
  | skip =>
    have h' : some (Ex.normal, f, s) = some (e, f', s') := h
    cases h'
    exact wpIn_skip (hQ σ a w Ext.refl hf hw)
  | label l =>
    have h' : some (Ex.normal, f, s) = some (e, f', s') := h
    cases h'
    exact wpIn_label (hQ σ a w Ext.refl hf hw)
  | exit id =>
    have h' : some (Ex.exit id, f, s) = some (e, f', s') := h
    cases h'
    exact wpIn_exit (hQ σ a w Ext.refl hf hw)
  | goto l =>
    have h' : some (Ex.goto l, f, s) = some (e, f', s') := h
    cases h'
    exact wpIn_goto (hQ σ a w Ext.refl hf hw)
  | ret =>
    have h' : some (Ex.ret, f, s) = some (e, f', s') := h
    cases h'
    exact wpIn_ret (hQ σ a w Ext.refl hf hw)
  | refuse r =>
    have h' : none = some (e, f', s') := h
    cases h'
  | seq x y =>
    obtain ⟨e1, f1, s1, h1, h2⟩ := cSeq_eq (show cSeq self rd n y (self.code rd n x f s) = some (e, f', s') from h)
    refine wpIn_seq (hS.code h1 hF hn hf hw fun τ a1 w1 hx hf1 hw1 => ?_)
    rcases h2 with ⟨rfl, h2⟩ | ⟨hne, h2⟩
    · exact hS.code h2 hF hn hf1 hw1 fun τ2 a2 w2 x2 f2 k2 => hQ τ2 a2 w2 (hx.trans x2) f2 k2
    · cases h2
      exact then_ne hne (hQ τ a1 w1 hx hf1 hw1)
  | cond o x y =>
    obtain ⟨h1, h2⟩ := gd_eq (show gd (constOk o) (cCond self rd n (f.eval o) x y f s) = some (e, f', s') from h)
    obtain ⟨t, h3, h4⟩ := ob_eq h2
    have hv := hf.eval h1
    rw [boolOf_eq h3] at hv
    refine wpIn_cond hv.of_bool ?_
    cases t with
    | true => exact hS.code h4 hF hn hf hw hQ
    | false => exact hS.code h4 hF hn hf hw hQ
  | block id c =>
    obtain ⟨⟨e1, f1, s1⟩, h1, h2⟩ := ob_eq (show cBlock id (self.code rd n c f s) = some (e, f', s') from h)
    refine wpIn_block (hS.code h1 hF hn hf hw fun τ a1 w1 hx hf1 hw1 => ?_)
    cases e1 with
    | normal => cases h2; exact hQ τ a1 w1 hx hf1 hw1
    | goto l => cases h2; exact hQ τ a1 w1 hx hf1 hw1
    | ret => cases h2; exact hQ τ a1 w1 hx hf1 hw1
    | exit j =>
      have h2' : bt (Nat.beq j id) (some (Ex.normal, f1, s1)) (some (Ex.exit j, f1, s1)) = some (e, f', s') := h2
      cases hj : Nat.beq j id with
      | true =>
        rw [hj] at h2'
        cases h2'
        have := beq_t hj
        subst this
        simpa [toExit, Exit.inBlock] using hQ τ a1 w1 hx hf1 hw1
      | false =>
        rw [hj] at h2'
        cases h2'
        have := beq_f hj
        simpa [toExit, Exit.inBlock, this] using hQ τ a1 w1 hx hf1 hw1
  | loop c => exact loop_of_again (again_ok hS (show cSeq self rd n (.loop c) (self.code rd n c f s) = some (e, f', s') from h) hF hn hf hw hQ)
  | scope c =>
    obtain ⟨⟨e1, f1, s1⟩, h1, h2⟩ := ob_eq (show cScope (self.code rd n c f s) = some (e, f', s') from h)
    refine wpIn_scope (hS.code h1 hF hn hf hw fun τ a1 w1 hx hf1 hw1 => ?_)
    cases e1 with
    | normal => cases h2; exact hQ τ a1 w1 hx hf1 hw1
    | goto l => cases h2
    | ret => cases h2; exact hQ τ a1 w1 hx hf1 hw1
    | exit j => cases h2; exact hQ τ a1 w1 hx hf1 hw1
  | region id ops draw =>
    cases draw with
    | true =>
      obtain ⟨l, h1, h2⟩ := ob_eq (show ob (plan T n ops) (fun l => ob (planRun self l [] f s) fun p => some (Ex.normal, p)) = some (e, f', s') from h)
      obtain ⟨⟨f1, s1⟩, h3, h4⟩ := ob_eq h2
      cases h4
      exact drawn_ok hT hP hS.toSelfOk hn hF h1 h3 hf hw hQ
    | false =>
      obtain ⟨l, h1, h2⟩ := ob_eq (show ob (compOps T n ops.toList ops.toList) (fun l => ob (opsF self l f s) fun p => some (Ex.normal, p)) = some (e, f', s') from h)
      obtain ⟨⟨f1, s1⟩, h3, h4⟩ := ob_eq h2
      cases h4
      refine wpIn_region (ops_ok hT hP hS.toSelfOk hn hF ops.toList (List.range ops.size) l (by simp) ?_ h1 h3 hf hw hQ)
      intro k i o hk ho
      have hi : k = i := by
        rw [List.getElem?_range (by
          have := (List.getElem?_eq_some_iff.1 hk).1
          simpa using this)] at hk
        exact Option.some.inj hk
      subst hi
      simpa using ho
  | rangeFunc g ps assign body =>
    obtain ⟨hrd, h2⟩ := gd_eq (show gd (bt rd false true) (cRange self n g ps.toList assign body f s) = some (e, f', s') from h)
    have hrd' : rd = false := by cases rd <;> simp_all
    subst hrd'
    have hFw : F = Fence.wide := by
      rcases hF with ⟨_, h⟩ | ⟨h, _⟩
      · exact h
      · cases h
    subst hFw
    obtain ⟨hg, h4⟩ := gd_eq h2
    obtain ⟨s1, h5, h6⟩ := ob_eq h4
    obtain ⟨s2, h7, h8⟩ := ob_eq h6
    obtain ⟨q, h9, h10⟩ := ob_eq h8
    obtain ⟨⟨v, s3⟩, h11, h12⟩ := ob_eq h10
    obtain ⟨r, h13, h14⟩ := ob_eq h12
    obtain ⟨h15, h16⟩ := gd_eq h14
    obtain ⟨s4, h17, h18⟩ := ob_eq h16
    have hw1 := hw.push (x := none) (O := .deferred (some [])) h5 .deferred
    have x1 := Ext.push (x := none) (O := .deferred (some [])) hw h5
    have hf1 := hf.mono x1.le
    refine wpIn_rangeFunc fun fn hfn => ?_
    obtain ⟨L, hL⟩ : ∃ L : Loop, L = { state := .ready, pending := none, fn, tmps := a.tmps, params := ps, assign, body, defers := w.heap.size } := ⟨_, rfl⟩
    have hrel : ∀ τ : Ren, FRel τ n f a → LoopRel τ ⟨true, none, n, f.tmps, ps.toList, assign, body⟩ L := by
      intro τ ht
      subst hL
      exact ⟨rfl, rfl, ht.size, fun t => ht.tmps t, rfl, rfl, rfl⟩
    have hle2 := Ren.le_add (b := (w.alloc (.deferred (some []))).heap.size) (sh := 0) (x := none) (hw1.fresh (Nat.le_refl s1.next))
    have hw2 := hw1.push (x := none) (O := .loop L) h7 (.loop (hrel _ (hf1.mono hle2)))
    have x2 := Ext.push (x := none) (O := .loop L) hw1 h7
    have hf2 := hf1.mono x2.le
    have hgv := hf2.eval hg
    have hq : f.eval g = .func (.func q.1) ⟨q.2.1⟩ ⟨q.2.2⟩ := by
      unfold funcOf at h9
      split at h9
      · cases h9; assumption
      · cases h9
    rw [hq] at hgv
    generalize hge : a.eval g = gv at hgv
    cases hgv with
    | func _ hfn' hp hqq =>
      rename_i p' q'
      obtain ⟨fn2, e1, e2, e3⟩ := hS.callee h11
      obtain ⟨body2, hb⟩ := Option.isSome_iff_exists.1 e3
      have e2' : ¬ fn2.name = "runtime.NumGoroutine" := by simpa using e2
      have hloopσ : ((σ.add s.next w.heap.size 0 none).add s1.next (w.alloc (.deferred (some []))).heap.size 0 none) s1.next = some (w.heap.size + 1, 0, none) := by
        rw [Ren.add_same]; simp
      refine ⟨w.heap.size + 1, [{ target := .collected w.heap.size, args := #[] }], (w.alloc (.deferred (some []))).alloc (.loop L), { target := .fn (.func q.1) q', args := p' ++ #[.func (.yield (w.heap.size + 1)) #[] #[]] }, (w.alloc (.deferred (some []))).alloc (.loop L), q.1,
        p' ++ #[.func (.yield (w.heap.size + 1)) #[] #[]] ++ q', (w.alloc (.deferred (some []))).alloc (.loop L), (by rw [hL]; exact run_enterLoop_outer _ _ _ _ _), ?_, fun _ _ => trivial, ?_, (fun hd => by cases hd), ?_⟩
      · simp [resolve, hge, Deferred.ofValue]
        rfl
      · simp [invoke, callFunc, e1, e2', hb]
      · have hargs : LRel ((σ.add s.next w.heap.size 0 none).add s1.next (w.alloc (.deferred (some []))).heap.size 0 none) (q.2.1 ++ [.func (.yield s1.next) #[] #[]] ++ q.2.2) (p' ++ #[Value.func (.yield (w.heap.size + 1)) #[] #[]] ++ q').toList := by
          simp only [Array.toList_append]
          exact (hp.append (.cons (.yield hloopσ) .nil)).append hqq
        have hcall := hS.call h11 hw2 hargs
        refine callsIn_wide.2 (hcall.mono ?_)
        · intro e' w' he
          obtain ⟨τ, v', rfl, x3, hw3, -⟩ := he
          have hl3 := x3.le _ _ hloopσ
          obtain ⟨R3, hR3, hL3⟩ := hw3.loop hl3 h13
          have hnb : R3.state ≠ .busy := by
            rw [hL3.state]
            unfold loopState
            cases hr : r.ready <;> cases hj : r.jump <;> simp_all
          have hend := run_endLoop (P := P) hR3 hnb
          have hw4 := hw3.upd (O := .loop { R3 with state := .exhausted }) hl3 (loopAt_eq h13) (by simp) h17 (.deadR _)
          have x4 := Ext.upd (O := .loop { R3 with state := .exhausted }) hw3 hl3 h17
          have hx := x1.trans (x2.trans (x3.trans x4))
          have hmσ : τ s.next = some (w.heap.size, 0, none) := x3.le _ _ (hle2 _ _ Ren.add_same)
          have hf4 : FRel τ n ⟨f.tmps, s.next :: f.marks⟩ { a with defers := [{ target := .collected w.heap.size, args := #[] }] ++ a.defers } :=
            ⟨hf.size, fun t => (hf2.mono x3.le).tmps t, .cons hmσ (hf2.mono x3.le).marks⟩
          generalize w'.putObj (w.heap.size + 1) (.loop { R3 with state := .exhausted }) = W4 at hend hw4 hx
          rw [hL3.jump] at hend
          refine ⟨_, _, hend, ?_⟩
          cases hj : r.jump with
          | none =>
            rw [hj] at h18
            cases h18
            exact hQ τ _ _ hx hf4 hw4
          | some c =>
            rw [hj] at h18
            exact hS.code (show self.code false n c ⟨f.tmps, s.next :: f.marks⟩ s4 = some (e, f', s') from h18) (.inl ⟨rfl, rfl⟩) hn hf4 hw4 fun τ2 a2 w2 k1 k2 k3 => hQ τ2 a2 w2 (hx.trans k1) k2 k3

end

section
variable {P : Program} {T : Tab} {self : Self} (hT : TabOk P T) (hS : SelfOk2 P self)
include hS hT

theorem call_ok {g : FuncId} {args : List Value} {s s' : St} {v : Value} {N : Nat} {σ : Ren} {w : World} {args' : Array Value} (h : callF T self g args s = some (v, s')) (hw : WRel N σ s w) (ha : LRel σ args args'.toList) :
    Calls P g args' w fun e w' => ∃ τ v', e = .returned v' ∧ Ext N σ τ s s' w w' ∧ WRel N τ s' w' ∧ VRel τ v v' := by
  obtain ⟨fn, h1, h2⟩ := ob_eq h
  obtain ⟨c, h3, h4⟩ := ob_eq h2
  obtain ⟨h5, h6⟩ := gd_eq h4
  obtain ⟨⟨e, f, s1⟩, h7, h8⟩ := ob_eq h6
  obtain ⟨h9, h10⟩ := gd_eq h8
  obtain ⟨s2, h11, h12⟩ := ob_eq h10
  obtain ⟨vs, h13, h14⟩ := ob_eq h12
  cases h14
  simp only [Bool.and_eq_true] at h5
  have hle : args.length ≤ fn.ntmps := by have := ble_t h5.1.1; rwa [lenL_eq] at this
  have hnt : fn.ntmps < top := blt_t h5.1.2
  have hal : args.length < top := by have := blt_t h5.2; rwa [lenL_eq] at this
  have hsz : args'.size = args.length := by have := ha.length; simpa using this
  have hf : FRel σ fn.ntmps ⟨Tree.ofList args 0 .leaf, []⟩ { tmps := args' ++ Array.replicate (fn.ntmps - args'.size) undef, defers := [] } := by
    refine ⟨by simp; omega, fun t => ?_, .nil⟩
    change VRel σ (Option.rec (motive := fun _ => Value) undef (fun v => v) ((Tree.ofList args 0 .leaf).get t)) _
    rw [Tree.get_list args t (Nat.le_of_lt hal)]
    cases ht : args[t]? with
    | none =>
      have hge : args'.size ≤ t := by rw [hsz]; simpa using ht
      have : (args' ++ Array.replicate (fn.ntmps - args'.size) undef).getD t undef = undef := by
        simp only [Array.getD_eq_getD_getElem?, Array.getElem?_append_right hge, Array.getElem?_replicate]
        split <;> rfl
      rw [this]
      exact undef_rel
    | some x =>
      obtain ⟨x', k1, k2⟩ := ha.get ht
      have hlt : t < args'.size := by rw [hsz]; exact (List.getElem?_eq_some_iff.1 ht).1
      have : (args' ++ Array.replicate (fn.ntmps - args'.size) undef).getD t undef = x' := by
        simp only [Array.getD_eq_getD_getElem?, Array.getElem?_append_left hlt]
        have : args'[t]? = some x' := by simpa using k1
        rw [this]; rfl
      rw [this]
      exact k2
  refine callsIn_wide.1 (callsIn_of_wp_marks (F := Fence.wide) (n := 0) (hT.funcs h1) h3 trivial ?_)
  refine hS.code h7 (.inl ⟨rfl, rfl⟩) hnt hf hw fun τ a1 w1 x1 f1 k1 => ?_
  have fin : LeavesInM Fence.wide 0 P fn a1.tmps (fun e w' => ∃ τ v', e = .returned v' ∧ Ext N σ τ s s' w w' ∧ WRel N τ s' w' ∧ VRel τ (tupled vs) v') a1.defers .returning w1 := by
    refine leave_ok f1.marks h11 k1 fun w2 x2 k2 => ?_
    obtain ⟨v', q1, q2⟩ := results_ok hT f1 k2 h13
    exact ⟨v', q1, τ, v', rfl, x1.trans x2, k2, q2⟩
  cases e with
  | normal => exact fin
  | ret => exact fin
  | exit id => cases h9
  | goto l => cases h9
end

section
variable {P : Program} {T : Tab}
/-- What the closed call that is taken as known keeps. -/
structure StubOk (P : Program) (T : Tab) : Prop where
  func : ∀ {g}, T.stub = some g → ∃ fn, P.funcs[g]? = some fn ∧ (fn.name == "runtime.NumGoroutine") = false ∧ fn.body.isSome = true
  call : ∀ {g}, T.stub = some g → ∀ w, Calls P g #[] w fun e w' => e = .returned (.bool true) ∧ Below w.heap.size w w'
theorem StubOk.none (h : T.stub = none) : StubOk P T := ⟨fun e => (by rw [h] at e; cases e), fun e => (by rw [h] at e; cases e)⟩
theorem stubHit_eq {g : FuncId} {args : List Value} (h : stubHit T g args = true) : T.stub = some g ∧ args = [] := by
  unfold stubHit at h
  cases hs : T.stub with
  | none => rw [hs] at h; cases h
  | some k =>
    rw [hs] at h
    have h' : bt (Nat.beq k g) (List.rec (motive := fun _ => Bool) true (fun _ _ _ => false) args) false = true := h
    cases hk : Nat.beq k g with
    | false => rw [hk] at h'; cases h'
    | true =>
      rw [hk] at h'
      cases args with
      | nil => exact ⟨by rw [Nat.eq_of_beq_eq_true hk], rfl⟩
      | cons _ _ => cases h'
theorem callS_eq {self : Self} {g : FuncId} {args : List Value} {s : St} {r : Value × St} (h : callS T self g args s = some r) : (T.stub = some g ∧ args = [] ∧ r = (.bool true, s)) ∨ callF T self g args s = some r := by
  unfold callS at h
  cases hb : stubHit T g args with
  | false => rw [hb] at h; exact .inr h
  | true =>
    rw [hb] at h
    exact .inl ⟨(stubHit_eq hb).1, (stubHit_eq hb).2, (Option.some.inj h).symm⟩
theorem WRel.below {N : Nat} {σ : Ren} {s : St} {w w' : World} (h : WRel N σ s w) (hb : Below w.heap.size w w') : WRel N σ s w' :=
  ⟨Nat.le_trans h.base hb.size, fun e => ⟨(h.lt e).1, Nat.lt_of_lt_of_le (h.lt e).2 hb.size⟩, h.fresh, fun e k => by
    obtain ⟨O, hO, hr⟩ := h.real e k
    exact ⟨O, (hb.block _ (h.lt e).2).trans hO, hr⟩, h.inj⟩
theorem run_ok (hT : TabOk P T) (hP : T.prog = P) (hst : StubOk P T) : ∀ n, SelfOk2 P (run T n)
  | 0 => {
      callee := fun h => by cases h
      call := fun h => by cases h
      code := fun h => by cases h
      again := fun h => by cases h }
  | n + 1 =>
    have ih := run_ok hT hP hst n
    { callee := fun {g args s r} h => by
        rcases callS_eq (show callS T (run T n) g args s = some r from h) with ⟨h1, _, _⟩ | h
        · exact hst.func h1
        · obtain ⟨fn, h1, h2⟩ := ob_eq h
          obtain ⟨c, h3, _⟩ := ob_eq h2
          exact ⟨fn, hT.funcs h1, hT.names h1, by rw [h3]; rfl⟩
      call := fun {g args s v s' N σ w args'} h hw ha => by
        rcases callS_eq (show callS T (run T n) _ _ _ = _ from h) with ⟨h1, rfl, h2⟩ | h
        · cases h2
          have : args' = #[] := by
            have := ha.length
            exact Array.eq_empty_of_size_eq_zero (by simpa using this)
          subst this
          exact (hst.call h1 w).mono fun e w' ⟨he, hb⟩ => ⟨σ, .bool true, he, ⟨σ.le_refl, fun _ _ => rfl, Nat.le_refl _, hb.mono hw.base⟩, hw.below hb, .bool _⟩
        · exact call_ok hT ih h hw ha
      code := fun h hF hn hf hw => code_ok hT hP ih (show codeF T (run T n) _ _ _ _ _ = _ from h) hF hn hf hw
      again := fun {rd n' c f s e f' s' N σ w a F m} h hF hn hf hw => again_ok ih (show cSeq (run T n) rd n' (.loop c) ((run T n).code rd n' c f s) = some (e, f', s') from h) hF hn hf hw }

/-- The table of a program. -/
noncomputable def tabOf (P : Program) (stub : Option FuncId := none) : Tab := ⟨Tree.ofList P.types.toList 0 .leaf, Tree.ofList P.funcs.toList 0 .leaf, P, stub⟩
noncomputable def tabFits (P : Program) : Bool :=
  Nat.ble (lenL P.types.toList) top && Nat.ble (lenL P.funcs.toList) top && P.funcs.toList.all (fun f => !(f.name == "runtime.NumGoroutine")) && P.follows .mixedOrders
theorem tabOf_ok {stub : Option FuncId} (h : tabFits P = true) : TabOk P (tabOf P stub) := by
  simp only [tabFits, Bool.and_eq_true] at h
  obtain ⟨⟨⟨h1, h2⟩, h3⟩, h4⟩ := h
  have l1 : P.types.toList.length ≤ top := by have := ble_t h1; rwa [lenL_eq] at this
  have l2 : P.funcs.toList.length ≤ top := by have := ble_t h2; rwa [lenL_eq] at this
  have hfun : ∀ {f fn}, (tabOf P stub).funcs.get f = some fn → P.funcs[f]? = some fn := fun {f fn} e => by
    have e' : (Tree.ofList P.funcs.toList 0 .leaf).get f = some fn := e
    rw [Tree.get_list _ _ l2] at e'
    simpa using e'
  refine ⟨fun {t i} e => ?_, hfun, fun {f fn} e => ?_, h4⟩
  · have e' : (Tree.ofList P.types.toList 0 .leaf).get t = some i := e
    rw [Tree.get_list _ _ l1] at e'
    have e2 : P.types[t]? = some i := by simpa using e'
    have hlt : t < P.types.size := (Array.getElem?_eq_some_iff.1 e2).1
    change (if t < P.types.size then P.types[t]? else _) = some i
    rw [if_pos hlt, e2]
  · have := List.all_eq_true.1 h3 fn (by
      have := hfun e
      rw [← Array.getElem?_toList] at this
      exact List.mem_of_getElem? this)
    simpa using this
end
end Go.Proofs.Ytnhokodcmeekhaa.Kern
namespace Go.Proofs.Ytnhokodcmeekhaa.Kern
open Go

/-! ## The calculated run on unknown data -/
section
variable {T : Tab}
/-- From some fuel on the calculation yields one answer, and that is as wanted. -/
def Evn (T : Tab) {α : Type} (F : Self → Option α) (Q : α → Prop) : Prop := ∃ m a, (∀ k, m ≤ k → F (run T k) = some a) ∧ Q a
def Cd (T : Tab) (rd : Bool) (n : Nat) (c : Code) (f : Fr) (s : St) (Q : Ex → Fr → St → Prop) : Prop := Evn T (fun self => self.code rd n c f s) fun p => Q p.1 p.2.1 p.2.2
def Ev (T : Tab) (g : FuncId) (args : List Value) (s : St) (Q : Value → St → Prop) : Prop := Evn T (fun self => self.call g args s) fun p => Q p.1 p.2

theorem Evn.bind {α β : Type} {F : Self → Option α} {G : α → Self → Option β} {Q : β → Prop} (h : Evn T F fun a => Evn T (G a) Q) : Evn T (fun self => ob (F self) fun a => G a self) Q := by
  obtain ⟨m, a, h1, m2, b, h2, h3⟩ := h
  refine ⟨max m m2, b, fun k hk => ?_, h3⟩
  show ob (F (run T k)) (fun a => G a (run T k)) = some b
  rw [h1 k (by omega)]
  exact h2 k (by omega)
theorem Evn.ret {α : Type} {a : α} {Q : α → Prop} (h : Q a) : Evn T (fun _ => some a) Q := ⟨0, a, fun _ _ => rfl, h⟩
theorem Evn.mono {α : Type} {F : Self → Option α} {Q R : α → Prop} (h : Evn T F Q) (k : ∀ a, Q a → R a) : Evn T F R := by
  obtain ⟨m, a, h1, h2⟩ := h; exact ⟨m, a, h1, k a h2⟩
theorem Evn.congr {α : Type} {F G : Self → Option α} {Q : α → Prop} (h : Evn T F Q) (e : ∀ self, G self = F self) : Evn T G Q := by
  obtain ⟨m, a, h1, h2⟩ := h; exact ⟨m, a, fun k hk => (e _).trans (h1 k hk), h2⟩
theorem Evn.by_eq {α : Type} {F G : Self → Option α} {Q : α → Prop} (e : ∀ self, G self = F self) (h : Evn T F Q) : Evn T G Q := h.congr e
theorem Evn.code {rd : Bool} {n : Nat} {c : Code} {f : Fr} {s : St} {Q : Ex × Fr × St → Prop} (h : Evn T (fun self => codeF T self rd n c f s) Q) : Evn T (fun self => self.code rd n c f s) Q := by
  obtain ⟨m, a, h1, h2⟩ := h
  refine ⟨m + 1, a, fun k hk => ?_, h2⟩
  obtain ⟨j, rfl⟩ : ∃ j, k = j + 1 := ⟨k - 1, by omega⟩
  exact h1 j (by omega)
theorem Evn.call {g : FuncId} {args : List Value} {s : St} {Q : Value × St → Prop} (hg : stubHit T g args = false) (h : Evn T (fun self => callF T self g args s) Q) : Evn T (fun self => self.call g args s) Q := by
  obtain ⟨m, a, h1, h2⟩ := h
  refine ⟨m + 1, a, fun k hk => ?_, h2⟩
  obtain ⟨j, rfl⟩ : ∃ j, k = j + 1 := ⟨k - 1, by omega⟩
  show bt (stubHit T g args) _ (callF T (run T j) g args s) = _
  rw [hg]
  exact h1 j (by omega)
theorem Cd.mono {rd : Bool} {n : Nat} {c : Code} {f : Fr} {s : St} {Q R : Ex → Fr → St → Prop} (h : Cd T rd n c f s Q) (k : ∀ e f s, Q e f s → R e f s) : Cd T rd n c f s R := Evn.mono h fun _ => k _ _ _
theorem Ev.mono {g : FuncId} {args : List Value} {s : St} {Q R : Value → St → Prop} (h : Ev T g args s Q) (k : ∀ v s, Q v s → R v s) : Ev T g args s R := Evn.mono h fun _ => k _ _

/-! ### Code -/
def SeqK (T : Tab) (rd : Bool) (n : Nat) (b : Code) (Q : Ex → Fr → St → Prop) : Ex → Fr → St → Prop
  | .normal, f, s => Cd T rd n b f s Q
  | .exit i, f, s => Q (.exit i) f s
  | .goto l, f, s => Q (.goto l) f s
  | .ret, f, s => Q .ret f s
def BlockK (id : Nat) (Q : Ex → Fr → St → Prop) : Ex → Fr → St → Prop
  | .normal, f, s => Q .normal f s
  | .exit j, f, s => if j = id then Q .normal f s else Q (.exit j) f s
  | .goto l, f, s => Q (.goto l) f s
  | .ret, f, s => Q .ret f s
variable {rd : Bool} {n : Nat} {f : Fr} {s : St} {Q : Ex → Fr → St → Prop}
theorem cSeq_k {b : Code} {F : Self → Option (Ex × Fr × St)} (h : Evn T F fun p => SeqK T rd n b Q p.1 p.2.1 p.2.2) : Evn T (fun self => cSeq self rd n b (F self)) fun p => Q p.1 p.2.1 p.2.2 := by
  refine Evn.bind (G := fun p self => Ex.rec (motive := fun _ => Option (Ex × Fr × St)) (self.code rd n b p.2.1 p.2.2) (fun _ => some p) (fun _ => some p) (some p) p.1) (h.mono fun p hp => ?_)
  obtain ⟨e, f, s⟩ := p
  cases e with
  | normal => exact hp
  | exit i => exact Evn.ret hp
  | goto i => exact Evn.ret hp
  | ret => exact Evn.ret hp
theorem Cd.seq {a b : Code} (h : Cd T rd n a f s (SeqK T rd n b Q)) : Cd T rd n (.seq a b) f s Q := Evn.code (cSeq_k h)
theorem Cd.loop {c : Code} (h : Cd T rd n c f s (SeqK T rd n (.loop c) Q)) : Cd T rd n (.loop c) f s Q := Evn.code (cSeq_k h)
theorem Cd.skip (h : Q .normal f s) : Cd T rd n .skip f s Q := Evn.code (Evn.ret (a := (Ex.normal, f, s)) h)
theorem Cd.label {l : Nat} (h : Q .normal f s) : Cd T rd n (.label l) f s Q := Evn.code (Evn.ret (a := (Ex.normal, f, s)) h)
theorem Cd.exit {id : Nat} (h : Q (.exit id) f s) : Cd T rd n (.exit id) f s Q := Evn.code (Evn.ret (a := (Ex.exit id, f, s)) h)
theorem Cd.goto {id : Nat} (h : Q (.goto id) f s) : Cd T rd n (.goto id) f s Q := Evn.code (Evn.ret (a := (Ex.goto id, f, s)) h)
theorem Cd.ret (h : Q .ret f s) : Cd T rd n .ret f s Q := Evn.code (Evn.ret (a := (Ex.ret, f, s)) h)
theorem Cd.cond {o : Operand} {a b : Code} (x : Bool) (hc : constOk o = true) (hx : f.eval o = .bool x) (h1 : x = true → Cd T rd n a f s Q) (h2 : x = false → Cd T rd n b f s Q) : Cd T rd n (.cond o a b) f s Q := by
  refine Evn.code (Evn.congr (F := fun self => self.code rd n (bt x a b) f s) ?_ fun self => ?_)
  · cases x with
    | true => exact h1 rfl
    | false => exact h2 rfl
  · show gd (constOk o) (cCond self rd n (f.eval o) a b f s) = _
    rw [hc, hx]; rfl
theorem Cd.block {id : Nat} {c : Code} (h : Cd T rd n c f s (BlockK id Q)) : Cd T rd n (.block id c) f s Q := by
  refine Evn.code ?_
  show Evn T (fun self => cBlock id (self.code rd n c f s)) _
  refine Evn.bind (G := fun p _ => Ex.rec (motive := fun _ => Option (Ex × Fr × St)) (some p) (fun j => bt (Nat.beq j id) (some (.normal, p.2)) (some p)) (fun _ => some p) (some p) p.1) (Evn.mono h fun p hp => ?_)
  obtain ⟨e, f, s⟩ := p
  cases e with
  | normal => exact Evn.ret (a := (Ex.normal, f, s)) hp
  | exit j =>
    change (if j = id then Q .normal f s else Q (.exit j) f s) at hp
    by_cases e : j = id
    · rw [if_pos e] at hp; subst e
      refine Evn.congr (Evn.ret (a := (Ex.normal, f, s)) hp) fun _ => ?_
      show bt (Nat.beq j j) _ _ = _
      simp [bt]
    · rw [if_neg e] at hp
      refine Evn.congr (Evn.ret (a := (Ex.exit j, f, s)) hp) fun _ => ?_
      show bt (Nat.beq j id) _ _ = _
      rw [show Nat.beq j id = false by cases hb : Nat.beq j id with | false => rfl | true => exact absurd (Nat.eq_of_beq_eq_true hb) e]; rfl
  | goto l => exact Evn.ret (a := (Ex.goto l, f, s)) hp
  | ret => exact Evn.ret (a := (Ex.ret, f, s)) hp
/-! ### Straight code -/
/-- An operation without what only orders and places say of it. -/
structure SOp where
  d : Option Tmp
  op : Op
  g : Option (Nat × Bool)
def strip (o : Oper) : SOp := ⟨o.dst, o.op, o.guard⟩
noncomputable def compOp (T : Tab) (op : Op) : Option CAct := comp T ⟨none, op, 0, "", #[], none⟩
theorem compOp_eq (o : Oper) : comp T o = compOp T o.op := rfl
/-- An operation, done. -/
noncomputable def actO (T : Tab) (self : Self) (op : Op) (f : Fr) (s : St) : Option (Value × St) := ob (compOp T op) fun a => actF self a f s
noncomputable def guardV (b : Bool) (v : Value) : Bool := Option.rec (motive := fun _ => Bool) false (fun x => bt x b (bt b false true)) (boolOf v)
noncomputable def guardO (b : Bool) (f : Fr) : Option (Option Tmp) → Bool
  | some (some t) => guardV b (f.get t)
  | _ => false
noncomputable def wantS (ds : List (Option Tmp)) (f : Fr) : Option (Nat × Bool) → Bool
  | none => true
  | some (j, b) => guardO b f ds[j]?
noncomputable def stepsF (T : Tab) (self : Self) (ds : List (Option Tmp)) : List SOp → Fr → St → Option (Fr × St)
  | [], f, s => some (f, s)
  | ⟨d, op, g⟩ :: l, f, s => ob (bt (wantS ds f g) (actO T self op f s) (some (undef, s))) fun p => stepsF T self ds l (f.put d p.1) p.2
theorem wantS_eq {all : List Oper} {o : Oper} {g : Option (Tmp × Bool)} (h : guardOf all o = some g) (f : Fr) : wantS (all.map (·.dst)) f o.guard = wantedF g f := by
  unfold guardOf at h
  cases hg : o.guard with
  | none => rw [hg] at h; cases h; rfl
  | some p =>
    rw [hg] at h
    obtain ⟨oj, h1, h2⟩ := ob_eq h
    obtain ⟨t, h3, h4⟩ := ob_eq h2
    cases h4
    rw [nthL_eq] at h1
    show guardO p.2 f (all.map (·.dst))[p.1]? = _
    rw [List.getElem?_map, h1]
    show guardO p.2 f (some oj.dst) = _
    rw [h3]; rfl
theorem opsF_steps {self : Self} {all : List Oper} {n : Nat} : ∀ {l : List Oper} {L : List COp}, compOps T n all l = some L → ∀ f s, opsF self L f s = stepsF T self (all.map (·.dst)) (l.map strip) f s
  | [], _, h, f, s => by cases h; rfl
  | o :: l, _, h, f, s => by
    obtain ⟨_, h1⟩ := gd_eq h
    obtain ⟨g, h2, h3⟩ := ob_eq h1
    obtain ⟨a, h4, h5⟩ := ob_eq h3
    obtain ⟨r, h6, h7⟩ := ob_eq h5
    cases h7
    show ob (bt (wantedF g f) (actF self a f s) (some (undef, s))) (fun p => opsF self r (f.put o.dst p.1) p.2) = ob (bt (wantS (all.map (·.dst)) f o.guard) (ob (compOp T o.op) fun a => actF self a f s) (some (undef, s))) fun p => stepsF T self (all.map (·.dst)) (l.map strip) (f.put o.dst p.1) p.2
    rw [wantS_eq h2, ← compOp_eq, h4]
    show ob (bt (wantedF g f) (actF self a f s) (some (undef, s))) _ = ob (bt (wantedF g f) (actF self a f s) (some (undef, s))) _
    congr 1
    funext p
    exact opsF_steps h6 _ _
noncomputable def okOps (T : Tab) (n : Nat) (ops : Array Oper) : Bool := (compOps T n ops.toList ops.toList).isSome
theorem Cd.region {id : Nat} {ops : Array Oper} {ds : List (Option Tmp)} {L : List SOp} (hc : okOps T n ops = true) (hd : ops.toList.map (·.dst) = ds) (hl : ops.toList.map strip = L) (h : Evn T (fun self => stepsF T self ds L f s) fun p => Q .normal p.1 p.2) : Cd T rd n (.region id ops false) f s Q := by
  subst hd; subst hl
  unfold okOps at hc
  obtain ⟨L, hL⟩ := Option.isSome_iff_exists.1 hc
  refine Evn.code ?_
  obtain ⟨m, p, h1, h2⟩ := h
  refine ⟨m, (.normal, p), fun k hk => ?_, h2⟩
  show ob (compOps T n ops.toList ops.toList) (fun l => ob (opsF (run T k) l f s) fun p => some (Ex.normal, p)) = _
  rw [hL]
  show ob (opsF (run T k) L f s) (fun p => some (Ex.normal, p)) = _
  rw [opsF_steps hL, show stepsF T (run T k) (ops.toList.map (·.dst)) (ops.toList.map strip) f s = some p from h1 k hk]
  rfl

/-! ### Calls -/
noncomputable def fr0 (args : List Value) : Fr := ⟨Tree.ofList args 0 .leaf, []⟩
theorem Fr.get_put' (f : Fr) (d t : Nat) (v : Value) : (f.put (some d) v).get t = if t = d then v else f.get t := by
  show Option.rec (motive := fun _ => Value) undef (fun v => v) ((f.tmps.set v (d + 1) d).get t) = _
  rw [Tree.get_setN]
  split <;> rfl
theorem Fr.put_none (f : Fr) (v : Value) : f.put none v = f := rfl
theorem Fr.marks_put (f : Fr) (d : Option Tmp) (v : Value) : (f.put d v).marks = f.marks := by cases d <;> rfl
def Leave (T : Tab) (rs : List ResultVar) (Q : Value → St → Prop) (e : Ex) (f : Fr) (s : St) : Prop :=
  (e = .normal ∨ e = .ret) ∧ ∃ s', leaveF f.marks s = some s' ∧ ∃ vs, resF T f s' rs = some vs ∧ Q (tupled vs) s'
theorem Ev.intro {g : FuncId} {args : List Value} {s : St} {Q : Value → St → Prop} {fn : Func} {c : Code} (h0 : stubHit T g args = false) (h1 : T.funcs.get g = some fn) (h2 : fn.body = some c)
    (h3 : (Nat.ble (lenL args) fn.ntmps && Nat.blt fn.ntmps top && Nat.blt (lenL args) top) = true) (h : Cd T false fn.ntmps c (fr0 args) s (Leave T fn.results.toList Q)) : Ev T g args s Q := by
  refine Evn.call h0 ?_
  obtain ⟨m, p, k1, k2⟩ := h
  obtain ⟨e, f, s1⟩ := p
  obtain ⟨he, s2, hm, vs, hv, hq⟩ := k2
  refine ⟨m, (tupled vs, s2), fun k hk => ?_, hq⟩
  show ob (T.funcs.get g) _ = _
  rw [h1]
  show ob fn.body _ = _
  rw [h2]
  show gd _ (ob ((run T k).code false fn.ntmps c (fr0 args) s) _) = _
  rw [h3, show (run T k).code false fn.ntmps c (fr0 args) s = some (e, f, s1) from k1 k hk]
  show gd (leaves e) (ob (leaveF f.marks s1) _) = _
  rw [show leaveF f.marks s1 = some s2 from hm]
  have hl : leaves e = true := by rcases he with rfl | rfl <;> rfl
  rw [hl]
  show ob (resF T f s2 fn.results.toList) _ = _
  rw [show resF T f s2 fn.results.toList = some vs from hv]
  rfl
end

/-! ### Memory -/
noncomputable def St.pushed (s : St) (o : AObj) : St := ⟨s.heap.set o (s.next + 1) s.next, s.next + 1⟩
noncomputable def St.upded (s : St) (i : Nat) (o : AObj) : St := ⟨s.heap.set o (i + 1) i, s.next⟩
theorem get_pushed (s : St) (o : AObj) (i : Nat) : (s.pushed o).heap.get i = if i = s.next then some o else s.heap.get i := Tree.get_setN _ _ _ _
theorem get_pushed_new (s : St) (o : AObj) : (s.pushed o).heap.get s.next = some o := by rw [get_pushed, if_pos rfl]
theorem get_pushed_old (s : St) (o : AObj) (i : Nat) (h : i ≠ s.next) : (s.pushed o).heap.get i = s.heap.get i := by rw [get_pushed, if_neg h]
theorem get_upded_same (s : St) (i : Nat) (o : AObj) : (s.upded i o).heap.get i = some o := by rw [St.upded, Tree.get_setN, if_pos rfl]
theorem get_upded_other (s : St) (i j : Nat) (o : AObj) (h : j ≠ i) : (s.upded i o).heap.get j = s.heap.get j := by rw [St.upded, Tree.get_setN, if_neg h]
/-- What was there is as it was. -/
def Keep (s s' : St) : Prop := s.next ≤ s'.next ∧ ∀ i, i < s.next → s'.heap.get i = s.heap.get i
theorem Keep.refl (s : St) : Keep s s := ⟨Nat.le_refl _, fun _ _ => rfl⟩
theorem Keep.trans {a b c : St} (h : Keep a b) (k : Keep b c) : Keep a c := ⟨Nat.le_trans h.1 k.1, fun i hi => (k.2 i (Nat.lt_of_lt_of_le hi h.1)).trans (h.2 i hi)⟩
theorem Keep.pushed {a b : St} (h : Keep a b) (o : AObj) : Keep a (b.pushed o) := ⟨Nat.le_succ_of_le h.1, fun i hi => by rw [get_pushed_old _ _ _ (by have := h.1; omega)]; exact h.2 i hi⟩
theorem Keep.upded {a b : St} (h : Keep a b) {j : Nat} (hj : a.next ≤ j) (o : AObj) : Keep a (b.upded j o) := ⟨h.1, fun i hi => by rw [get_upded_other _ _ _ _ (by omega)]; exact h.2 i hi⟩
end Go.Proofs.Ytnhokodcmeekhaa.Kern
namespace Go.Proofs.Ytnhokodcmeekhaa.Kern
open Go

/-! ## What single operations do, as equations -/
section
variable {T : Tab} {self : Self} {f : Fr} {s : St}
theorem gd_iff {α : Type} {b : Bool} (h : b = true) (x : Option α) : gd b x = x := by subst h; rfl
theorem ob_assoc {α β γ : Type} (x : Option α) (k : α → Option β) (l : β → Option γ) : ob (ob x k) l = ob x fun a => ob (k a) l := by cases x <;> rfl
theorem ob_gd {α β : Type} (b : Bool) (x : Option α) (k : α → Option β) : ob (gd b x) k = gd b (ob x k) := by cases b <;> rfl
theorem steps_nil (ds : List (Option Tmp)) : stepsF T self ds [] f s = some (f, s) := rfl
theorem steps_plain (ds : List (Option Tmp)) (l : List SOp) (d : Option Tmp) (op : Op) : stepsF T self ds (⟨d, op, none⟩ :: l) f s = ob (actO T self op f s) fun p => stepsF T self ds l (f.put d p.1) p.2 := rfl
theorem steps_guard (ds : List (Option Tmp)) (l : List SOp) (d : Option Tmp) (op : Op) (j : Nat) (b : Bool) : stepsF T self ds (⟨d, op, some (j, b)⟩ :: l) f s =
    ob (bt (guardO b f ds[j]?) (actO T self op f s) (some (undef, s))) fun p => stepsF T self ds l (f.put d p.1) p.2 := rfl
theorem guardO_some (b : Bool) (t : Tmp) : guardO b f (some (some t)) = guardV b (f.get t) := rfl
@[simp] theorem guardV_undef (b : Bool) : guardV b undef = false := rfl
theorem guardV_true (x : Bool) : guardV true (.bool x) = x := by cases x <;> rfl
theorem guardV_false (x : Bool) : guardV false (.bool x) = !x := by cases x <;> rfl
theorem eval_tmp (t : Tmp) : f.eval (.tmp t) = f.get t := rfl
theorem eval_const (v : Value) : f.eval (.const v) = v := rfl
theorem eval_func (g : FuncId) : f.eval (.func g) = .func (.func g) #[] #[] := rfl
noncomputable def pureR (x : Option Value) (s : St) : Option (Value × St) := ob x fun v => some (v, s)
theorem pureR_some (v : Value) : pureR (some v) s = some (v, s) := rfl
theorem ob_pureR {β : Type} (x : Option Value) (k : Value × St → Option β) : ob (pureR x s) k = ob x fun v => k (v, s) := by cases x <;> rfl
theorem act_move (x : Operand) : actO T self (.move x) f s = some (f.eval x, s) := rfl
theorem act_assign (x : Operand) : actO T self (.assign x) f s = some (f.eval x, s) := rfl
theorem act_pick (c a b : Operand) : actO T self (.pick c a b) f s = pureR (vPick c a b f.eval s.heap) s := rfl
theorem act_alloc (t : TypeId) : actO T self (.alloc t) f s = ob (T.zero t) fun z => exNew s (.cells z.cells.toList none) ptrTo := by
  show ob (ob (T.zero t) _) _ = _; cases T.zero t <;> rfl
theorem act_box (t : TypeId) (x : Operand) : actO T self (.box t x) f s = exNew s (.cells (f.eval x).cells.toList none) ptrTo := rfl
theorem act_load (t : TypeId) (a : Operand) : actO T self (.load t a) f s = ob (aggN T t) fun m => pureR (vLoad m a f.eval s.heap) s := by
  show ob (ob (aggN T t) _) _ = _; cases aggN T t <;> rfl
theorem act_store (t : TypeId) (a x : Operand) : actO T self (.store t a x) f s = ob (T.size t) fun n => eStore n a x self f.eval s := by
  show ob (ob (T.size t) _) _ = _; cases T.size t <;> rfl
theorem act_bin (op : BinOp) (t u : TypeId) (x y : Operand) : actO T self (.binOp op t x y u) f s = ob (T.und t) fun dd => pureR (binV T dd t (T.prog.keyTypeAt 20 t && !T.prog.eqGuardType T.prog.depth t) op x y f.eval s.heap) s := by
  show ob (ob (T.und t) _) _ = _; cases T.und t <;> rfl
theorem act_un (op : UnOp) (t : TypeId) (x : Operand) : actO T self (.unOp op t x) f s = pureR (unV op (f.eval x)) s := rfl
theorem act_convert (a b : TypeId) (x : Operand) {k : IntKind} (h1 : (T.und a).isSome = true) (h2 : T.und b = some (.int k)) : actO T self (.convert a b x) f s = pureR (vConv k x f.eval s.heap) s := by
  obtain ⟨u, hu⟩ := Option.isSome_iff_exists.1 h1
  show ob (ob (T.und a) fun _ => ob (T.und b) _) _ = _
  rw [hu, h2]; rfl
theorem act_fieldAddr (t : TypeId) (x : Operand) (i : Nat) {fs : Array Field} {fd : Field} {m : Nat} (h1 : T.und t = some (.struct fs)) (h2 : nthL i fs.toList = some fd) (h3 : T.size fd.type = some m) (h4 : Nat.blt 0 m = true) :
    actO T self (.fieldAddr t x i) f s = pureR (vFieldAddr fd.offset x f.eval s.heap) s := by
  show ob (ob (T.und t) _) _ = _
  rw [h1]
  show ob (ob (nthL i fs.toList) _) _ = _
  rw [h2]
  show ob (ob (T.size fd.type) _) _ = _
  rw [h3]
  show ob (gd (Nat.blt 0 m) _) _ = _
  rw [h4]; rfl
theorem act_indexAddrS (t : TypeId) (x i : Operand) {e : TypeId} {n : Nat} (h1 : T.und t = some (.slice e)) (h2 : T.size e = some n) :
    actO T self (.indexAddr t x i) f s = pureR (vIndexAddrS n x i f.eval s.heap) s := by
  show ob (ob (T.und t) _) _ = _
  rw [h1]
  show ob (ob (T.size e) _) _ = _
  rw [h2]; rfl
theorem act_indexAddrA (t : TypeId) (x i : Operand) {e : TypeId} {n len : Nat} (h1 : T.und t = some (.array len e)) (h2 : T.size e = some n) :
    actO T self (.indexAddr t x i) f s = pureR (vIndexAddrA len n x i f.eval s.heap) s := by
  show ob (ob (T.und t) _) _ = _
  rw [h1]
  show ob (ob (T.size e) _) _ = _
  rw [h2]; rfl
theorem act_extract (t : Operand) (i : Nat) : actO T self (.extract t i) f s = pureR (vExtract t i f.eval s.heap) s := rfl
theorem act_nilCheck (x : Operand) : actO T self (.nilCheck x) f s = pureR (vNil x f.eval s.heap) s := rfl
theorem act_makeFunc (fn : FuncId) (first captured : Array Operand) : actO T self (.makeFunc (.func fn) first captured) f s = some (.func (.func fn) ⟨mapL f.eval first.toList⟩ ⟨mapL f.eval captured.toList⟩, s) := rfl
theorem act_makeMap (t : TypeId) : actO T self (.makeMap t none) f s = exNew s (.map [] 0) fun i => .map (some i) := rfl
theorem act_call (fo : Operand) (args : Array Operand) (tys : Array TypeId) : actO T self (.call ⟨.value fo, args, tys⟩) f s = callV self (f.eval fo) (mapL f.eval args.toList) s := rfl
theorem callV_func (g : FuncId) (first captured : Array Value) (args : List Value) : callV self (.func (.func g) first captured) args s = self.call g (first.toList ++ args ++ captured.toList) s := rfl
theorem act_lenSl (x : Operand) {t e : TypeId} (h : T.und t = some (.slice e)) : actO T self (.call ⟨.builtin .len, #[x], #[t]⟩) f s = pureR (vLenSl x f.eval s.heap) s := by
  show ob (ob (T.und t) _) _ = _
  rw [h]; rfl
theorem act_append (x y : Operand) {t t1 e e1 : TypeId} {n b : Nat} {z : Value} (h1 : T.und t = some (.slice e)) (h2 : T.und t1 = some (.slice e1)) (h3 : T.size e = some n) (h4 : T.bytes e = some b) (h5 : T.zero e = some z)
    (h6 : (Nat.ble b 1048576 && Nat.beq (lenL z.cells.toList) n) = true) : actO T self (.call ⟨.builtin .append, #[x, y], #[t, t1]⟩) f s = eAppend n x y self f.eval s := by
  show ob (ob (T.und t) fun d => ob (T.und t1) _) _ = _
  rw [h1, h2]
  show ob (ob (T.size e) fun n => ob (T.bytes e) fun by' => ob (T.zero e) _) _ = _
  rw [h3, h4, h5]
  show ob (gd _ _) _ = _
  rw [h6]; rfl
theorem act_makeSlice (t : TypeId) (l c : Operand) {e : TypeId} {n b : Nat} {z : Value} (h1 : T.und t = some (.slice e)) (h3 : T.size e = some n) (h4 : T.bytes e = some b) (h5 : T.zero e = some z)
    (h6 : (Nat.beq (lenL z.cells.toList) n && Nat.ble b 1048576) = true) : actO T self (.makeSlice t l c) f s = ob (eMakeSl z.cells.toList n l c f.eval) fun p => exNew s p.1 p.2 := by
  show ob (ob (T.und t) _) _ = _
  rw [h1]
  show ob (ob (T.size e) fun n => ob (T.zero e) fun z => ob (T.bytes e) _) _ = _
  rw [h3, h4, h5]
  show ob (gd _ _) _ = _
  rw [h6]; rfl
theorem act_buildS (t : TypeId) (pl0 : Array (Nat × Operand)) {z : Value} {fs : Array Field} {pl : List (Nat × Nat)} (h1 : T.zero t = some z) (h2 : T.und t = some (.struct fs)) (h3 : fieldPlaces T fs.toList = some pl) :
    actO T self (.build t pl0) f s = ob (placesS pl pl0.toList) fun l => pureR (aggV (fillL f.eval l z.cells.toList)) s := by
  show ob (ob (T.zero t) fun z => ob (T.und t) _) _ = _
  rw [h1, h2]
  show ob (ob (fieldPlaces T fs.toList) _) _ = _
  rw [h3]
  show ob (ob (placesS pl pl0.toList) _) _ = _
  cases placesS pl pl0.toList <;> rfl
theorem act_buildSlice (t : TypeId) (len : Nat) (pl0 : Array (Nat × Operand)) {z : Value} {e : TypeId} {n : Nat} (h1 : T.und t = some (.slice e)) (h2 : T.size e = some n) (h3 : T.zero e = some z) (h4 : (Nat.beq (lenL z.cells.toList) n && Nat.ble (len * n) 16777216) = true) :
    actO T self (.buildSlice t len pl0) f s = ob (fillL f.eval (placesA n pl0.toList) (repeatL z.cells.toList len)) fun c => exNew s (.cells c none) fun i => .slice (some ⟨i, 0, none⟩) len len := by
  show ob (ob (T.und t) _) _ = _
  rw [h1]
  show ob (ob (T.size e) fun n => ob (T.zero e) _) _ = _
  rw [h2, h3]
  show ob (gd _ _) _ = _
  rw [h4]
  show ob (ob (fillL f.eval (placesA n pl0.toList) (repeatL z.cells.toList len)) fun c => some (AObj.cells c none, fun i => Value.slice (some ⟨i, 0, none⟩) len len)) (fun p => exNew s p.1 p.2) = _
  cases fillL f.eval (placesA n pl0.toList) (repeatL z.cells.toList len) <;> rfl
end
end Go.Proofs.Ytnhokodcmeekhaa.Kern
namespace Go.Proofs.Ytnhokodcmeekhaa.Kern
open Go

/-! ## Values, memory and numbers, as equations -/
@[congr] theorem ob_congr {α β : Type} {x y : Option α} {k : α → Option β} (h : x = y) : ob x k = ob y k := by rw [h]
@[congr] theorem gd_congr {α : Type} {b c : Bool} {x : Option α} (h : b = c) : gd b x = gd c x := by rw [h]
@[congr] theorem bt_congr {α : Type} {b c : Bool} {x y : α} (h : b = c) : bt b x y = bt c x y := by rw [h]
attribute [simp] steps_nil steps_plain steps_guard guardO_some guardV_true guardV_false List.getElem?_cons_zero eval_tmp eval_const eval_func ob_some ob_none gd_true bt_true bt_false pureR_some ob_pureR act_move act_assign act_pick act_box act_un act_extract act_nilCheck act_makeFunc act_makeMap act_call callV_func Fr.get_put' Fr.put_none Fr.marks_put ob_assoc ob_gd
section
variable {ρ : Env} {H : Tree AObj} {self : Self} {s : St}
@[simp] theorem fr0_get' {args : List Value} {t : Nat} : (fr0 args).get t = (args[t]?).getD undef := by
  show Option.rec (motive := fun _ => Value) undef (fun v => v) ((Tree.ofList args 0 .leaf).get t) = _
  rw [Tree.get_ofList args 0 .leaf t]
  by_cases hi : t < args.length
  · rw [if_pos (by omega)]; simp [hi]
  · rw [if_neg (by omega), Tree.get_leaf, List.getElem?_eq_none (by omega)]; rfl
@[simp] theorem ptrTo_def (i : Nat) : ptrTo i = .pointer (some ⟨i, 0, none⟩) := rfl
@[simp] theorem cells_agg (a : Array Value) : (Value.agg a).cells = a := rfl
@[simp] theorem cells_int (k : IntKind) (a : Int) : (Value.int k a).cells = #[.int k a] := rfl
@[simp] theorem cells_bool (a : Bool) : (Value.bool a).cells = #[.bool a] := rfl
@[simp] theorem cells_string (a : ByteArray) : (Value.string a).cells = #[.string a] := rfl
@[simp] theorem cells_slice (a : Option Addr) (l c : Nat) : (Value.slice a l c).cells = #[.slice a l c] := rfl
@[simp] theorem cells_map (a : Option Nat) : (Value.map a).cells = #[.map a] := rfl
@[simp] theorem cells_pointer (a : Option Addr) : (Value.pointer a).cells = #[.pointer a] := rfl
@[simp] theorem cells_func (fn : Fn) (p q : Array Value) : (Value.func fn p q).cells = #[.func fn p q] := rfl
@[simp] theorem oneV_int (k : IntKind) (a : Int) : oneV (.int k a) = true := rfl
@[simp] theorem oneV_bool (a : Bool) : oneV (.bool a) = true := rfl
@[simp] theorem oneV_string (a : ByteArray) : oneV (.string a) = true := rfl
@[simp] theorem oneV_slice (a : Option Addr) (l c : Nat) : oneV (.slice a l c) = true := rfl
@[simp] theorem oneV_map (a : Option Nat) : oneV (.map a) = true := rfl
@[simp] theorem oneV_pointer (a : Option Addr) : oneV (.pointer a) = true := rfl
@[simp] theorem oneV_func (fn : Fn) (p q : Array Value) : oneV (.func fn p q) = true := rfl
@[simp] theorem fr0_marks (args : List Value) : (fr0 args).marks = [] := rfl
@[simp] theorem addrOf_ptr (i o : Nat) : addrOf (.pointer (some ⟨i, o, none⟩)) = some (i, o) := rfl
@[simp] theorem cellsAt_def (i : Nat) : cellsAt H i = ob (H.get i) cellsOf := rfl
@[simp] theorem cellsOf_cells (c : List Value) (g : Option Nat) : cellsOf (.cells c g) = some (c, g) := rfl
@[simp] theorem cellsOf_rom (c : List Value) : cellsOf (.rom c) = some (c, none) := rfl
@[simp] theorem pushed_next' (s : St) (o : AObj) : (s.pushed o).next = s.next + 1 := rfl
@[simp] theorem upded_next' (s : St) (i : Nat) (o : AObj) : (s.upded i o).next = s.next := rfl
@[simp] theorem get_pushed' (s : St) (o : AObj) (i : Nat) : (s.pushed o).heap.get i = if i = s.next then some o else s.heap.get i := get_pushed s o i
@[simp] theorem get_upded' (s : St) (i j : Nat) (o : AObj) : (s.upded i o).heap.get j = if j = i then some o else s.heap.get j := by
  rw [St.upded, Tree.get_setN]
@[simp] theorem if_ne_old {α : Type} {i j : Nat} {x y : α} (h : i ≠ j) : (if i = j then x else y) = y := if_neg h
@[simp] theorem exNew_cells (c : List Value) (g : Option Nat) (m : Nat → Value) : exNew s (.cells c g) m = some (m s.next, s.pushed (.cells c g)) := rfl
@[simp] theorem exNew_map (c : List (Value × Value × Nat)) (g : Nat) (m : Nat → Value) : exNew s (.map c g) m = some (m s.next, s.pushed (.map c g)) := rfl
noncomputable def romO : Option AObj → Bool
  | some o => isRom o
  | none => false
theorem romAt_romO (i : Nat) : romAt H i = romO (H.get i) := by unfold romAt; cases H.get i <;> rfl
@[simp] theorem romO_cells (c : List Value) (g : Option Nat) : romO (some (.cells c g)) = false := rfl
@[simp] theorem romO_map (c : List (Value × Value × Nat)) (g : Nat) : romO (some (.map c g)) = false := rfl
@[simp] theorem exUpd_cells (i : Nat) (c : List Value) (g : Option Nat) : exUpd s i (.cells c g) = gd (!romO (s.heap.get i)) (some (undef, s.upded i (.cells c g))) := by
  show ob (gd (bt (romAt s.heap i) false true) _) _ = _
  rw [romAt_romO]
  cases romO (s.heap.get i) <;> rfl
@[simp] theorem exUpd_map (i : Nat) (c : List (Value × Value × Nat)) (g : Nat) : exUpd s i (.map c g) = gd (!romO (s.heap.get i)) (some (undef, s.upded i (.map c g))) := by
  show ob (gd (bt (romAt s.heap i) false true) _) _ = _
  rw [romAt_romO]
  cases romO (s.heap.get i) <;> rfl
@[simp] theorem upd_cells' (i : Nat) (c : List Value) (g : Option Nat) : s.upd i (.cells c g) = gd (!romO (s.heap.get i)) (some (s.upded i (.cells c g))) := by
  show gd (bt (romAt s.heap i) false true) _ = _
  rw [romAt_romO]
  cases romO (s.heap.get i) <;> rfl
@[simp] theorem partN_one (cs : List Value) (off : Nat) : partN cs off none = cs[off]? := nthL_eq cs off
@[simp] theorem partN_agg (cs : List Value) (off n : Nat) : partN cs off (some n) = aggV (takeL n (cs.drop off)) := by show aggV (takeL n (dropL off cs)) = _; rw [dropL_eq]
@[simp] theorem takeL_zero {α : Type} (l : List α) : takeL 0 l = some [] := rfl
@[simp] theorem takeL_succ {α : Type} (n : Nat) (x : α) (l : List α) : takeL (n + 1) (x :: l) = ob (takeL n l) fun l => some (x :: l) := rfl
@[simp] theorem aggV_some (c : List Value) : aggV (some c) = some (.agg c.toArray) := rfl
@[simp] theorem overL_nil {α : Type} (l : List α) : overL [] l = some l := rfl
@[simp] theorem overL_cons {α : Type} (v x : α) (vs l : List α) : overL (v :: vs) (x :: l) = ob (overL vs l) fun l => some (v :: l) := rfl
@[simp] theorem putL_zero {α : Type} (vs l : List α) : putL 0 vs l = overL vs l := rfl
@[simp] theorem putL_succ {α : Type} (n : Nat) (vs : List α) (x : α) (l : List α) : putL (n + 1) vs (x :: l) = ob (putL n vs l) fun l => some (x :: l) := rfl
@[simp] theorem vLoad_def (m : Option Nat) (a : Operand) : vLoad m a ρ H = ob (addrOf (ρ a)) fun p => ob (cellsAt H p.1) fun c => partN c.1 p.2 m := rfl
@[simp] theorem vFieldAddr_def (d : Nat) (x : Operand) : vFieldAddr d x ρ H = ob (addrOf (ρ x)) fun p => some (.pointer (some ⟨p.1, p.2 + d, none⟩)) := rfl
noncomputable def fieldV (off : Nat) (m : Option Nat) : Value → Option Value
  | .agg cs => partN cs.toList off m
  | _ => none
@[simp] theorem vField_def (off : Nat) (m : Option Nat) (x : Operand) : vField off m x ρ H = fieldV off m (ρ x) := by
  unfold vField fieldV; cases ρ x <;> rfl
@[simp] theorem fieldV_agg (off : Nat) (m : Option Nat) (cs : Array Value) : fieldV off m (.agg cs) = partN cs.toList off m := rfl
@[simp] theorem natOf_cast (k : IntKind) (n : Nat) : natOf (.int k (n : Int)) = some n := rfl
@[simp] theorem natOf_lit (k : IntKind) (n : Nat) : natOf (.int k (no_index (OfNat.ofNat n))) = some (OfNat.ofNat n) := rfl
@[simp] theorem gd_blt {α : Type} {a b : Nat} (h : a < b) (x : Option α) : gd (Nat.blt a b) x = x := gd_iff (by rw [Nat.blt_eq]; exact h) x
@[simp] theorem gd_ble {α : Type} {a b : Nat} (h : a ≤ b) (x : Option α) : gd (Nat.ble a b) x = x := gd_iff (by simpa using h) x
@[simp] theorem gd_beq {α : Type} {a b : Nat} (h : a = b) (x : Option α) : gd (Nat.beq a b) x = x := gd_iff (by subst h; simp) x
@[simp] theorem gd_and {α : Type} (a b : Bool) (x : Option α) : gd (a && b) x = gd a (gd b x) := by cases a <;> rfl
@[simp] theorem sliceOf_slice (a : Option Addr) (l c : Nat) : sliceOf (.slice a l c) = some (a, l, c) := rfl
@[simp] theorem vIndexAddrA_def (len n : Nat) (x i : Operand) : vIndexAddrA len n x i ρ H = ob (natOf (ρ i)) fun j => gd (Nat.blt j len) (ob (addrOf (ρ x)) fun p => some (.pointer (some ⟨p.1, p.2 + j * n, none⟩))) := rfl
@[simp] theorem vIndexAddrS_def (n : Nat) (x i : Operand) : vIndexAddrS n x i ρ H = ob (natOf (ρ i)) fun j => ob (sliceOf (ρ x)) fun q => gd (Nat.blt j q.2.1) (ob (addrOf (.pointer q.1)) fun p => some (.pointer (some ⟨p.1, p.2 + j * n, none⟩))) := rfl
@[simp] theorem vIndexA_def (len n : Nat) (m : Option Nat) (x i : Operand) : vIndexA len n m x i ρ H = ob (natOf (ρ i)) fun j => gd (Nat.blt j len) (fieldV (j * n) m (ρ x)) := by
  unfold vIndexA fieldV; cases ρ x <;> rfl
noncomputable def strAt (j : Nat) : Value → Option Value
  | .string s => ob (nthL j s.data.toList) fun b => some (.int .u8 (.ofNat b.toNat))
  | _ => none
@[simp] theorem vIndexStr_def (x i : Operand) : vIndexStr x i ρ H = ob (natOf (ρ i)) fun j => strAt j (ρ x) := by
  unfold vIndexStr strAt; cases ρ x <;> rfl
@[simp] theorem strAt_string (j : Nat) (b : ByteArray) : strAt j (.string b) = ob b.data.toList[j]? fun b => some (.int .u8 (b.toNat : Int)) := by
  show ob (nthL j b.data.toList) (fun b => some (Value.int .u8 (.ofNat b.toNat))) = _
  rw [nthL_eq]; rfl
noncomputable def lenV : Value → Option Value
  | .string s => some (.int .i64 (s.data.toList.length : Int))
  | _ => none
@[simp] theorem vLenStr_def (x : Operand) : vLenStr x ρ H = lenV (ρ x) := by
  unfold vLenStr lenV; cases ρ x <;> first | rfl | (simp only [lenL_eq]; rfl)
@[simp] theorem lenV_string (b : ByteArray) : lenV (.string b) = some (.int .i64 (b.data.toList.length : Int)) := rfl
@[simp] theorem vLenSl_def (x : Operand) : vLenSl x ρ H = ob (sliceOf (ρ x)) fun q => some (.int .i64 (q.2.1 : Int)) := rfl
noncomputable def pickV (a b : Value) : Value → Option Value
  | .bool x => some (bt x a b)
  | _ => none
@[simp] theorem vPick_def (c a b : Operand) : vPick c a b ρ H = pickV (ρ a) (ρ b) (ρ c) := by
  unfold vPick pickV; cases ρ c <;> rfl
@[simp] theorem pickV_bool (a b : Value) (x : Bool) : pickV a b (.bool x) = some (bt x a b) := rfl
noncomputable def tupV (i : Nat) : Value → Option Value
  | .tuple vs => nthL i vs.toList
  | _ => none
@[simp] theorem vExtract_def (t : Operand) (i : Nat) : vExtract t i ρ H = tupV i (ρ t) := by
  unfold vExtract tupV; cases ρ t <;> rfl
@[simp] theorem tupV_tuple (i : Nat) (vs : Array Value) : tupV i (.tuple vs) = vs.toList[i]? := nthL_eq _ _
@[simp] theorem vConv_def (k : IntKind) (x : Operand) : vConv k x ρ H = ob (intOfV (ρ x)) fun p => some (.int k (wrapF k p.2)) := rfl
@[simp] theorem intOfV_int (k : IntKind) (n : Int) : intOfV (.int k n) = some (k, n) := rfl
noncomputable def onesL : List Value → Bool
  | [] => true
  | v :: l => oneV v && onesL l
theorem onesL_eq : ∀ l : List Value, l.all oneV = onesL l
  | [] => rfl
  | v :: l => by rw [List.all_cons, onesL_eq l]; rfl
@[simp] theorem onesL_nil : onesL [] = true := rfl
@[simp] theorem onesL_cons (v : Value) (l : List Value) : onesL (v :: l) = (oneV v && onesL l) := rfl
@[simp] theorem eStore_def (n : Nat) (a x : Operand) : eStore n a x self ρ s = ob (addrOf (ρ a)) fun p => gd (Nat.beq (ρ x).cells.toList.length n && onesL (ρ x).cells.toList) (ob (cellsAt s.heap p.1) fun c => ob (putL p.2 (ρ x).cells.toList c.1) fun c' => exUpd s p.1 (.cells c' c.2)) := by
  unfold eStore; simp only [lenL_eq, onesL_eq]
@[simp] theorem boolOf_bool (b : Bool) : boolOf (.bool b) = some b := rfl
/-! Numbers -/
noncomputable def binVal (T : Tab) (d : TypeDesc) (t : TypeId) (fl : Bool) (op : BinOp) (x y : Value) : Option Value :=
  Option.rec (motive := fun _ => Option Value) (binV2 T d t fl op x y) (fun p => binI op p.1 p.2 y) (intOfV x)
@[simp] theorem binV_def (T : Tab) (d : TypeDesc) (t : TypeId) (fl : Bool) (op : BinOp) (x y : Operand) : binV T d t fl op x y ρ H = binVal T d t fl op (ρ x) (ρ y) := rfl
@[simp] theorem binVal_int (T : Tab) (d : TypeDesc) (t : TypeId) (fl : Bool) (op : BinOp) (k k' : IntKind) (a b : Int) : binVal T d t fl op (.int k a) (.int k' b) = intOp op k a (k', b) := rfl
@[simp] theorem kindEq_refl (k : IntKind) : kindEq k k = true := by cases k <;> rfl
@[simp] theorem intOp_add (k : IntKind) (a b : Int) : intOp .add k a (k, b) = some (.int k (wrapF k (a + b))) := by show gd (kindEq k k) _ = _; rw [kindEq_refl]; rfl
@[simp] theorem intOp_sub (k : IntKind) (a b : Int) : intOp .sub k a (k, b) = some (.int k (wrapF k (a - b))) := by show gd (kindEq k k) _ = _; rw [kindEq_refl]; rfl
@[simp] theorem intOp_mul (k : IntKind) (a b : Int) : intOp .mul k a (k, b) = some (.int k (wrapF k (a * b))) := by show gd (kindEq k k) _ = _; rw [kindEq_refl]; rfl
@[simp] theorem intOp_eql (k : IntKind) (a b : Int) : intOp .eql k a (k, b) = some (.bool (decide (a = b))) := by
  show gd (kindEq k k) (some (Value.bool (intEq a b))) = _
  rw [kindEq_refl, intEq_eq]
  by_cases h : a = b <;> simp [h]
@[simp] theorem intOp_neq (k : IntKind) (a b : Int) : intOp .neq k a (k, b) = some (.bool (!decide (a = b))) := by
  show gd (kindEq k k) (some (Value.bool (bt (intEq a b) false true))) = _
  rw [kindEq_refl, intEq_eq]; cases h : (a == b) <;> simp_all
@[simp] theorem intOp_lss (k : IntKind) (a b : Int) : intOp .lss k a (k, b) = some (.bool (decide (a < b))) := by
  show gd (kindEq k k) (some (Value.bool (intLt a b))) = _
  rw [kindEq_refl, intLt_eq]; rfl
@[simp] theorem intOp_gtr (k : IntKind) (a b : Int) : intOp .gtr k a (k, b) = some (.bool (decide (b < a))) := by
  show gd (kindEq k k) (some (Value.bool (intLt b a))) = _
  rw [kindEq_refl, intLt_eq]; rfl
@[simp] theorem intOp_leq (k : IntKind) (a b : Int) : intOp .leq k a (k, b) = some (.bool (decide (a ≤ b))) := by
  show gd (kindEq k k) (some (Value.bool (bt (intLt b a) false true))) = _
  rw [kindEq_refl, intLt_eq]
  by_cases h : b < a
  · rw [decide_eq_true h, decide_eq_false (by omega)]; rfl
  · rw [decide_eq_false h, decide_eq_true (by omega)]; rfl
@[simp] theorem intOp_geq (k : IntKind) (a b : Int) : intOp .geq k a (k, b) = some (.bool (decide (b ≤ a))) := by
  show gd (kindEq k k) (some (Value.bool (bt (intLt a b) false true))) = _
  rw [kindEq_refl, intLt_eq]
  by_cases h : a < b
  · rw [decide_eq_true h, decide_eq_false (by omega)]; rfl
  · rw [decide_eq_false h, decide_eq_true (by omega)]; rfl
@[simp] theorem wrapF_i64 {n : Int} (h : -9223372036854775808 ≤ n ∧ n ≤ 9223372036854775807) : wrapF .i64 n = n := by
  rw [wrapF_eq]
  exact IntWalk.i64_in _ h
@[simp] theorem unV_not (b : Bool) : unV .not (.bool b) = some (.bool (!b)) := by cases b <;> rfl
@[simp] theorem unV_neg (k : IntKind) (n : Int) : unV .neg (.int k n) = some (.int k (wrapF k (0 - n))) := rfl
/-! Appending one element, to nothing or to what an append made -/
noncomputable def appV (size : Nat) (x y : Value) (s : St) : Option (Value × St) :=
  ob (sliceOf x) fun q => ob (sliceOf y) fun p => ob (newCells s.heap size p) fun new => gd (Nat.ble (q.2.1 + p.2.1) 1048576)
    (bt (Nat.ble (q.2.1 + p.2.1) q.2.2) (bt (Nat.beq p.2.1 0) (some (x, s)) (appRoom s size q p.2.1 new)) (appGrow s size q.1 q.2.1 (q.2.1 + p.2.1) new))
@[simp] theorem eAppend_def (size : Nat) (x y : Operand) : eAppend size x y self ρ s = appV size (ρ x) (ρ y) s := rfl
theorem takeL_all {α : Type} : ∀ l : List α, takeL l.length l = some l
  | [] => rfl
  | x :: l => by show ob (takeL l.length l) (fun r => some (x :: r)) = _; rw [takeL_all l]; rfl
theorem appV_nil {size b : Nat} {new : List Value} {g : Option Nat} (hb : s.heap.get b = some (.cells new g)) (hn : new.length = size) (ho : new.all oneV = true) :
    appV size (.slice none 0 0) (.slice (some ⟨b, 0, none⟩) 1 1) s = some (.slice (some ⟨s.next, 0, none⟩) 1 1, s.pushed (.cells new (some size))) := by
  subst hn
  show ob (ob (ob (s.heap.get b) cellsOf) fun c => ob (takeL (1 * new.length) (dropL 0 c.1)) fun l => gd (l.all oneV) (some l)) _ = _
  rw [hb]
  show ob (ob (takeL (1 * new.length) new) fun l => gd (l.all oneV) (some l)) _ = _
  rw [Nat.one_mul, takeL_all]
  show ob (gd (new.all oneV) (some new)) _ = _
  rw [ho]; rfl
theorem upd_dead {i : Nat} {c : List Value} {g : Option Nat} (h : s.heap.get i = some (.cells c g)) : s.upd i .dead = some (s.upded i .dead) := by
  unfold St.upd; rw [romAt_some h]; rfl
theorem appV_more {size b b2 n : Nat} {old new : List Value} {g : Option Nat} (h1 : s.heap.get b = some (.cells old (some size))) (hb : s.heap.get b2 = some (.cells new g)) (hn : new.length = size) (ho : new.all oneV = true) (hl : old.length = n * size) (hm : n + 1 ≤ 1048576) :
    appV size (.slice (some ⟨b, 0, none⟩) n n) (.slice (some ⟨b2, 0, none⟩) 1 1) s = some (.slice (some ⟨s.next, 0, none⟩) (n + 1) (n + 1), (s.upded b .dead).pushed (.cells (old ++ new) (some size))) := by
  subst hn
  show ob (ob (ob (s.heap.get b2) cellsOf) fun c => ob (takeL (1 * new.length) (dropL 0 c.1)) fun l => gd (l.all oneV) (some l)) _ = _
  rw [hb]
  show ob (ob (takeL (1 * new.length) new) fun l => gd (l.all oneV) (some l)) _ = _
  rw [Nat.one_mul, takeL_all]
  show ob (gd (new.all oneV) (some new)) _ = _
  rw [ho]
  show gd (Nat.ble (n + 1) 1048576) (bt (Nat.ble (n + 1) n) _ (ob (ob (s.heap.get b) cellsOf) fun c => ob (takeL (n * new.length) (dropL 0 c.1)) fun old => ob (killF s new.length c.2 b) fun s =>
      exNew s (.cells (old ++ new) (some new.length)) fun i => .slice (some ⟨i, 0, none⟩) (n + 1) (n + 1))) = _
  have e1 : Nat.ble (n + 1) 1048576 = true := by simpa using hm
  have e2 : Nat.ble (n + 1) n = false := by
    cases h : Nat.ble (n + 1) n with
    | false => rfl
    | true => have := Nat.le_of_ble_eq_true h; omega
  rw [e1, e2, h1]
  show ob (takeL (n * new.length) old) (fun old => ob (gd (Nat.beq new.length new.length) (s.upd b .dead)) fun s => exNew s (.cells (old ++ new) (some new.length)) fun i => .slice (some ⟨i, 0, none⟩) (n + 1) (n + 1)) = _
  rw [← hl, takeL_all, show Nat.beq new.length new.length = true by simp]
  show ob (s.upd b .dead) _ = _
  rw [upd_dead h1]; rfl
noncomputable def growV (size n b : Nat) (new : List Value) (s : St) : AObj → Option (Value × St)
  | .cells old (some z) => gd (Nat.beq z size && Nat.beq old.length (n * size) && Nat.ble (n + 1) 1048576) (some (.slice (some ⟨s.next, 0, none⟩) (n + 1) (n + 1), (s.upded b .dead).pushed (.cells (old ++ new) (some size))))
  | _ => none
@[simp] theorem appV_nilE (size b : Nat) : appV size (.slice none 0 0) (.slice (some ⟨b, 0, none⟩) 1 1) s = ob (s.heap.get b) fun o => ob (cellsOf o) fun c => ob (takeL size c.1) fun l => gd (onesL l) (some (.slice (some ⟨s.next, 0, none⟩) 1 1, s.pushed (.cells l (some size)))) := by
  show ob (ob (ob (s.heap.get b) cellsOf) fun c => ob (takeL (1 * size) (dropL 0 c.1)) fun l => gd (l.all oneV) (some l)) _ = _
  rw [Nat.one_mul]
  cases s.heap.get b with
  | none => rfl
  | some o =>
    show ob (ob (cellsOf o) fun c => ob (takeL size c.1) fun l => gd (l.all oneV) (some l)) _ = ob (cellsOf o) _
    cases cellsOf o with
    | none => rfl
    | some c =>
      show ob (ob (takeL size c.1) fun l => gd (l.all oneV) (some l)) _ = ob (takeL size c.1) _
      cases takeL size c.1 with
      | none => rfl
      | some l =>
        show ob (gd (l.all oneV) (some l)) _ = gd (onesL l) _
        rw [onesL_eq]
        cases onesL l <;> rfl
/-! Maps -/
@[simp] theorem mapOf_map (es : List (Value × Value × Nat)) (c : Nat) : mapOf (.map es c) = some (es, c) := rfl
@[simp] theorem mapAt_nil : mapAt H (.map none) = some [] := rfl
@[simp] theorem mapAt_some (r : Nat) : mapAt H (.map (some r)) = ob (ob (H.get r) mapOf) fun p => some p.1 := rfl
@[simp] theorem vLookup_def (kd : TypeDesc) (z : Value) (x k : Operand) (ok : Bool) : vLookup kd z x k ok ρ H = gd (keyKind kd (ρ k)) (ob (mapAt H (ρ x)) fun es => ob (findK (ρ k) es 0) fun r => some (foundV z ok r)) := rfl
@[simp] theorem keyKind_int (k q : IntKind) (n : Int) : keyKind (.int k) (.int q n) = true := rfl
@[simp] theorem keyKind_string (b : ByteArray) : keyKind .string (.string b) = true := rfl
noncomputable def updV (kd : TypeDesc) (key val : Value) (s : St) : Value → Option (Value × St)
  | .map (some r) => gd (keyKind kd key) (ob (ob (s.heap.get r) mapOf) fun p => ob (findK key p.1 0) fun f =>
      exUpd s r (Option.rec (motive := fun _ => AObj) (.map (p.1 ++ [(key, val, p.2)]) (p.2 + 1)) (fun q => .map (setK key val q.1 p.1) p.2) f))
  | _ => none
@[simp] theorem eMapUpd_def (kd : TypeDesc) (m k x : Operand) : eMapUpd kd m k x self ρ s = updV kd (ρ k) (ρ x) s (ρ m) := by
  unfold eMapUpd updV; cases ρ m with
  | map r => cases r <;> rfl
  | _ => rfl
@[simp] theorem updV_some (kd : TypeDesc) (key val : Value) (r : Nat) : updV kd key val s (.map (some r)) = gd (keyKind kd key) (ob (ob (s.heap.get r) mapOf) fun p => ob (findK key p.1 0) fun f =>
      exUpd s r (Option.rec (motive := fun _ => AObj) (.map (p.1 ++ [(key, val, p.2)]) (p.2 + 1)) (fun q => .map (setK key val q.1 p.1) p.2) f)) := rfl
/-! Results -/
@[simp] theorem resF_nil (T : Tab) (f : Fr) : resF T f s [] = some [] := rfl
@[simp] theorem resF_cons (T : Tab) (f : Fr) (r : ResultVar) (l : List ResultVar) : resF T f s (r :: l) = ob (resV T f s r) fun v => ob (resF T f s l) fun vs => some (v :: vs) := rfl
@[simp] theorem resV_tmp (T : Tab) (f : Fr) (t : Tmp) : resV T f s (.tmp t) = some (f.get t) := rfl
@[simp] theorem resV_cell (T : Tab) (f : Fr) (t : Tmp) (ty : TypeId) : resV T f s (.cell t ty) = ob (aggN T ty) fun m => ob (addrOf (f.get t)) fun p => ob (cellsAt s.heap p.1) fun c => partN c.1 p.2 m := rfl
@[simp] theorem tupled_one (v : Value) : tupled [v] = v := rfl
@[simp] theorem tupled_two (v w : Value) : tupled [v, w] = .tuple #[v, w] := rfl
@[simp] theorem tupled_three (u v w : Value) : tupled [u, v, w] = .tuple #[u, v, w] := rfl
end
/-! Small loops over lists of operands -/
@[simp] theorem mapL_nil {α β : Type} (f : α → β) : mapL f [] = [] := rfl
@[simp] theorem mapL_cons {α β : Type} (f : α → β) (x : α) (l : List α) : mapL f (x :: l) = f x :: mapL f l := rfl
@[simp] theorem fillL_nil (ρ : Env) (c : List Value) : fillL ρ [] c = some c := rfl
@[simp] theorem fillL_cons' (ρ : Env) (a n : Nat) (o : Operand) (l : List (Nat × Nat × Operand)) (c : List Value) : fillL ρ ((a, n, o) :: l) c = gd (Nat.beq (ρ o).cells.toList.length n) (ob (putL a (ρ o).cells.toList c) fun c => fillL ρ l c) := by
  show gd (Nat.beq (lenL (ρ o).cells.toList) n) _ = _
  rw [lenL_eq]; rfl
@[simp] theorem placesA_nil (n : Nat) : placesA n [] = [] := rfl
@[simp] theorem placesA_cons (n i : Nat) (o : Operand) (l : List (Nat × Operand)) : placesA n ((i, o) :: l) = (i * n, n, o) :: placesA n l := rfl
@[simp] theorem placesS_nil (pl : List (Nat × Nat)) : placesS pl [] = some [] := rfl
@[simp] theorem placesS_cons (pl : List (Nat × Nat)) (i : Nat) (o : Operand) (l : List (Nat × Operand)) : placesS pl ((i, o) :: l) = ob pl[i]? fun q => ob (placesS pl l) fun l => some ((q.1, q.2, o) :: l) := by
  show ob (nthL i pl) _ = _
  rw [nthL_eq]; rfl
@[simp] theorem repeatL_one {α : Type} (z : List α) : repeatL z 1 = z := by show z ++ [] = z; simp
@[simp] theorem repeatL_zero' {α : Type} (z : List α) : repeatL z 0 = [] := rfl
@[simp] theorem foundV_none (z : Value) : foundV z true none = .tuple #[z, .bool false] := rfl
@[simp] theorem foundV_some (z : Value) (i : Nat) (v : Value) : foundV z true (some (i, v)) = .tuple #[v, .bool true] := rfl
@[simp] theorem foundV_none1 (z : Value) : foundV z false none = z := rfl
@[simp] theorem foundV_some1 (z : Value) (i : Nat) (v : Value) : foundV z false (some (i, v)) = v := rfl
@[simp] theorem eMakeSl_def {ρ : Env} (z : List Value) (n : Nat) (l c : Operand) : eMakeSl z n l c ρ = ob (natOf (ρ l)) fun l => ob (natOf (ρ c)) fun c => gd (Nat.ble l c && Nat.ble c 65536 && Nat.ble n 65536) (some (.cells (repeatL z c) none, fun i => .slice (some ⟨i, 0, none⟩) l c)) := rfl
/-! A map from integers to integers, as a list of pairs. -/
def mapL2 (es : List (Int × Int)) : Nat → List (Value × Value × Nat)
  | c => match es with
    | [] => []
    | (a, b) :: r => (.int .i64 a, .int .i64 b, c) :: mapL2 r (c + 1)
def lookI (es : List (Int × Int)) (x : Int) : Option Int := (es.find? fun p => p.1 == x).map (·.2)
end Go.Proofs.Ytnhokodcmeekhaa.Kern
namespace Go.Proofs.Ytnhokodcmeekhaa
open Go Kern
noncomputable abbrev TT : Tab := tabOf Try.prog none
theorem fits : tabFits Try.prog = true := by kernel_rfl
theorem tabOk : TabOk Try.prog TT := tabOf_ok fits
@[simp] theorem agg_0 : aggN TT 0 = some none := by kernel_rfl
theorem und_3 : TT.und 3 = some (Go.TypeDesc.int Go.IntKind.i64) := by kernel_rfl
theorem size_3 : TT.size 3 = some 1 := by kernel_rfl
@[simp] theorem agg_3 : aggN TT 3 = some none := by kernel_rfl
theorem bytes_3 : TT.bytes 3 = some 8 := by kernel_rfl
theorem zero_3 : TT.zero 3 = some (.int .i64 0) := by kernel_rfl
theorem und_4 : TT.und 4 = some Go.TypeDesc.bool := by kernel_rfl
theorem size_4 : TT.size 4 = some 1 := by kernel_rfl
@[simp] theorem agg_4 : aggN TT 4 = some none := by kernel_rfl
theorem und_5 : TT.und 5 = some (Go.TypeDesc.int Go.IntKind.u8) := by kernel_rfl
theorem size_5 : TT.size 5 = some 1 := by kernel_rfl
@[simp] theorem agg_5 : aggN TT 5 = some none := by kernel_rfl
theorem bytes_5 : TT.bytes 5 = some 1 := by kernel_rfl
theorem zero_5 : TT.zero 5 = some (.int .u8 0) := by kernel_rfl
theorem und_23 : TT.und 23 = some (Go.TypeDesc.struct #[{ name := "Lo", type := 3, offset := 0, embedded := Bool.false, tag := "", pkgPath := "", byteOffset := 0 }, { name := "Hi", type := 3, offset := 1, embedded := Bool.false, tag := "", pkgPath := "", byteOffset := 8 }]) := by kernel_rfl
theorem size_23 : TT.size 23 = some 2 := by kernel_rfl
@[simp] theorem agg_23 : aggN TT 23 = some (some 2) := by kernel_rfl
theorem bytes_23 : TT.bytes 23 = some 16 := by kernel_rfl
theorem zero_23 : TT.zero 23 = some (.agg #[(.int .i64 0), (.int .i64 0)]) := by kernel_rfl
theorem und_24 : TT.und 24 = some (Go.TypeDesc.slice 82) := by kernel_rfl
theorem size_24 : TT.size 24 = some 1 := by kernel_rfl
@[simp] theorem agg_24 : aggN TT 24 = some none := by kernel_rfl
theorem und_26 : TT.und 26 = some (Go.TypeDesc.struct #[{ name := "Weeks", type := 3, offset := 0, embedded := Bool.false, tag := "", pkgPath := "", byteOffset := 0 }, { name := "Range", type := 23, offset := 1, embedded := Bool.false, tag := "", pkgPath := "", byteOffset := 8 }, { name := "Samples", type := 24, offset := 3, embedded := Bool.false, tag := "", pkgPath := "", byteOffset := 24 }]) := by kernel_rfl
theorem size_26 : TT.size 26 = some 4 := by kernel_rfl
@[simp] theorem agg_26 : aggN TT 26 = some (some 4) := by kernel_rfl
theorem zero_26 : TT.zero 26 = some (.agg #[(.int .i64 0), (.int .i64 0), (.int .i64 0), (.slice none 0 0)]) := by kernel_rfl
theorem und_28 : TT.und 28 = some (Go.TypeDesc.slice 23) := by kernel_rfl
@[simp] theorem agg_28 : aggN TT 28 = some none := by kernel_rfl
theorem und_29 : TT.und 29 = some (Go.TypeDesc.int Go.IntKind.i64) := by kernel_rfl
@[simp] theorem agg_29 : aggN TT 29 = some none := by kernel_rfl
@[simp] theorem agg_30 : aggN TT 30 = some none := by kernel_rfl
theorem und_33 : TT.und 33 = some (Go.TypeDesc.slice 106) := by kernel_rfl
theorem size_33 : TT.size 33 = some 1 := by kernel_rfl
@[simp] theorem agg_33 : aggN TT 33 = some none := by kernel_rfl
theorem und_35 : TT.und 35 = some (Go.TypeDesc.struct #[{ name := "Weeks", type := 3, offset := 0, embedded := Bool.false, tag := "", pkgPath := "", byteOffset := 0 }, { name := "Range", type := 23, offset := 1, embedded := Bool.false, tag := "", pkgPath := "", byteOffset := 8 }, { name := "Samples", type := 33, offset := 3, embedded := Bool.false, tag := "", pkgPath := "", byteOffset := 24 }]) := by kernel_rfl
theorem size_35 : TT.size 35 = some 4 := by kernel_rfl
@[simp] theorem agg_35 : aggN TT 35 = some (some 4) := by kernel_rfl
theorem zero_35 : TT.zero 35 = some (.agg #[(.int .i64 0), (.int .i64 0), (.int .i64 0), (.slice none 0 0)]) := by kernel_rfl
theorem und_41 : TT.und 41 = some (Go.TypeDesc.slice 3) := by kernel_rfl
theorem size_41 : TT.size 41 = some 1 := by kernel_rfl
@[simp] theorem agg_41 : aggN TT 41 = some none := by kernel_rfl
theorem zero_41 : TT.zero 41 = some (.slice none 0 0) := by kernel_rfl
@[simp] theorem agg_42 : aggN TT 42 = some none := by kernel_rfl
@[simp] theorem agg_48 : aggN TT 48 = some none := by kernel_rfl
@[simp] theorem agg_53 : aggN TT 53 = some none := by kernel_rfl
@[simp] theorem agg_56 : aggN TT 56 = some none := by kernel_rfl
theorem und_59 : TT.und 59 = some (Go.TypeDesc.slice 5) := by kernel_rfl
theorem size_59 : TT.size 59 = some 1 := by kernel_rfl
@[simp] theorem agg_59 : aggN TT 59 = some none := by kernel_rfl
theorem und_60 : TT.und 60 = some (Go.TypeDesc.array 2 5) := by kernel_rfl
theorem size_60 : TT.size 60 = some 2 := by kernel_rfl
@[simp] theorem agg_60 : aggN TT 60 = some (some 2) := by kernel_rfl
theorem und_61 : TT.und 61 = some (Go.TypeDesc.slice 80) := by kernel_rfl
theorem size_61 : TT.size 61 = some 1 := by kernel_rfl
@[simp] theorem agg_61 : aggN TT 61 = some none := by kernel_rfl
theorem und_63 : TT.und 63 = some (Go.TypeDesc.struct #[{ name := "Weeks", type := 5, offset := 0, embedded := Bool.false, tag := "", pkgPath := "", byteOffset := 0 }, { name := "First", type := 5, offset := 1, embedded := Bool.false, tag := "", pkgPath := "", byteOffset := 1 }, { name := "Step", type := 5, offset := 2, embedded := Bool.false, tag := "", pkgPath := "", byteOffset := 2 }, { name := "Falls", type := 59, offset := 3, embedded := Bool.false, tag := "", pkgPath := "", byteOffset := 8 }, { name := "Range", type := 60, offset := 4, embedded := Bool.false, tag := "", pkgPath := "", byteOffset := 32 }, { name := "Samples", type := 61, offset := 6, embedded := Bool.false, tag := "", pkgPath := "", byteOffset := 40 }]) := by kernel_rfl
@[simp] theorem agg_63 : aggN TT 63 = some (some 7) := by kernel_rfl
theorem und_64 : TT.und 64 = some (Go.TypeDesc.int Go.IntKind.u16) := by kernel_rfl
@[simp] theorem agg_64 : aggN TT 64 = some none := by kernel_rfl
@[simp] theorem agg_65 : aggN TT 65 = some none := by kernel_rfl
theorem und_70 : TT.und 70 = some (Go.TypeDesc.struct #[{ name := "Weeks", type := 5, offset := 0, embedded := Bool.false, tag := "", pkgPath := "", byteOffset := 0 }, { name := "Samples", type := 61, offset := 1, embedded := Bool.false, tag := "", pkgPath := "", byteOffset := 8 }]) := by kernel_rfl
@[simp] theorem agg_70 : aggN TT 70 = some (some 2) := by kernel_rfl
@[simp] theorem agg_71 : aggN TT 71 = some none := by kernel_rfl
@[simp] theorem agg_73 : aggN TT 73 = some none := by kernel_rfl
theorem und_74 : TT.und 74 = some (Go.TypeDesc.array 4 3) := by kernel_rfl
theorem size_74 : TT.size 74 = some 4 := by kernel_rfl
@[simp] theorem agg_74 : aggN TT 74 = some (some 4) := by kernel_rfl
theorem und_75 : TT.und 75 = some (Go.TypeDesc.array 4 4) := by kernel_rfl
theorem size_75 : TT.size 75 = some 4 := by kernel_rfl
@[simp] theorem agg_75 : aggN TT 75 = some (some 4) := by kernel_rfl
theorem und_77 : TT.und 77 = some (Go.TypeDesc.struct #[{ name := "least", type := 74, offset := 0, embedded := Bool.false, tag := "", pkgPath := "zafra/zafralaw02", byteOffset := 0 }, { name := "most", type := 74, offset := 4, embedded := Bool.false, tag := "", pkgPath := "zafra/zafralaw02", byteOffset := 32 }, { name := "loss", type := 74, offset := 8, embedded := Bool.false, tag := "", pkgPath := "zafra/zafralaw02", byteOffset := 64 }, { name := "peak", type := 75, offset := 12, embedded := Bool.false, tag := "", pkgPath := "zafra/zafralaw02", byteOffset := 96 }, { name := "count", type := 3, offset := 16, embedded := Bool.false, tag := "", pkgPath := "zafra/zafralaw02", byteOffset := 104 }]) := by kernel_rfl
@[simp] theorem agg_77 : aggN TT 77 = some (some 17) := by kernel_rfl
theorem zero_77 : TT.zero 77 = some (.agg #[(.int .i64 0), (.int .i64 0), (.int .i64 0), (.int .i64 0), (.int .i64 0), (.int .i64 0), (.int .i64 0), (.int .i64 0), (.int .i64 0), (.int .i64 0), (.int .i64 0), (.int .i64 0), (.bool false), (.bool false), (.bool false), (.bool false), (.int .i64 0)]) := by kernel_rfl
theorem und_80 : TT.und 80 = some (Go.TypeDesc.array 3 5) := by kernel_rfl
theorem size_80 : TT.size 80 = some 3 := by kernel_rfl
@[simp] theorem agg_80 : aggN TT 80 = some (some 3) := by kernel_rfl
theorem bytes_80 : TT.bytes 80 = some 3 := by kernel_rfl
theorem zero_80 : TT.zero 80 = some (.agg #[(.int .u8 0), (.int .u8 0), (.int .u8 0)]) := by kernel_rfl
theorem und_82 : TT.und 82 = some (Go.TypeDesc.struct #[{ name := "Week", type := 3, offset := 0, embedded := Bool.false, tag := "", pkgPath := "", byteOffset := 0 }, { name := "Value", type := 3, offset := 1, embedded := Bool.false, tag := "", pkgPath := "", byteOffset := 8 }, { name := "Off", type := 3, offset := 2, embedded := Bool.false, tag := "", pkgPath := "", byteOffset := 16 }]) := by kernel_rfl
theorem size_82 : TT.size 82 = some 3 := by kernel_rfl
@[simp] theorem agg_82 : aggN TT 82 = some (some 3) := by kernel_rfl
theorem bytes_82 : TT.bytes 82 = some 24 := by kernel_rfl
theorem zero_82 : TT.zero 82 = some (.agg #[(.int .i64 0), (.int .i64 0), (.int .i64 0)]) := by kernel_rfl
@[simp] theorem agg_84 : aggN TT 84 = some none := by kernel_rfl
theorem und_90 : TT.und 90 = some (Go.TypeDesc.struct #[{ name := "over", type := 3, offset := 0, embedded := Bool.false, tag := "", pkgPath := "zafra/ripe", byteOffset := 0 }, { name := "under", type := 3, offset := 1, embedded := Bool.false, tag := "", pkgPath := "zafra/ripe", byteOffset := 8 }]) := by kernel_rfl
theorem size_90 : TT.size 90 = some 2 := by kernel_rfl
@[simp] theorem agg_90 : aggN TT 90 = some (some 2) := by kernel_rfl
theorem bytes_90 : TT.bytes 90 = some 16 := by kernel_rfl
theorem zero_90 : TT.zero 90 = some (.agg #[(.int .i64 0), (.int .i64 0)]) := by kernel_rfl
theorem und_91 : TT.und 91 = some (Go.TypeDesc.array 30 90) := by kernel_rfl
theorem size_91 : TT.size 91 = some 60 := by kernel_rfl
@[simp] theorem agg_91 : aggN TT 91 = some (some 60) := by kernel_rfl
theorem und_93 : TT.und 93 = some (Go.TypeDesc.struct #[{ name := "weeks", type := 3, offset := 0, embedded := Bool.false, tag := "", pkgPath := "zafra/ripe", byteOffset := 0 }, { name := "low", type := 91, offset := 1, embedded := Bool.false, tag := "", pkgPath := "zafra/ripe", byteOffset := 8 }, { name := "high", type := 91, offset := 61, embedded := Bool.false, tag := "", pkgPath := "zafra/ripe", byteOffset := 488 }]) := by kernel_rfl
theorem size_93 : TT.size 93 = some 121 := by kernel_rfl
@[simp] theorem agg_93 : aggN TT 93 = some (some 121) := by kernel_rfl
theorem bytes_93 : TT.bytes 93 = some 968 := by kernel_rfl
theorem zero_93 : TT.zero 93 = some (.agg #[(.int .i64 0), (.int .i64 0), (.int .i64 0), (.int .i64 0), (.int .i64 0), (.int .i64 0), (.int .i64 0), (.int .i64 0), (.int .i64 0), (.int .i64 0), (.int .i64 0), (.int .i64 0), (.int .i64 0), (.int .i64 0), (.int .i64 0), (.int .i64 0), (.int .i64 0), (.int .i64 0), (.int .i64 0), (.int .i64 0), (.int .i64 0), (.int .i64 0), (.int .i64 0), (.int .i64 0), (.int .i64 0), (.int .i64 0), (.int .i64 0), (.int .i64 0), (.int .i64 0), (.int .i64 0), (.int .i64 0), (.int .i64 0), (.int .i64 0), (.int .i64 0), (.int .i64 0), (.int .i64 0), (.int .i64 0), (.int .i64 0), (.int .i64 0), (.int .i64 0), (.int .i64 0), (.int .i64 0), (.int .i64 0), (.int .i64 0), (.int .i64 0), (.int .i64 0), (.int .i64 0), (.int .i64 0), (.int .i64 0), (.int .i64 0), (.int .i64 0), (.int .i64 0), (.int .i64 0), (.int .i64 0), (.int .i64 0), (.int .i64 0), (.int .i64 0), (.int .i64 0), (.int .i64 0), (.int .i64 0), (.int .i64 0), (.int .i64 0), (.int .i64 0), (.int .i64 0), (.int .i64 0), (.int .i64 0), (.int .i64 0), (.int .i64 0), (.int .i64 0), (.int .i64 0), (.int .i64 0), (.int .i64 0), (.int .i64 0), (.int .i64 0), (.int .i64 0), (.int .i64 0), (.int .i64 0), (.int .i64 0), (.int .i64 0), (.int .i64 0), (.int .i64 0), (.int .i64 0), (.int .i64 0), (.int .i64 0), (.int .i64 0), (.int .i64 0), (.int .i64 0), (.int .i64 0), (.int .i64 0), (.int .i64 0), (.int .i64 0), (.int .i64 0), (.int .i64 0), (.int .i64 0), (.int .i64 0), (.int .i64 0), (.int .i64 0), (.int .i64 0), (.int .i64 0), (.int .i64 0), (.int .i64 0), (.int .i64 0), (.int .i64 0), (.int .i64 0), (.int .i64 0), (.int .i64 0), (.int .i64 0), (.int .i64 0), (.int .i64 0), (.int .i64 0), (.int .i64 0), (.int .i64 0), (.int .i64 0), (.int .i64 0), (.int .i64 0), (.int .i64 0), (.int .i64 0), (.int .i64 0), (.int .i64 0), (.int .i64 0), (.int .i64 0)]) := by kernel_rfl
@[simp] theorem agg_94 : aggN TT 94 = some none := by kernel_rfl
@[simp] theorem agg_96 : aggN TT 96 = some none := by kernel_rfl
@[simp] theorem agg_98 : aggN TT 98 = some none := by kernel_rfl
theorem und_103 : TT.und 103 = some (Go.TypeDesc.struct #[{ name := "N", type := 3, offset := 0, embedded := Bool.false, tag := "", pkgPath := "", byteOffset := 0 }, { name := "D", type := 3, offset := 1, embedded := Bool.false, tag := "", pkgPath := "", byteOffset := 8 }]) := by kernel_rfl
theorem size_103 : TT.size 103 = some 2 := by kernel_rfl
@[simp] theorem agg_103 : aggN TT 103 = some (some 2) := by kernel_rfl
theorem zero_103 : TT.zero 103 = some (.agg #[(.int .i64 0), (.int .i64 0)]) := by kernel_rfl
theorem und_106 : TT.und 106 = some (Go.TypeDesc.struct #[{ name := "Week", type := 3, offset := 0, embedded := Bool.false, tag := "", pkgPath := "", byteOffset := 0 }, { name := "Value", type := 3, offset := 1, embedded := Bool.false, tag := "", pkgPath := "", byteOffset := 8 }, { name := "Off", type := 3, offset := 2, embedded := Bool.false, tag := "", pkgPath := "", byteOffset := 16 }]) := by kernel_rfl
theorem size_106 : TT.size 106 = some 3 := by kernel_rfl
@[simp] theorem agg_106 : aggN TT 106 = some (some 3) := by kernel_rfl
theorem bytes_106 : TT.bytes 106 = some 24 := by kernel_rfl
theorem zero_106 : TT.zero 106 = some (.agg #[(.int .i64 0), (.int .i64 0), (.int .i64 0)]) := by kernel_rfl
theorem und_114 : TT.und 114 = some (Go.TypeDesc.slice 90) := by kernel_rfl
theorem size_114 : TT.size 114 = some 1 := by kernel_rfl
@[simp] theorem agg_114 : aggN TT 114 = some none := by kernel_rfl
theorem zero_114 : TT.zero 114 = some (.slice none 0 0) := by kernel_rfl
@[simp] theorem agg_122 : aggN TT 122 = some none := by kernel_rfl
@[simp] theorem agg_123 : aggN TT 123 = some none := by kernel_rfl
@[simp] theorem agg_127 : aggN TT 127 = some none := by kernel_rfl
theorem und_129 : TT.und 129 = some (Go.TypeDesc.struct #[{ name := "week", type := 3, offset := 0, embedded := Bool.false, tag := "", pkgPath := "zafra/ripe", byteOffset := 0 }, { name := "sweet", type := 90, offset := 1, embedded := Bool.false, tag := "", pkgPath := "zafra/ripe", byteOffset := 8 }]) := by kernel_rfl
theorem size_129 : TT.size 129 = some 3 := by kernel_rfl
@[simp] theorem agg_129 : aggN TT 129 = some (some 3) := by kernel_rfl
theorem zero_129 : TT.zero 129 = some (.agg #[(.int .i64 0), (.int .i64 0), (.int .i64 0)]) := by kernel_rfl
theorem und_131 : TT.und 131 = some (Go.TypeDesc.struct #[{ name := "from", type := 129, offset := 0, embedded := Bool.false, tag := "", pkgPath := "zafra/ripe", byteOffset := 0 }, { name := "to", type := 129, offset := 3, embedded := Bool.false, tag := "", pkgPath := "zafra/ripe", byteOffset := 24 }]) := by kernel_rfl
theorem size_131 : TT.size 131 = some 6 := by kernel_rfl
@[simp] theorem agg_131 : aggN TT 131 = some (some 6) := by kernel_rfl
theorem zero_131 : TT.zero 131 = some (.agg #[(.int .i64 0), (.int .i64 0), (.int .i64 0), (.int .i64 0), (.int .i64 0), (.int .i64 0)]) := by kernel_rfl
@[simp] theorem agg_134 : aggN TT 134 = some none := by kernel_rfl
theorem und_135 : TT.und 135 = some (Go.TypeDesc.slice 93) := by kernel_rfl
theorem size_135 : TT.size 135 = some 1 := by kernel_rfl
@[simp] theorem agg_135 : aggN TT 135 = some none := by kernel_rfl
theorem zero_135 : TT.zero 135 = some (.slice none 0 0) := by kernel_rfl
@[simp] theorem agg_139 : aggN TT 139 = some none := by kernel_rfl
section
variable {self : Self} {f : Fr} {s : St}
@[simp] theorem o_load_3 {x : Operand} : actO TT self (.load 3 x) f s = pureR (vLoad none x f.eval s.heap) s := by rw [act_load, agg_3]; rfl
@[simp] theorem o_store_3 {a x : Operand} : actO TT self (.store 3 a x) f s = eStore 1 a x self f.eval s := by rw [act_store, size_3]; rfl
@[simp] theorem o_alloc_3 : actO TT self (.alloc 3) f s = exNew s (.cells ((.int .i64 0) : Value).cells.toList none) ptrTo := by rw [act_alloc, zero_3]; rfl
@[simp] theorem o_bin_3 {op : BinOp} {x y : Operand} {u : TypeId} : actO TT self (.binOp op 3 x y u) f s = pureR (binV TT (Go.TypeDesc.int Go.IntKind.i64) 3 (TT.prog.keyTypeAt 20 3 && !TT.prog.eqGuardType TT.prog.depth 3) op x y f.eval s.heap) s := by rw [act_bin, und_3]; rfl
@[simp] theorem o_convert_3 {a : TypeId} {x : Operand} (h : (TT.und a).isSome = true) : actO TT self (.convert a 3 x) f s = pureR (vConv .i64 x f.eval s.heap) s := act_convert a 3 x h und_3
@[simp] theorem o_load_4 {x : Operand} : actO TT self (.load 4 x) f s = pureR (vLoad none x f.eval s.heap) s := by rw [act_load, agg_4]; rfl
@[simp] theorem o_store_4 {a x : Operand} : actO TT self (.store 4 a x) f s = eStore 1 a x self f.eval s := by rw [act_store, size_4]; rfl
@[simp] theorem o_bin_4 {op : BinOp} {x y : Operand} {u : TypeId} : actO TT self (.binOp op 4 x y u) f s = pureR (binV TT Go.TypeDesc.bool 4 (TT.prog.keyTypeAt 20 4 && !TT.prog.eqGuardType TT.prog.depth 4) op x y f.eval s.heap) s := by rw [act_bin, und_4]; rfl
@[simp] theorem o_load_5 {x : Operand} : actO TT self (.load 5 x) f s = pureR (vLoad none x f.eval s.heap) s := by rw [act_load, agg_5]; rfl
@[simp] theorem o_load_23 {x : Operand} : actO TT self (.load 23 x) f s = pureR (vLoad (some 2) x f.eval s.heap) s := by rw [act_load, agg_23]; rfl
@[simp] theorem o_store_23 {a x : Operand} : actO TT self (.store 23 a x) f s = eStore 2 a x self f.eval s := by rw [act_store, size_23]; rfl
@[simp] theorem o_alloc_23 : actO TT self (.alloc 23) f s = exNew s (.cells ((.agg #[(.int .i64 0), (.int .i64 0)]) : Value).cells.toList none) ptrTo := by rw [act_alloc, zero_23]; rfl
@[simp] theorem o_bin_23 {op : BinOp} {x y : Operand} {u : TypeId} : actO TT self (.binOp op 23 x y u) f s = pureR (binV TT (Go.TypeDesc.struct #[{ name := "Lo", type := 3, offset := 0, embedded := Bool.false, tag := "", pkgPath := "", byteOffset := 0 }, { name := "Hi", type := 3, offset := 1, embedded := Bool.false, tag := "", pkgPath := "", byteOffset := 8 }]) 23 (TT.prog.keyTypeAt 20 23 && !TT.prog.eqGuardType TT.prog.depth 23) op x y f.eval s.heap) s := by rw [act_bin, und_23]; rfl
@[simp] theorem o_fieldAddr_23_0 {x : Operand} : actO TT self (.fieldAddr 23 x 0) f s = pureR (vFieldAddr 0 x f.eval s.heap) s := act_fieldAddr 23 x 0 und_23 rfl size_3 rfl
@[simp] theorem o_fieldAddr_23_1 {x : Operand} : actO TT self (.fieldAddr 23 x 1) f s = pureR (vFieldAddr 1 x f.eval s.heap) s := act_fieldAddr 23 x 1 und_23 rfl size_3 rfl
@[simp] theorem o_build_23 {pl0 : Array (Nat × Operand)} : actO TT self (.build 23 pl0) f s = ob (placesS [(0, 1), (1, 1)] pl0.toList) fun l => pureR (aggV (fillL f.eval l ((.agg #[(.int .i64 0), (.int .i64 0)]) : Value).cells.toList)) s := act_buildS 23 pl0 zero_23 und_23 (by kernel_rfl)
@[simp] theorem o_load_24 {x : Operand} : actO TT self (.load 24 x) f s = pureR (vLoad none x f.eval s.heap) s := by rw [act_load, agg_24]; rfl
@[simp] theorem o_store_24 {a x : Operand} : actO TT self (.store 24 a x) f s = eStore 1 a x self f.eval s := by rw [act_store, size_24]; rfl
@[simp] theorem o_indexAddr_24 {x i : Operand} : actO TT self (.indexAddr 24 x i) f s = pureR (vIndexAddrS 3 x i f.eval s.heap) s := act_indexAddrS 24 x i und_24 size_82
@[simp] theorem o_len_24 {x : Operand} : actO TT self (.call ⟨.builtin .len, #[x], #[24]⟩) f s = pureR (vLenSl x f.eval s.heap) s := act_lenSl x und_24
@[simp] theorem o_append_24 {x y : Operand} : actO TT self (.call ⟨.builtin .append, #[x, y], #[24, 24]⟩) f s = eAppend 3 x y self f.eval s := act_append x y und_24 und_24 size_82 bytes_82 zero_82 rfl
@[simp] theorem o_buildSlice_24 {len : Nat} {pl0 : Array (Nat × Operand)} (h : len * 3 ≤ 16777216) : actO TT self (.buildSlice 24 len pl0) f s = ob (fillL f.eval (placesA 3 pl0.toList) (repeatL ((.agg #[(.int .i64 0), (.int .i64 0), (.int .i64 0)]) : Value).cells.toList len)) fun c => exNew s (.cells c none) fun i => .slice (some ⟨i, 0, none⟩) len len := act_buildSlice 24 len pl0 und_24 size_82 zero_82 (by rw [show Nat.beq (lenL ((.agg #[(.int .i64 0), (.int .i64 0), (.int .i64 0)]) : Value).cells.toList) 3 = true from rfl, Nat.ble_eq_true_of_le h]; rfl)
@[simp] theorem o_load_26 {x : Operand} : actO TT self (.load 26 x) f s = pureR (vLoad (some 4) x f.eval s.heap) s := by rw [act_load, agg_26]; rfl
@[simp] theorem o_store_26 {a x : Operand} : actO TT self (.store 26 a x) f s = eStore 4 a x self f.eval s := by rw [act_store, size_26]; rfl
@[simp] theorem o_alloc_26 : actO TT self (.alloc 26) f s = exNew s (.cells ((.agg #[(.int .i64 0), (.int .i64 0), (.int .i64 0), (.slice none 0 0)]) : Value).cells.toList none) ptrTo := by rw [act_alloc, zero_26]; rfl
@[simp] theorem o_fieldAddr_26_0 {x : Operand} : actO TT self (.fieldAddr 26 x 0) f s = pureR (vFieldAddr 0 x f.eval s.heap) s := act_fieldAddr 26 x 0 und_26 rfl size_3 rfl
@[simp] theorem o_fieldAddr_26_1 {x : Operand} : actO TT self (.fieldAddr 26 x 1) f s = pureR (vFieldAddr 1 x f.eval s.heap) s := act_fieldAddr 26 x 1 und_26 rfl size_23 rfl
@[simp] theorem o_fieldAddr_26_2 {x : Operand} : actO TT self (.fieldAddr 26 x 2) f s = pureR (vFieldAddr 3 x f.eval s.heap) s := act_fieldAddr 26 x 2 und_26 rfl size_24 rfl
@[simp] theorem o_build_26 {pl0 : Array (Nat × Operand)} : actO TT self (.build 26 pl0) f s = ob (placesS [(0, 1), (1, 2), (3, 1)] pl0.toList) fun l => pureR (aggV (fillL f.eval l ((.agg #[(.int .i64 0), (.int .i64 0), (.int .i64 0), (.slice none 0 0)]) : Value).cells.toList)) s := act_buildS 26 pl0 zero_26 und_26 (by kernel_rfl)
@[simp] theorem o_indexAddr_28 {x i : Operand} : actO TT self (.indexAddr 28 x i) f s = pureR (vIndexAddrS 2 x i f.eval s.heap) s := act_indexAddrS 28 x i und_28 size_23
@[simp] theorem o_len_28 {x : Operand} : actO TT self (.call ⟨.builtin .len, #[x], #[28]⟩) f s = pureR (vLenSl x f.eval s.heap) s := act_lenSl x und_28
@[simp] theorem o_append_28 {x y : Operand} : actO TT self (.call ⟨.builtin .append, #[x, y], #[28, 28]⟩) f s = eAppend 2 x y self f.eval s := act_append x y und_28 und_28 size_23 bytes_23 zero_23 rfl
@[simp] theorem o_makeSlice_28 {l c : Operand} : actO TT self (.makeSlice 28 l c) f s = ob (eMakeSl ((.agg #[(.int .i64 0), (.int .i64 0)]) : Value).cells.toList 2 l c f.eval) fun p => exNew s p.1 p.2 := act_makeSlice 28 l c und_28 size_23 bytes_23 zero_23 rfl
@[simp] theorem o_buildSlice_28 {len : Nat} {pl0 : Array (Nat × Operand)} (h : len * 2 ≤ 16777216) : actO TT self (.buildSlice 28 len pl0) f s = ob (fillL f.eval (placesA 2 pl0.toList) (repeatL ((.agg #[(.int .i64 0), (.int .i64 0)]) : Value).cells.toList len)) fun c => exNew s (.cells c none) fun i => .slice (some ⟨i, 0, none⟩) len len := act_buildSlice 28 len pl0 und_28 size_23 zero_23 (by rw [show Nat.beq (lenL ((.agg #[(.int .i64 0), (.int .i64 0)]) : Value).cells.toList) 2 = true from rfl, Nat.ble_eq_true_of_le h]; rfl)
@[simp] theorem o_bin_29 {op : BinOp} {x y : Operand} {u : TypeId} : actO TT self (.binOp op 29 x y u) f s = pureR (binV TT (Go.TypeDesc.int Go.IntKind.i64) 29 (TT.prog.keyTypeAt 20 29 && !TT.prog.eqGuardType TT.prog.depth 29) op x y f.eval s.heap) s := by rw [act_bin, und_29]; rfl
@[simp] theorem o_load_33 {x : Operand} : actO TT self (.load 33 x) f s = pureR (vLoad none x f.eval s.heap) s := by rw [act_load, agg_33]; rfl
@[simp] theorem o_store_33 {a x : Operand} : actO TT self (.store 33 a x) f s = eStore 1 a x self f.eval s := by rw [act_store, size_33]; rfl
@[simp] theorem o_indexAddr_33 {x i : Operand} : actO TT self (.indexAddr 33 x i) f s = pureR (vIndexAddrS 3 x i f.eval s.heap) s := act_indexAddrS 33 x i und_33 size_106
@[simp] theorem o_len_33 {x : Operand} : actO TT self (.call ⟨.builtin .len, #[x], #[33]⟩) f s = pureR (vLenSl x f.eval s.heap) s := act_lenSl x und_33
@[simp] theorem o_append_33 {x y : Operand} : actO TT self (.call ⟨.builtin .append, #[x, y], #[33, 33]⟩) f s = eAppend 3 x y self f.eval s := act_append x y und_33 und_33 size_106 bytes_106 zero_106 rfl
@[simp] theorem o_buildSlice_33 {len : Nat} {pl0 : Array (Nat × Operand)} (h : len * 3 ≤ 16777216) : actO TT self (.buildSlice 33 len pl0) f s = ob (fillL f.eval (placesA 3 pl0.toList) (repeatL ((.agg #[(.int .i64 0), (.int .i64 0), (.int .i64 0)]) : Value).cells.toList len)) fun c => exNew s (.cells c none) fun i => .slice (some ⟨i, 0, none⟩) len len := act_buildSlice 33 len pl0 und_33 size_106 zero_106 (by rw [show Nat.beq (lenL ((.agg #[(.int .i64 0), (.int .i64 0), (.int .i64 0)]) : Value).cells.toList) 3 = true from rfl, Nat.ble_eq_true_of_le h]; rfl)
@[simp] theorem o_load_35 {x : Operand} : actO TT self (.load 35 x) f s = pureR (vLoad (some 4) x f.eval s.heap) s := by rw [act_load, agg_35]; rfl
@[simp] theorem o_store_35 {a x : Operand} : actO TT self (.store 35 a x) f s = eStore 4 a x self f.eval s := by rw [act_store, size_35]; rfl
@[simp] theorem o_alloc_35 : actO TT self (.alloc 35) f s = exNew s (.cells ((.agg #[(.int .i64 0), (.int .i64 0), (.int .i64 0), (.slice none 0 0)]) : Value).cells.toList none) ptrTo := by rw [act_alloc, zero_35]; rfl
@[simp] theorem o_fieldAddr_35_0 {x : Operand} : actO TT self (.fieldAddr 35 x 0) f s = pureR (vFieldAddr 0 x f.eval s.heap) s := act_fieldAddr 35 x 0 und_35 rfl size_3 rfl
@[simp] theorem o_fieldAddr_35_1 {x : Operand} : actO TT self (.fieldAddr 35 x 1) f s = pureR (vFieldAddr 1 x f.eval s.heap) s := act_fieldAddr 35 x 1 und_35 rfl size_23 rfl
@[simp] theorem o_fieldAddr_35_2 {x : Operand} : actO TT self (.fieldAddr 35 x 2) f s = pureR (vFieldAddr 3 x f.eval s.heap) s := act_fieldAddr 35 x 2 und_35 rfl size_33 rfl
@[simp] theorem o_build_35 {pl0 : Array (Nat × Operand)} : actO TT self (.build 35 pl0) f s = ob (placesS [(0, 1), (1, 2), (3, 1)] pl0.toList) fun l => pureR (aggV (fillL f.eval l ((.agg #[(.int .i64 0), (.int .i64 0), (.int .i64 0), (.slice none 0 0)]) : Value).cells.toList)) s := act_buildS 35 pl0 zero_35 und_35 (by kernel_rfl)
@[simp] theorem o_store_41 {a x : Operand} : actO TT self (.store 41 a x) f s = eStore 1 a x self f.eval s := by rw [act_store, size_41]; rfl
@[simp] theorem o_alloc_41 : actO TT self (.alloc 41) f s = exNew s (.cells ((.slice none 0 0) : Value).cells.toList none) ptrTo := by rw [act_alloc, zero_41]; rfl
@[simp] theorem o_bin_41 {op : BinOp} {x y : Operand} {u : TypeId} : actO TT self (.binOp op 41 x y u) f s = pureR (binV TT (Go.TypeDesc.slice 3) 41 (TT.prog.keyTypeAt 20 41 && !TT.prog.eqGuardType TT.prog.depth 41) op x y f.eval s.heap) s := by rw [act_bin, und_41]; rfl
@[simp] theorem o_indexAddr_41 {x i : Operand} : actO TT self (.indexAddr 41 x i) f s = pureR (vIndexAddrS 1 x i f.eval s.heap) s := act_indexAddrS 41 x i und_41 size_3
@[simp] theorem o_len_41 {x : Operand} : actO TT self (.call ⟨.builtin .len, #[x], #[41]⟩) f s = pureR (vLenSl x f.eval s.heap) s := act_lenSl x und_41
@[simp] theorem o_append_41 {x y : Operand} : actO TT self (.call ⟨.builtin .append, #[x, y], #[41, 41]⟩) f s = eAppend 1 x y self f.eval s := act_append x y und_41 und_41 size_3 bytes_3 zero_3 rfl
@[simp] theorem o_buildSlice_41 {len : Nat} {pl0 : Array (Nat × Operand)} (h : len * 1 ≤ 16777216) : actO TT self (.buildSlice 41 len pl0) f s = ob (fillL f.eval (placesA 1 pl0.toList) (repeatL ((.int .i64 0) : Value).cells.toList len)) fun c => exNew s (.cells c none) fun i => .slice (some ⟨i, 0, none⟩) len len := act_buildSlice 41 len pl0 und_41 size_3 zero_3 (by rw [show Nat.beq (lenL ((.int .i64 0) : Value).cells.toList) 1 = true from rfl, Nat.ble_eq_true_of_le h]; rfl)
@[simp] theorem o_load_59 {x : Operand} : actO TT self (.load 59 x) f s = pureR (vLoad none x f.eval s.heap) s := by rw [act_load, agg_59]; rfl
@[simp] theorem o_indexAddr_59 {x i : Operand} : actO TT self (.indexAddr 59 x i) f s = pureR (vIndexAddrS 1 x i f.eval s.heap) s := act_indexAddrS 59 x i und_59 size_5
@[simp] theorem o_len_59 {x : Operand} : actO TT self (.call ⟨.builtin .len, #[x], #[59]⟩) f s = pureR (vLenSl x f.eval s.heap) s := act_lenSl x und_59
@[simp] theorem o_append_59 {x y : Operand} : actO TT self (.call ⟨.builtin .append, #[x, y], #[59, 59]⟩) f s = eAppend 1 x y self f.eval s := act_append x y und_59 und_59 size_5 bytes_5 zero_5 rfl
@[simp] theorem o_indexAddr_60 {x i : Operand} : actO TT self (.indexAddr 60 x i) f s = pureR (vIndexAddrA 2 1 x i f.eval s.heap) s := act_indexAddrA 60 x i und_60 size_5
@[simp] theorem o_load_61 {x : Operand} : actO TT self (.load 61 x) f s = pureR (vLoad none x f.eval s.heap) s := by rw [act_load, agg_61]; rfl
@[simp] theorem o_indexAddr_61 {x i : Operand} : actO TT self (.indexAddr 61 x i) f s = pureR (vIndexAddrS 3 x i f.eval s.heap) s := act_indexAddrS 61 x i und_61 size_80
@[simp] theorem o_len_61 {x : Operand} : actO TT self (.call ⟨.builtin .len, #[x], #[61]⟩) f s = pureR (vLenSl x f.eval s.heap) s := act_lenSl x und_61
@[simp] theorem o_append_61 {x y : Operand} : actO TT self (.call ⟨.builtin .append, #[x, y], #[61, 61]⟩) f s = eAppend 3 x y self f.eval s := act_append x y und_61 und_61 size_80 bytes_80 zero_80 rfl
@[simp] theorem o_load_63 {x : Operand} : actO TT self (.load 63 x) f s = pureR (vLoad (some 7) x f.eval s.heap) s := by rw [act_load, agg_63]; rfl
@[simp] theorem o_fieldAddr_63_0 {x : Operand} : actO TT self (.fieldAddr 63 x 0) f s = pureR (vFieldAddr 0 x f.eval s.heap) s := act_fieldAddr 63 x 0 und_63 rfl size_5 rfl
@[simp] theorem o_fieldAddr_63_1 {x : Operand} : actO TT self (.fieldAddr 63 x 1) f s = pureR (vFieldAddr 1 x f.eval s.heap) s := act_fieldAddr 63 x 1 und_63 rfl size_5 rfl
@[simp] theorem o_fieldAddr_63_2 {x : Operand} : actO TT self (.fieldAddr 63 x 2) f s = pureR (vFieldAddr 2 x f.eval s.heap) s := act_fieldAddr 63 x 2 und_63 rfl size_5 rfl
@[simp] theorem o_fieldAddr_63_3 {x : Operand} : actO TT self (.fieldAddr 63 x 3) f s = pureR (vFieldAddr 3 x f.eval s.heap) s := act_fieldAddr 63 x 3 und_63 rfl size_59 rfl
@[simp] theorem o_fieldAddr_63_4 {x : Operand} : actO TT self (.fieldAddr 63 x 4) f s = pureR (vFieldAddr 4 x f.eval s.heap) s := act_fieldAddr 63 x 4 und_63 rfl size_60 rfl
@[simp] theorem o_fieldAddr_63_5 {x : Operand} : actO TT self (.fieldAddr 63 x 5) f s = pureR (vFieldAddr 6 x f.eval s.heap) s := act_fieldAddr 63 x 5 und_63 rfl size_61 rfl
@[simp] theorem o_load_70 {x : Operand} : actO TT self (.load 70 x) f s = pureR (vLoad (some 2) x f.eval s.heap) s := by rw [act_load, agg_70]; rfl
@[simp] theorem o_fieldAddr_70_0 {x : Operand} : actO TT self (.fieldAddr 70 x 0) f s = pureR (vFieldAddr 0 x f.eval s.heap) s := act_fieldAddr 70 x 0 und_70 rfl size_5 rfl
@[simp] theorem o_fieldAddr_70_1 {x : Operand} : actO TT self (.fieldAddr 70 x 1) f s = pureR (vFieldAddr 1 x f.eval s.heap) s := act_fieldAddr 70 x 1 und_70 rfl size_61 rfl
@[simp] theorem o_indexAddr_74 {x i : Operand} : actO TT self (.indexAddr 74 x i) f s = pureR (vIndexAddrA 4 1 x i f.eval s.heap) s := act_indexAddrA 74 x i und_74 size_3
@[simp] theorem o_indexAddr_75 {x i : Operand} : actO TT self (.indexAddr 75 x i) f s = pureR (vIndexAddrA 4 1 x i f.eval s.heap) s := act_indexAddrA 75 x i und_75 size_4
@[simp] theorem o_fieldAddr_77_0 {x : Operand} : actO TT self (.fieldAddr 77 x 0) f s = pureR (vFieldAddr 0 x f.eval s.heap) s := act_fieldAddr 77 x 0 und_77 rfl size_74 rfl
@[simp] theorem o_fieldAddr_77_1 {x : Operand} : actO TT self (.fieldAddr 77 x 1) f s = pureR (vFieldAddr 4 x f.eval s.heap) s := act_fieldAddr 77 x 1 und_77 rfl size_74 rfl
@[simp] theorem o_fieldAddr_77_2 {x : Operand} : actO TT self (.fieldAddr 77 x 2) f s = pureR (vFieldAddr 8 x f.eval s.heap) s := act_fieldAddr 77 x 2 und_77 rfl size_74 rfl
@[simp] theorem o_fieldAddr_77_3 {x : Operand} : actO TT self (.fieldAddr 77 x 3) f s = pureR (vFieldAddr 12 x f.eval s.heap) s := act_fieldAddr 77 x 3 und_77 rfl size_75 rfl
@[simp] theorem o_fieldAddr_77_4 {x : Operand} : actO TT self (.fieldAddr 77 x 4) f s = pureR (vFieldAddr 16 x f.eval s.heap) s := act_fieldAddr 77 x 4 und_77 rfl size_3 rfl
@[simp] theorem o_build_77 {pl0 : Array (Nat × Operand)} : actO TT self (.build 77 pl0) f s = ob (placesS [(0, 4), (4, 4), (8, 4), (12, 4), (16, 1)] pl0.toList) fun l => pureR (aggV (fillL f.eval l ((.agg #[(.int .i64 0), (.int .i64 0), (.int .i64 0), (.int .i64 0), (.int .i64 0), (.int .i64 0), (.int .i64 0), (.int .i64 0), (.int .i64 0), (.int .i64 0), (.int .i64 0), (.int .i64 0), (.bool false), (.bool false), (.bool false), (.bool false), (.int .i64 0)]) : Value).cells.toList)) s := act_buildS 77 pl0 zero_77 und_77 (by kernel_rfl)
@[simp] theorem o_load_80 {x : Operand} : actO TT self (.load 80 x) f s = pureR (vLoad (some 3) x f.eval s.heap) s := by rw [act_load, agg_80]; rfl
@[simp] theorem o_store_80 {a x : Operand} : actO TT self (.store 80 a x) f s = eStore 3 a x self f.eval s := by rw [act_store, size_80]; rfl
@[simp] theorem o_alloc_80 : actO TT self (.alloc 80) f s = exNew s (.cells ((.agg #[(.int .u8 0), (.int .u8 0), (.int .u8 0)]) : Value).cells.toList none) ptrTo := by rw [act_alloc, zero_80]; rfl
@[simp] theorem o_indexAddr_80 {x i : Operand} : actO TT self (.indexAddr 80 x i) f s = pureR (vIndexAddrA 3 1 x i f.eval s.heap) s := act_indexAddrA 80 x i und_80 size_5
@[simp] theorem o_load_82 {x : Operand} : actO TT self (.load 82 x) f s = pureR (vLoad (some 3) x f.eval s.heap) s := by rw [act_load, agg_82]; rfl
@[simp] theorem o_store_82 {a x : Operand} : actO TT self (.store 82 a x) f s = eStore 3 a x self f.eval s := by rw [act_store, size_82]; rfl
@[simp] theorem o_alloc_82 : actO TT self (.alloc 82) f s = exNew s (.cells ((.agg #[(.int .i64 0), (.int .i64 0), (.int .i64 0)]) : Value).cells.toList none) ptrTo := by rw [act_alloc, zero_82]; rfl
@[simp] theorem o_fieldAddr_82_0 {x : Operand} : actO TT self (.fieldAddr 82 x 0) f s = pureR (vFieldAddr 0 x f.eval s.heap) s := act_fieldAddr 82 x 0 und_82 rfl size_3 rfl
@[simp] theorem o_fieldAddr_82_1 {x : Operand} : actO TT self (.fieldAddr 82 x 1) f s = pureR (vFieldAddr 1 x f.eval s.heap) s := act_fieldAddr 82 x 1 und_82 rfl size_3 rfl
@[simp] theorem o_fieldAddr_82_2 {x : Operand} : actO TT self (.fieldAddr 82 x 2) f s = pureR (vFieldAddr 2 x f.eval s.heap) s := act_fieldAddr 82 x 2 und_82 rfl size_3 rfl
@[simp] theorem o_build_82 {pl0 : Array (Nat × Operand)} : actO TT self (.build 82 pl0) f s = ob (placesS [(0, 1), (1, 1), (2, 1)] pl0.toList) fun l => pureR (aggV (fillL f.eval l ((.agg #[(.int .i64 0), (.int .i64 0), (.int .i64 0)]) : Value).cells.toList)) s := act_buildS 82 pl0 zero_82 und_82 (by kernel_rfl)
@[simp] theorem o_load_90 {x : Operand} : actO TT self (.load 90 x) f s = pureR (vLoad (some 2) x f.eval s.heap) s := by rw [act_load, agg_90]; rfl
@[simp] theorem o_store_90 {a x : Operand} : actO TT self (.store 90 a x) f s = eStore 2 a x self f.eval s := by rw [act_store, size_90]; rfl
@[simp] theorem o_alloc_90 : actO TT self (.alloc 90) f s = exNew s (.cells ((.agg #[(.int .i64 0), (.int .i64 0)]) : Value).cells.toList none) ptrTo := by rw [act_alloc, zero_90]; rfl
@[simp] theorem o_fieldAddr_90_0 {x : Operand} : actO TT self (.fieldAddr 90 x 0) f s = pureR (vFieldAddr 0 x f.eval s.heap) s := act_fieldAddr 90 x 0 und_90 rfl size_3 rfl
@[simp] theorem o_fieldAddr_90_1 {x : Operand} : actO TT self (.fieldAddr 90 x 1) f s = pureR (vFieldAddr 1 x f.eval s.heap) s := act_fieldAddr 90 x 1 und_90 rfl size_3 rfl
@[simp] theorem o_build_90 {pl0 : Array (Nat × Operand)} : actO TT self (.build 90 pl0) f s = ob (placesS [(0, 1), (1, 1)] pl0.toList) fun l => pureR (aggV (fillL f.eval l ((.agg #[(.int .i64 0), (.int .i64 0)]) : Value).cells.toList)) s := act_buildS 90 pl0 zero_90 und_90 (by kernel_rfl)
@[simp] theorem o_indexAddr_91 {x i : Operand} : actO TT self (.indexAddr 91 x i) f s = pureR (vIndexAddrA 30 2 x i f.eval s.heap) s := act_indexAddrA 91 x i und_91 size_90
@[simp] theorem o_load_93 {x : Operand} : actO TT self (.load 93 x) f s = pureR (vLoad (some 121) x f.eval s.heap) s := by rw [act_load, agg_93]; rfl
@[simp] theorem o_store_93 {a x : Operand} : actO TT self (.store 93 a x) f s = eStore 121 a x self f.eval s := by rw [act_store, size_93]; rfl
@[simp] theorem o_alloc_93 : actO TT self (.alloc 93) f s = exNew s (.cells ((.agg #[(.int .i64 0), (.int .i64 0), (.int .i64 0), (.int .i64 0), (.int .i64 0), (.int .i64 0), (.int .i64 0), (.int .i64 0), (.int .i64 0), (.int .i64 0), (.int .i64 0), (.int .i64 0), (.int .i64 0), (.int .i64 0), (.int .i64 0), (.int .i64 0), (.int .i64 0), (.int .i64 0), (.int .i64 0), (.int .i64 0), (.int .i64 0), (.int .i64 0), (.int .i64 0), (.int .i64 0), (.int .i64 0), (.int .i64 0), (.int .i64 0), (.int .i64 0), (.int .i64 0), (.int .i64 0), (.int .i64 0), (.int .i64 0), (.int .i64 0), (.int .i64 0), (.int .i64 0), (.int .i64 0), (.int .i64 0), (.int .i64 0), (.int .i64 0), (.int .i64 0), (.int .i64 0), (.int .i64 0), (.int .i64 0), (.int .i64 0), (.int .i64 0), (.int .i64 0), (.int .i64 0), (.int .i64 0), (.int .i64 0), (.int .i64 0), (.int .i64 0), (.int .i64 0), (.int .i64 0), (.int .i64 0), (.int .i64 0), (.int .i64 0), (.int .i64 0), (.int .i64 0), (.int .i64 0), (.int .i64 0), (.int .i64 0), (.int .i64 0), (.int .i64 0), (.int .i64 0), (.int .i64 0), (.int .i64 0), (.int .i64 0), (.int .i64 0), (.int .i64 0), (.int .i64 0), (.int .i64 0), (.int .i64 0), (.int .i64 0), (.int .i64 0), (.int .i64 0), (.int .i64 0), (.int .i64 0), (.int .i64 0), (.int .i64 0), (.int .i64 0), (.int .i64 0), (.int .i64 0), (.int .i64 0), (.int .i64 0), (.int .i64 0), (.int .i64 0), (.int .i64 0), (.int .i64 0), (.int .i64 0), (.int .i64 0), (.int .i64 0), (.int .i64 0), (.int .i64 0), (.int .i64 0), (.int .i64 0), (.int .i64 0), (.int .i64 0), (.int .i64 0), (.int .i64 0), (.int .i64 0), (.int .i64 0), (.int .i64 0), (.int .i64 0), (.int .i64 0), (.int .i64 0), (.int .i64 0), (.int .i64 0), (.int .i64 0), (.int .i64 0), (.int .i64 0), (.int .i64 0), (.int .i64 0), (.int .i64 0), (.int .i64 0), (.int .i64 0), (.int .i64 0), (.int .i64 0), (.int .i64 0), (.int .i64 0), (.int .i64 0), (.int .i64 0)]) : Value).cells.toList none) ptrTo := by rw [act_alloc, zero_93]; rfl
@[simp] theorem o_fieldAddr_93_0 {x : Operand} : actO TT self (.fieldAddr 93 x 0) f s = pureR (vFieldAddr 0 x f.eval s.heap) s := act_fieldAddr 93 x 0 und_93 rfl size_3 rfl
@[simp] theorem o_fieldAddr_93_1 {x : Operand} : actO TT self (.fieldAddr 93 x 1) f s = pureR (vFieldAddr 1 x f.eval s.heap) s := act_fieldAddr 93 x 1 und_93 rfl size_91 rfl
@[simp] theorem o_fieldAddr_93_2 {x : Operand} : actO TT self (.fieldAddr 93 x 2) f s = pureR (vFieldAddr 61 x f.eval s.heap) s := act_fieldAddr 93 x 2 und_93 rfl size_91 rfl
@[simp] theorem o_build_93 {pl0 : Array (Nat × Operand)} : actO TT self (.build 93 pl0) f s = ob (placesS [(0, 1), (1, 60), (61, 60)] pl0.toList) fun l => pureR (aggV (fillL f.eval l ((.agg #[(.int .i64 0), (.int .i64 0), (.int .i64 0), (.int .i64 0), (.int .i64 0), (.int .i64 0), (.int .i64 0), (.int .i64 0), (.int .i64 0), (.int .i64 0), (.int .i64 0), (.int .i64 0), (.int .i64 0), (.int .i64 0), (.int .i64 0), (.int .i64 0), (.int .i64 0), (.int .i64 0), (.int .i64 0), (.int .i64 0), (.int .i64 0), (.int .i64 0), (.int .i64 0), (.int .i64 0), (.int .i64 0), (.int .i64 0), (.int .i64 0), (.int .i64 0), (.int .i64 0), (.int .i64 0), (.int .i64 0), (.int .i64 0), (.int .i64 0), (.int .i64 0), (.int .i64 0), (.int .i64 0), (.int .i64 0), (.int .i64 0), (.int .i64 0), (.int .i64 0), (.int .i64 0), (.int .i64 0), (.int .i64 0), (.int .i64 0), (.int .i64 0), (.int .i64 0), (.int .i64 0), (.int .i64 0), (.int .i64 0), (.int .i64 0), (.int .i64 0), (.int .i64 0), (.int .i64 0), (.int .i64 0), (.int .i64 0), (.int .i64 0), (.int .i64 0), (.int .i64 0), (.int .i64 0), (.int .i64 0), (.int .i64 0), (.int .i64 0), (.int .i64 0), (.int .i64 0), (.int .i64 0), (.int .i64 0), (.int .i64 0), (.int .i64 0), (.int .i64 0), (.int .i64 0), (.int .i64 0), (.int .i64 0), (.int .i64 0), (.int .i64 0), (.int .i64 0), (.int .i64 0), (.int .i64 0), (.int .i64 0), (.int .i64 0), (.int .i64 0), (.int .i64 0), (.int .i64 0), (.int .i64 0), (.int .i64 0), (.int .i64 0), (.int .i64 0), (.int .i64 0), (.int .i64 0), (.int .i64 0), (.int .i64 0), (.int .i64 0), (.int .i64 0), (.int .i64 0), (.int .i64 0), (.int .i64 0), (.int .i64 0), (.int .i64 0), (.int .i64 0), (.int .i64 0), (.int .i64 0), (.int .i64 0), (.int .i64 0), (.int .i64 0), (.int .i64 0), (.int .i64 0), (.int .i64 0), (.int .i64 0), (.int .i64 0), (.int .i64 0), (.int .i64 0), (.int .i64 0), (.int .i64 0), (.int .i64 0), (.int .i64 0), (.int .i64 0), (.int .i64 0), (.int .i64 0), (.int .i64 0), (.int .i64 0), (.int .i64 0), (.int .i64 0)]) : Value).cells.toList)) s := act_buildS 93 pl0 zero_93 und_93 (by kernel_rfl)
@[simp] theorem o_load_103 {x : Operand} : actO TT self (.load 103 x) f s = pureR (vLoad (some 2) x f.eval s.heap) s := by rw [act_load, agg_103]; rfl
@[simp] theorem o_store_103 {a x : Operand} : actO TT self (.store 103 a x) f s = eStore 2 a x self f.eval s := by rw [act_store, size_103]; rfl
@[simp] theorem o_alloc_103 : actO TT self (.alloc 103) f s = exNew s (.cells ((.agg #[(.int .i64 0), (.int .i64 0)]) : Value).cells.toList none) ptrTo := by rw [act_alloc, zero_103]; rfl
@[simp] theorem o_fieldAddr_103_0 {x : Operand} : actO TT self (.fieldAddr 103 x 0) f s = pureR (vFieldAddr 0 x f.eval s.heap) s := act_fieldAddr 103 x 0 und_103 rfl size_3 rfl
@[simp] theorem o_fieldAddr_103_1 {x : Operand} : actO TT self (.fieldAddr 103 x 1) f s = pureR (vFieldAddr 1 x f.eval s.heap) s := act_fieldAddr 103 x 1 und_103 rfl size_3 rfl
@[simp] theorem o_build_103 {pl0 : Array (Nat × Operand)} : actO TT self (.build 103 pl0) f s = ob (placesS [(0, 1), (1, 1)] pl0.toList) fun l => pureR (aggV (fillL f.eval l ((.agg #[(.int .i64 0), (.int .i64 0)]) : Value).cells.toList)) s := act_buildS 103 pl0 zero_103 und_103 (by kernel_rfl)
@[simp] theorem o_load_106 {x : Operand} : actO TT self (.load 106 x) f s = pureR (vLoad (some 3) x f.eval s.heap) s := by rw [act_load, agg_106]; rfl
@[simp] theorem o_store_106 {a x : Operand} : actO TT self (.store 106 a x) f s = eStore 3 a x self f.eval s := by rw [act_store, size_106]; rfl
@[simp] theorem o_alloc_106 : actO TT self (.alloc 106) f s = exNew s (.cells ((.agg #[(.int .i64 0), (.int .i64 0), (.int .i64 0)]) : Value).cells.toList none) ptrTo := by rw [act_alloc, zero_106]; rfl
@[simp] theorem o_fieldAddr_106_0 {x : Operand} : actO TT self (.fieldAddr 106 x 0) f s = pureR (vFieldAddr 0 x f.eval s.heap) s := act_fieldAddr 106 x 0 und_106 rfl size_3 rfl
@[simp] theorem o_fieldAddr_106_1 {x : Operand} : actO TT self (.fieldAddr 106 x 1) f s = pureR (vFieldAddr 1 x f.eval s.heap) s := act_fieldAddr 106 x 1 und_106 rfl size_3 rfl
@[simp] theorem o_fieldAddr_106_2 {x : Operand} : actO TT self (.fieldAddr 106 x 2) f s = pureR (vFieldAddr 2 x f.eval s.heap) s := act_fieldAddr 106 x 2 und_106 rfl size_3 rfl
@[simp] theorem o_load_114 {x : Operand} : actO TT self (.load 114 x) f s = pureR (vLoad none x f.eval s.heap) s := by rw [act_load, agg_114]; rfl
@[simp] theorem o_store_114 {a x : Operand} : actO TT self (.store 114 a x) f s = eStore 1 a x self f.eval s := by rw [act_store, size_114]; rfl
@[simp] theorem o_alloc_114 : actO TT self (.alloc 114) f s = exNew s (.cells ((.slice none 0 0) : Value).cells.toList none) ptrTo := by rw [act_alloc, zero_114]; rfl
@[simp] theorem o_indexAddr_114 {x i : Operand} : actO TT self (.indexAddr 114 x i) f s = pureR (vIndexAddrS 2 x i f.eval s.heap) s := act_indexAddrS 114 x i und_114 size_90
@[simp] theorem o_len_114 {x : Operand} : actO TT self (.call ⟨.builtin .len, #[x], #[114]⟩) f s = pureR (vLenSl x f.eval s.heap) s := act_lenSl x und_114
@[simp] theorem o_append_114 {x y : Operand} : actO TT self (.call ⟨.builtin .append, #[x, y], #[114, 114]⟩) f s = eAppend 2 x y self f.eval s := act_append x y und_114 und_114 size_90 bytes_90 zero_90 rfl
@[simp] theorem o_buildSlice_114 {len : Nat} {pl0 : Array (Nat × Operand)} (h : len * 2 ≤ 16777216) : actO TT self (.buildSlice 114 len pl0) f s = ob (fillL f.eval (placesA 2 pl0.toList) (repeatL ((.agg #[(.int .i64 0), (.int .i64 0)]) : Value).cells.toList len)) fun c => exNew s (.cells c none) fun i => .slice (some ⟨i, 0, none⟩) len len := act_buildSlice 114 len pl0 und_114 size_90 zero_90 (by rw [show Nat.beq (lenL ((.agg #[(.int .i64 0), (.int .i64 0)]) : Value).cells.toList) 2 = true from rfl, Nat.ble_eq_true_of_le h]; rfl)
@[simp] theorem o_load_129 {x : Operand} : actO TT self (.load 129 x) f s = pureR (vLoad (some 3) x f.eval s.heap) s := by rw [act_load, agg_129]; rfl
@[simp] theorem o_store_129 {a x : Operand} : actO TT self (.store 129 a x) f s = eStore 3 a x self f.eval s := by rw [act_store, size_129]; rfl
@[simp] theorem o_alloc_129 : actO TT self (.alloc 129) f s = exNew s (.cells ((.agg #[(.int .i64 0), (.int .i64 0), (.int .i64 0)]) : Value).cells.toList none) ptrTo := by rw [act_alloc, zero_129]; rfl
@[simp] theorem o_fieldAddr_129_0 {x : Operand} : actO TT self (.fieldAddr 129 x 0) f s = pureR (vFieldAddr 0 x f.eval s.heap) s := act_fieldAddr 129 x 0 und_129 rfl size_3 rfl
@[simp] theorem o_fieldAddr_129_1 {x : Operand} : actO TT self (.fieldAddr 129 x 1) f s = pureR (vFieldAddr 1 x f.eval s.heap) s := act_fieldAddr 129 x 1 und_129 rfl size_90 rfl
@[simp] theorem o_build_129 {pl0 : Array (Nat × Operand)} : actO TT self (.build 129 pl0) f s = ob (placesS [(0, 1), (1, 2)] pl0.toList) fun l => pureR (aggV (fillL f.eval l ((.agg #[(.int .i64 0), (.int .i64 0), (.int .i64 0)]) : Value).cells.toList)) s := act_buildS 129 pl0 zero_129 und_129 (by kernel_rfl)
@[simp] theorem o_load_131 {x : Operand} : actO TT self (.load 131 x) f s = pureR (vLoad (some 6) x f.eval s.heap) s := by rw [act_load, agg_131]; rfl
@[simp] theorem o_store_131 {a x : Operand} : actO TT self (.store 131 a x) f s = eStore 6 a x self f.eval s := by rw [act_store, size_131]; rfl
@[simp] theorem o_alloc_131 : actO TT self (.alloc 131) f s = exNew s (.cells ((.agg #[(.int .i64 0), (.int .i64 0), (.int .i64 0), (.int .i64 0), (.int .i64 0), (.int .i64 0)]) : Value).cells.toList none) ptrTo := by rw [act_alloc, zero_131]; rfl
@[simp] theorem o_fieldAddr_131_0 {x : Operand} : actO TT self (.fieldAddr 131 x 0) f s = pureR (vFieldAddr 0 x f.eval s.heap) s := act_fieldAddr 131 x 0 und_131 rfl size_129 rfl
@[simp] theorem o_fieldAddr_131_1 {x : Operand} : actO TT self (.fieldAddr 131 x 1) f s = pureR (vFieldAddr 3 x f.eval s.heap) s := act_fieldAddr 131 x 1 und_131 rfl size_129 rfl
@[simp] theorem o_build_131 {pl0 : Array (Nat × Operand)} : actO TT self (.build 131 pl0) f s = ob (placesS [(0, 3), (3, 3)] pl0.toList) fun l => pureR (aggV (fillL f.eval l ((.agg #[(.int .i64 0), (.int .i64 0), (.int .i64 0), (.int .i64 0), (.int .i64 0), (.int .i64 0)]) : Value).cells.toList)) s := act_buildS 131 pl0 zero_131 und_131 (by kernel_rfl)
@[simp] theorem o_load_135 {x : Operand} : actO TT self (.load 135 x) f s = pureR (vLoad none x f.eval s.heap) s := by rw [act_load, agg_135]; rfl
@[simp] theorem o_store_135 {a x : Operand} : actO TT self (.store 135 a x) f s = eStore 1 a x self f.eval s := by rw [act_store, size_135]; rfl
@[simp] theorem o_alloc_135 : actO TT self (.alloc 135) f s = exNew s (.cells ((.slice none 0 0) : Value).cells.toList none) ptrTo := by rw [act_alloc, zero_135]; rfl
@[simp] theorem o_indexAddr_135 {x i : Operand} : actO TT self (.indexAddr 135 x i) f s = pureR (vIndexAddrS 121 x i f.eval s.heap) s := act_indexAddrS 135 x i und_135 size_93
@[simp] theorem o_len_135 {x : Operand} : actO TT self (.call ⟨.builtin .len, #[x], #[135]⟩) f s = pureR (vLenSl x f.eval s.heap) s := act_lenSl x und_135
@[simp] theorem o_append_135 {x y : Operand} : actO TT self (.call ⟨.builtin .append, #[x, y], #[135, 135]⟩) f s = eAppend 121 x y self f.eval s := act_append x y und_135 und_135 size_93 bytes_93 zero_93 rfl
@[simp] theorem o_buildSlice_135 {len : Nat} {pl0 : Array (Nat × Operand)} (h : len * 121 ≤ 16777216) : actO TT self (.buildSlice 135 len pl0) f s = ob (fillL f.eval (placesA 121 pl0.toList) (repeatL ((.agg #[(.int .i64 0), (.int .i64 0), (.int .i64 0), (.int .i64 0), (.int .i64 0), (.int .i64 0), (.int .i64 0), (.int .i64 0), (.int .i64 0), (.int .i64 0), (.int .i64 0), (.int .i64 0), (.int .i64 0), (.int .i64 0), (.int .i64 0), (.int .i64 0), (.int .i64 0), (.int .i64 0), (.int .i64 0), (.int .i64 0), (.int .i64 0), (.int .i64 0), (.int .i64 0), (.int .i64 0), (.int .i64 0), (.int .i64 0), (.int .i64 0), (.int .i64 0), (.int .i64 0), (.int .i64 0), (.int .i64 0), (.int .i64 0), (.int .i64 0), (.int .i64 0), (.int .i64 0), (.int .i64 0), (.int .i64 0), (.int .i64 0), (.int .i64 0), (.int .i64 0), (.int .i64 0), (.int .i64 0), (.int .i64 0), (.int .i64 0), (.int .i64 0), (.int .i64 0), (.int .i64 0), (.int .i64 0), (.int .i64 0), (.int .i64 0), (.int .i64 0), (.int .i64 0), (.int .i64 0), (.int .i64 0), (.int .i64 0), (.int .i64 0), (.int .i64 0), (.int .i64 0), (.int .i64 0), (.int .i64 0), (.int .i64 0), (.int .i64 0), (.int .i64 0), (.int .i64 0), (.int .i64 0), (.int .i64 0), (.int .i64 0), (.int .i64 0), (.int .i64 0), (.int .i64 0), (.int .i64 0), (.int .i64 0), (.int .i64 0), (.int .i64 0), (.int .i64 0), (.int .i64 0), (.int .i64 0), (.int .i64 0), (.int .i64 0), (.int .i64 0), (.int .i64 0), (.int .i64 0), (.int .i64 0), (.int .i64 0), (.int .i64 0), (.int .i64 0), (.int .i64 0), (.int .i64 0), (.int .i64 0), (.int .i64 0), (.int .i64 0), (.int .i64 0), (.int .i64 0), (.int .i64 0), (.int .i64 0), (.int .i64 0), (.int .i64 0), (.int .i64 0), (.int .i64 0), (.int .i64 0), (.int .i64 0), (.int .i64 0), (.int .i64 0), (.int .i64 0), (.int .i64 0), (.int .i64 0), (.int .i64 0), (.int .i64 0), (.int .i64 0), (.int .i64 0), (.int .i64 0), (.int .i64 0), (.int .i64 0), (.int .i64 0), (.int .i64 0), (.int .i64 0), (.int .i64 0), (.int .i64 0), (.int .i64 0), (.int .i64 0), (.int .i64 0)]) : Value).cells.toList len)) fun c => exNew s (.cells c none) fun i => .slice (some ⟨i, 0, none⟩) len len := act_buildSlice 135 len pl0 und_135 size_93 zero_93 (by rw [show Nat.beq (lenL ((.agg #[(.int .i64 0), (.int .i64 0), (.int .i64 0), (.int .i64 0), (.int .i64 0), (.int .i64 0), (.int .i64 0), (.int .i64 0), (.int .i64 0), (.int .i64 0), (.int .i64 0), (.int .i64 0), (.int .i64 0), (.int .i64 0), (.int .i64 0), (.int .i64 0), (.int .i64 0), (.int .i64 0), (.int .i64 0), (.int .i64 0), (.int .i64 0), (.int .i64 0), (.int .i64 0), (.int .i64 0), (.int .i64 0), (.int .i64 0), (.int .i64 0), (.int .i64 0), (.int .i64 0), (.int .i64 0), (.int .i64 0), (.int .i64 0), (.int .i64 0), (.int .i64 0), (.int .i64 0), (.int .i64 0), (.int .i64 0), (.int .i64 0), (.int .i64 0), (.int .i64 0), (.int .i64 0), (.int .i64 0), (.int .i64 0), (.int .i64 0), (.int .i64 0), (.int .i64 0), (.int .i64 0), (.int .i64 0), (.int .i64 0), (.int .i64 0), (.int .i64 0), (.int .i64 0), (.int .i64 0), (.int .i64 0), (.int .i64 0), (.int .i64 0), (.int .i64 0), (.int .i64 0), (.int .i64 0), (.int .i64 0), (.int .i64 0), (.int .i64 0), (.int .i64 0), (.int .i64 0), (.int .i64 0), (.int .i64 0), (.int .i64 0), (.int .i64 0), (.int .i64 0), (.int .i64 0), (.int .i64 0), (.int .i64 0), (.int .i64 0), (.int .i64 0), (.int .i64 0), (.int .i64 0), (.int .i64 0), (.int .i64 0), (.int .i64 0), (.int .i64 0), (.int .i64 0), (.int .i64 0), (.int .i64 0), (.int .i64 0), (.int .i64 0), (.int .i64 0), (.int .i64 0), (.int .i64 0), (.int .i64 0), (.int .i64 0), (.int .i64 0), (.int .i64 0), (.int .i64 0), (.int .i64 0), (.int .i64 0), (.int .i64 0), (.int .i64 0), (.int .i64 0), (.int .i64 0), (.int .i64 0), (.int .i64 0), (.int .i64 0), (.int .i64 0), (.int .i64 0), (.int .i64 0), (.int .i64 0), (.int .i64 0), (.int .i64 0), (.int .i64 0), (.int .i64 0), (.int .i64 0), (.int .i64 0), (.int .i64 0), (.int .i64 0), (.int .i64 0), (.int .i64 0), (.int .i64 0), (.int .i64 0), (.int .i64 0), (.int .i64 0), (.int .i64 0)]) : Value).cells.toList) 121 = true from rfl, Nat.ble_eq_true_of_le h]; rfl)
end
end Go.Proofs.Ytnhokodcmeekhaa
namespace Go.Proofs.Ytnhokodcmeekhaa.Kern
open Go

/-! ## Runs of straight code, calls, loops -/
section
variable {T : Tab} {rd : Bool} {n : Nat} {f : Fr} {s : St} {Q : Ex → Fr → St → Prop}
def Run (T : Tab) (F : Self → Option (Fr × St)) (Q : Fr → St → Prop) : Prop := Evn T F fun p => Q p.1 p.2
theorem Run.by_eq {F G : Self → Option (Fr × St)} {Q : Fr → St → Prop} (e : ∀ self, G self = F self) (h : Run T F Q) : Run T G Q := Evn.congr h e
theorem Run.ret {f : Fr} {s : St} {Q : Fr → St → Prop} (h : Q f s) : Run T (fun _ => some (f, s)) Q := Evn.ret h
theorem Run.call {g : FuncId} {args : List Value} {s : St} {G : Value × St → Self → Option (Fr × St)} {Q : Fr → St → Prop} (h : Ev T g args s fun v s' => Run T (G (v, s')) Q) : Run T (fun self => ob (self.call g args s) fun p => G p self) Q := Evn.bind h
theorem Run.mono {F : Self → Option (Fr × St)} {Q R : Fr → St → Prop} (h : Run T F Q) (k : ∀ f s, Q f s → R f s) : Run T F R := Evn.mono h fun _ => k _ _
theorem Cd.reg {id : Nat} {ops : Array Oper} {ds : List (Option Tmp)} {L : List SOp} (hc : okOps T n ops = true) (hd : ops.toList.map (·.dst) = ds) (hl : ops.toList.map strip = L) (h : Run T (fun self => stepsF T self ds L f s) fun f s => Q .normal f s) : Cd T rd n (.region id ops false) f s Q := Cd.region hc hd hl h
theorem SeqK.nm {b : Code} (h : Cd T rd n b f s Q) : SeqK T rd n b Q .normal f s := h
theorem SeqK.x {b : Code} {i : Nat} (h : Q (.exit i) f s) : SeqK T rd n b Q (.exit i) f s := h
theorem SeqK.g {b : Code} {i : Nat} (h : Q (.goto i) f s) : SeqK T rd n b Q (.goto i) f s := h
theorem SeqK.r {b : Code} (h : Q .ret f s) : SeqK T rd n b Q .ret f s := h
theorem BlockK.nm {i : Nat} (h : Q .normal f s) : BlockK i Q .normal f s := h
theorem BlockK.same {i : Nat} (h : Q .normal f s) : BlockK i Q (.exit i) f s := by show (if i = i then _ else _); rw [if_pos rfl]; exact h
theorem BlockK.other {i j : Nat} (e : Nat.beq j i = false) (h : Q (.exit j) f s) : BlockK i Q (.exit j) f s := by
  show (if j = i then _ else _); rw [if_neg (fun q => by subst q; simp at e)]; exact h
theorem BlockK.r {i : Nat} (h : Q .ret f s) : BlockK i Q .ret f s := h
theorem BlockK.g {i l : Nat} (h : Q (.goto l) f s) : BlockK i Q (.goto l) f s := h
/-- What a round leaves: the relation again, with a lesser number, or the loop is left. -/
def LoopK (I : Nat → Fr → St → Prop) (m : Nat) (Q : Ex → Fr → St → Prop) : Ex → Fr → St → Prop
  | .normal, f, s => ∃ m', m' < m ∧ I m' f s
  | .exit i, f, s => Q (.exit i) f s
  | .goto l, f, s => Q (.goto l) f s
  | .ret, f, s => Q .ret f s
theorem LoopK.nm {I : Nat → Fr → St → Prop} {m : Nat} (m' : Nat) (h1 : m' < m) (h : I m' f s) : LoopK I m Q .normal f s := ⟨m', h1, h⟩
theorem LoopK.x {I : Nat → Fr → St → Prop} {m i : Nat} (h : Q (.exit i) f s) : LoopK I m Q (.exit i) f s := h
theorem LoopK.r {I : Nat → Fr → St → Prop} {m : Nat} (h : Q .ret f s) : LoopK I m Q .ret f s := h
theorem LoopK.g {I : Nat → Fr → St → Prop} {m l : Nat} (h : Q (.goto l) f s) : LoopK I m Q (.goto l) f s := h
theorem Cd.inv {c : Code} (I : Nat → Fr → St → Prop) (m : Nat) (h0 : I m f s) (step : ∀ m f s, I m f s → Cd T rd n c f s (LoopK I m Q)) : Cd T rd n (.loop c) f s Q := by
  induction m using Nat.strongRecOn generalizing f s with
  | _ m ih =>
    refine Cd.loop ((step m f s h0).mono fun e f s h => ?_)
    cases e with
    | normal => obtain ⟨m', h1, h2⟩ := h; exact ih m' h1 h2
    | exit i => exact h
    | goto l => exact h
    | ret => exact h
end

theorem Leave.mk {T : Tab} {rs : List ResultVar} {Q : Value → St → Prop} {e : Ex} {f : Fr} {s : St} {vs : List Value} (he : e = .normal ∨ e = .ret) (hm : f.marks = []) (hv : resF T f s rs = some vs) (hq : Q (tupled vs) s) : Leave T rs Q e f s := ⟨he, s, by rw [hm]; rfl, vs, hv, hq⟩
theorem Leave.one {T : Tab} {rs : List ResultVar} {Q : Value → St → Prop} {e : Ex} {f : Fr} {s : St} {vs : List Value} {m : Nat} (he : e = .normal ∨ e = .ret) (hm : f.marks = [m]) (hg : s.heap.get m = some (.deferred true)) (hv : resF T f (s.upded m .dead) rs = some vs) (hq : Q (tupled vs) (s.upded m .dead)) : Leave T rs Q e f s := by
  refine ⟨he, s.upded m .dead, ?_, vs, hv, hq⟩
  rw [hm]
  show ob (s.heap.get m) (fun o => gd (isLive o) (ob (s.upd m .dead) fun s => some s)) = _
  rw [hg]
  show ob (gd (bt (romAt s.heap m) false true) _) _ = _
  rw [romAt_some hg]; rfl

theorem Cd.ite {T : Tab} {rd : Bool} {n : Nat} {f : Fr} {s : St} {Q : Ex → Fr → St → Prop} {o : Operand} {a b : Code} {x : Bool} (hc : constOk o = true) (hx : f.eval o = .bool x) (h1 : x = true → Cd T rd n a f s Q) (h2 : x = false → Cd T rd n b f s Q) : Cd T rd n (.cond o a b) f s Q := Cd.cond x hc hx h1 h2

/-! ## Loops over functions -/
section
variable {T : Tab} {n : Nat} {f : Fr} {s : St} {Q : Ex → Fr → St → Prop}
theorem Cd.range {g : Operand} {ps : Array Tmp} {assign body : Code} {gi : FuncId} {first captured : Array Value} (hc : constOk g = true) (hfv : f.eval g = .func (.func gi) first captured)
    (h : Ev T gi (first.toList ++ [.func (.yield (s.next + 1)) #[] #[]] ++ captured.toList) ((s.pushed (.deferred true)).pushed (.loop ⟨true, none, n, f.tmps, ps.toList, assign, body⟩)) fun _ s' => ∃ r, s'.heap.get (s.next + 1) = some (.loop r) ∧ r.ready = true ∧ r.jump = none ∧ Q .normal ⟨f.tmps, s.next :: f.marks⟩ (s'.upded (s.next + 1) .dead)) :
    Cd T false n (.rangeFunc g ps assign body) f s Q := by
  refine Evn.code ?_
  obtain ⟨m, ⟨v, s'⟩, h1, r, h2, h3, h4, h5⟩ := h
  refine ⟨m, (.normal, ⟨f.tmps, s.next :: f.marks⟩, s'.upded (s.next + 1) .dead), fun k hk => ?_, h5⟩
  show gd true (gd (constOk g) (ob (s.push (.deferred true)) fun s1 => ob (s1.push (.loop ⟨true, none, n, f.tmps, ps.toList, assign, body⟩)) fun s2 => ob (funcOf (f.eval g)) fun q => ob ((run T k).call q.1 (q.2.1 ++ [.func (.yield s1.next) #[] #[]] ++ q.2.2) s2) fun p => cEnd (run T k) n s1.next s.next f p.2)) = _
  rw [hc, hfv]
  show ob ((run T k).call gi (first.toList ++ [.func (.yield (s.next + 1)) #[] #[]] ++ captured.toList) ((s.pushed (.deferred true)).pushed (.loop ⟨true, none, n, f.tmps, ps.toList, assign, body⟩))) (fun p => cEnd (run T k) n (s.next + 1) s.next f p.2) = _
  rw [show (run T k).call gi _ _ = some (v, s') from h1 k hk]
  show ob (ob (s'.heap.get (s.next + 1)) loopOf) (fun r => gd (r.ready || r.jump.isSome) (ob (s'.upd (s.next + 1) .dead) fun s2 => cJump (run T k) n r.jump ⟨f.tmps, s.next :: f.marks⟩ s2)) = _
  rw [h2]
  show gd (r.ready || r.jump.isSome) _ = _
  rw [h3]
  show ob (gd (bt (romAt s'.heap (s.next + 1)) false true) _) (fun s2 => cJump (run T k) n r.jump ⟨f.tmps, s.next :: f.marks⟩ s2) = _
  rw [romAt_some h2, h4]
  rfl
/-- A round. -/
theorem Evn.round {l : Nat} {args : List Value} {r : ALoop} {P : Value × St → Prop} (hl : s.heap.get l = some (.loop r))
    (ha : (Nat.beq (lenL args) (lenL r.params) && r.params.all (fun t => Nat.blt t r.n) && Nat.blt r.n top) = true)
    (h : Cd T true r.n r.assign (putAll r.params args ⟨r.tmps, []⟩) s fun e f1 s1 => e = .normal ∧ ∃ r1, s1.heap.get l = some (.loop r1) ∧ r1.ready = true ∧ r1.jump = none ∧
      Cd T true r.n r.body f1 (s1.upded l (.loop ⟨false, none, r1.n, r1.tmps, r1.params, r1.assign, r1.body⟩)) fun e _ s3 => e = .normal ∧ ∃ r2, s3.heap.get l = some (.loop r2) ∧ P (.bool true, s3.upded l (.loop ⟨true, none, r2.n, r2.tmps, r2.params, r2.assign, r2.body⟩))) :
    Evn T (fun self => exRound self l args s) P := by
  obtain ⟨m, ⟨e, f1, s1⟩, k1, rfl, r1, k2, k3, k4, m2, ⟨e2, f2, s3⟩, k5, rfl, r2, k6, k7⟩ := h
  refine ⟨max m m2, _, fun k hk => ?_, k7⟩
  show ob (ob (s.heap.get l) loopOf) _ = _
  rw [hl]
  show gd _ (ob ((run T k).code true r.n r.assign (putAll r.params args ⟨r.tmps, []⟩) s) _) = _
  rw [ha, show (run T k).code true r.n r.assign (putAll r.params args ⟨r.tmps, []⟩) s = some (.normal, f1, s1) from k1 k (by omega)]
  show gd true (ob (ob (s1.heap.get l) loopOf) fun r1 => gd (r1.ready && r1.jump.isNone) (ob (s1.upd l (.loop ⟨false, none, r1.n, r1.tmps, r1.params, r1.assign, r1.body⟩)) fun s => exBody (run T k) l r f1 s)) = _
  rw [k2]
  show gd (r1.ready && r1.jump.isNone) (ob (gd (bt (romAt s1.heap l) false true) _) _) = _
  rw [k3, k4, romAt_some k2]
  show ob ((run T k).code true r.n r.body f1 (s1.upded l (.loop ⟨false, none, r1.n, r1.tmps, r1.params, r1.assign, r1.body⟩))) _ = _
  rw [show (run T k).code true r.n r.body f1 (s1.upded l (.loop ⟨false, none, r1.n, r1.tmps, r1.params, r1.assign, r1.body⟩)) = some (.normal, f2, s3) from k5 k (by omega)]
  show ob (ob (s3.heap.get l) loopOf) (fun r2 => ob (s3.upd l (.loop ⟨true, none, r2.n, r2.tmps, r2.params, r2.assign, r2.body⟩)) fun s => some (Value.bool true, s)) = _
  rw [k6]
  show ob (gd (bt (romAt s3.heap l) false true) _) _ = _
  rw [romAt_some k6]; rfl
/-- A round that may leave the loop. -/
theorem Evn.roundJ {l : Nat} {args : List Value} {r : ALoop} {P : Value × St → Prop} (hl : s.heap.get l = some (.loop r))
    (ha : (Nat.beq (lenL args) (lenL r.params) && r.params.all (fun t => Nat.blt t r.n) && Nat.blt r.n top) = true)
    (h : Cd T true r.n r.assign (putAll r.params args ⟨r.tmps, []⟩) s fun e f1 s1 => e = .normal ∧ ∃ r1, s1.heap.get l = some (.loop r1) ∧ r1.ready = true ∧ r1.jump = none ∧
      Cd T true r.n r.body f1 (s1.upded l (.loop ⟨false, none, r1.n, r1.tmps, r1.params, r1.assign, r1.body⟩)) fun e _ s3 => ∃ r2, s3.heap.get l = some (.loop r2) ∧ P (.bool (jumpOf e).isNone, s3.upded l (.loop ⟨(jumpOf e).isNone, jumpOf e, r2.n, r2.tmps, r2.params, r2.assign, r2.body⟩))) :
    Evn T (fun self => exRound self l args s) P := by
  obtain ⟨m, ⟨e, f1, s1⟩, k1, rfl, r1, k2, k3, k4, m2, ⟨e2, f2, s3⟩, k5, r2, k6, k7⟩ := h
  refine ⟨max m m2, _, fun k hk => ?_, k7⟩
  show ob (ob (s.heap.get l) loopOf) _ = _
  rw [hl]
  show gd _ (ob ((run T k).code true r.n r.assign (putAll r.params args ⟨r.tmps, []⟩) s) _) = _
  rw [ha, show (run T k).code true r.n r.assign (putAll r.params args ⟨r.tmps, []⟩) s = some (.normal, f1, s1) from k1 k (by omega)]
  show gd true (ob (ob (s1.heap.get l) loopOf) fun r1 => gd (r1.ready && r1.jump.isNone) (ob (s1.upd l (.loop ⟨false, none, r1.n, r1.tmps, r1.params, r1.assign, r1.body⟩)) fun s => exBody (run T k) l r f1 s)) = _
  rw [k2]
  show gd (r1.ready && r1.jump.isNone) (ob (gd (bt (romAt s1.heap l) false true) _) _) = _
  rw [k3, k4, romAt_some k2]
  show ob ((run T k).code true r.n r.body f1 (s1.upded l (.loop ⟨false, none, r1.n, r1.tmps, r1.params, r1.assign, r1.body⟩))) _ = _
  rw [show (run T k).code true r.n r.body f1 (s1.upded l (.loop ⟨false, none, r1.n, r1.tmps, r1.params, r1.assign, r1.body⟩)) = some (e2, f2, s3) from k5 k (by omega)]
  show ob (ob (s3.heap.get l) loopOf) (fun r2 => ob (s3.upd l (.loop ⟨(jumpOf e2).isNone, jumpOf e2, r2.n, r2.tmps, r2.params, r2.assign, r2.body⟩)) fun s => some (Value.bool (jumpOf e2).isNone, s)) = _
  rw [k6]
  show ob (gd (bt (romAt s3.heap l) false true) _) _ = _
  rw [romAt_some k6]; rfl
/-- A loop over a function that may be left. -/
theorem Cd.rangeJ {g : Operand} {ps : Array Tmp} {assign body : Code} {gi : FuncId} {first captured : Array Value} (hc : constOk g = true) (hfv : f.eval g = .func (.func gi) first captured)
    (h : Ev T gi (first.toList ++ [.func (.yield (s.next + 1)) #[] #[]] ++ captured.toList) ((s.pushed (.deferred true)).pushed (.loop ⟨true, none, n, f.tmps, ps.toList, assign, body⟩)) fun _ s' => ∃ r, s'.heap.get (s.next + 1) = some (.loop r) ∧
      ((r.ready = true ∧ r.jump = none ∧ Q .normal ⟨f.tmps, s.next :: f.marks⟩ (s'.upded (s.next + 1) .dead)) ∨ (r.jump = some .ret ∧ Q .ret ⟨f.tmps, s.next :: f.marks⟩ (s'.upded (s.next + 1) .dead)) ∨ ∃ i, r.jump = some (.exit i) ∧ Q (.exit i) ⟨f.tmps, s.next :: f.marks⟩ (s'.upded (s.next + 1) .dead))) :
    Cd T false n (.rangeFunc g ps assign body) f s Q := by
  refine Evn.code ?_
  obtain ⟨m, ⟨v, s'⟩, h1, r, h2, h3⟩ := h
  have key : ∀ (e : Ex) (k : Nat), m ≤ k → (r.ready || r.jump.isSome) = true → cJump (run T k) n r.jump ⟨f.tmps, s.next :: f.marks⟩ (s'.upded (s.next + 1) .dead) = some (e, ⟨f.tmps, s.next :: f.marks⟩, s'.upded (s.next + 1) .dead) → codeF T (run T k) false n (.rangeFunc g ps assign body) f s = some (e, ⟨f.tmps, s.next :: f.marks⟩, s'.upded (s.next + 1) .dead) := fun e k hk hj he => by
    show gd true (gd (constOk g) (ob (s.push (.deferred true)) fun s1 => ob (s1.push (.loop ⟨true, none, n, f.tmps, ps.toList, assign, body⟩)) fun s2 => ob (funcOf (f.eval g)) fun q => ob ((run T k).call q.1 (q.2.1 ++ [.func (.yield s1.next) #[] #[]] ++ q.2.2) s2) fun p => cEnd (run T k) n s1.next s.next f p.2)) = _
    rw [hc, hfv]
    show ob ((run T k).call gi (first.toList ++ [.func (.yield (s.next + 1)) #[] #[]] ++ captured.toList) ((s.pushed (.deferred true)).pushed (.loop ⟨true, none, n, f.tmps, ps.toList, assign, body⟩))) (fun p => cEnd (run T k) n (s.next + 1) s.next f p.2) = _
    rw [show (run T k).call gi _ _ = some (v, s') from h1 k hk]
    show ob (ob (s'.heap.get (s.next + 1)) loopOf) (fun r => gd (r.ready || r.jump.isSome) (ob (s'.upd (s.next + 1) .dead) fun s2 => cJump (run T k) n r.jump ⟨f.tmps, s.next :: f.marks⟩ s2)) = _
    rw [h2]
    show gd (r.ready || r.jump.isSome) _ = _
    rw [hj]
    show ob (gd (bt (romAt s'.heap (s.next + 1)) false true) _) (fun s2 => cJump (run T k) n r.jump ⟨f.tmps, s.next :: f.marks⟩ s2) = _
    rw [romAt_some h2]
    exact he
  rcases h3 with ⟨h3, h4, h5⟩ | ⟨h4, h5⟩ | ⟨i, h4, h5⟩
  · exact ⟨m, _, fun k hk => key .normal k hk (by rw [h3]; rfl) (by rw [h4]; rfl), h5⟩
  · refine ⟨m + 1, _, fun k hk => key .ret k (by omega) (by rw [h4]; simp) ?_, h5⟩
    obtain ⟨j, rfl⟩ : ∃ j, k = j + 1 := ⟨k - 1, by omega⟩
    rw [h4]; rfl
  · refine ⟨m + 1, _, fun k hk => key (.exit i) k (by omega) (by rw [h4]; simp) ?_, h5⟩
    obtain ⟨j, rfl⟩ : ∃ j, k = j + 1 := ⟨k - 1, by omega⟩
    rw [h4]; rfl
/-- A call of a function value, in straight code. -/
theorem Run.callV {fv : Value} {args : List Value} {G : Value × St → Self → Option (Fr × St)} {R : Fr → St → Prop} (h : Evn T (fun self => callV self fv args s) fun p => Run T (G p) R) : Run T (fun self => ob (Kern.callV self fv args s) fun p => G p self) R := Evn.bind h
end

/-! ## Slices in memory -/
/-- A slice whose elements have n cells each. -/
inductive SlAt (n : Nat) (s : St) : Value → List (List Value) → Prop
  | nil (c : Nat) : SlAt n s (.slice none 0 c) []
  | mk {b off c : Nat} {o : AObj} {cs : List Value} {g : Option Nat} {l : List (List Value)} (hb : b < s.next) (ho : s.heap.get b = some o) (hc : cellsOf o = some (cs, g)) (he : ∀ i e, l[i]? = some e → takeL n (cs.drop (off + i * n)) = some e) : SlAt n s (.slice (some ⟨b, off, none⟩) l.length c) l
theorem SlAt.keep {n : Nat} {s s' : St} {v : Value} {l : List (List Value)} (hk : Keep s s') (h : SlAt n s v l) : SlAt n s' v l := by
  cases h with
  | nil c => exact .nil c
  | mk hb ho hc he => exact .mk (Nat.lt_of_lt_of_le hb hk.1) ((hk.2 _ hb).trans ho) hc he
theorem SlAt.shape {n : Nat} {s : St} {v : Value} {l : List (List Value)} (h : SlAt n s v l) : ∃ a c, v = .slice a l.length c := by
  cases h with
  | nil c => exact ⟨none, c, rfl⟩
  | mk hb ho hc he => exact ⟨_, _, rfl⟩
theorem SlAt.at {n : Nat} {s : St} {a : Option Addr} {m c : Nat} {l : List (List Value)} (h : SlAt n s (.slice a m c) l) {k : Nat} {e : List Value} (hk : l[k]? = some e) :
    ∃ b off o cs g, a = some ⟨b, off, none⟩ ∧ b < s.next ∧ s.heap.get b = some o ∧ cellsOf o = some (cs, g) ∧ takeL n (cs.drop (off + k * n)) = some e := by
  cases h with
  | nil c => simp at hk
  | mk hb ho hc he => exact ⟨_, _, _, _, _, rfl, hb, ho, hc, he k e hk⟩
theorem SlAt.len {n : Nat} {s : St} {a : Option Addr} {m c : Nat} {l : List (List Value)} (h : SlAt n s (.slice a m c) l) : m = l.length := by
  cases h <;> rfl
theorem takeL_one {cs : List Value} {x : Value} (h : takeL 1 cs = some [x]) : cs[0]? = some x := by
  cases cs with
  | nil => cases h
  | cons y r => cases h; rfl

/-! ## Regions that draw their order -/
section
variable (T : Tab)
structure DRec where
  idx : Nat
  nw : Bool
  oper : SOp
  fr : Fr
  val : Value
  at_ : Nat
noncomputable def itemD (self : Self) (ds : List (Option Tmp)) (o : SOp) (f : Fr) (s : St) : Option (Value × St) := bt (wantS ds f o.g) (actO T self o.op f s) (some (undef, s))
noncomputable def isNewA (a : CAct) : Bool := CAct.rec (motive := fun _ => Bool) (fun _ => false) (fun _ => true) (fun _ => false) a
noncomputable def valEq : Option (Value × St) → Value → Bool
  | some p, v => veq 5 p.1 v
  | none, _ => false
noncomputable def objEq : Option AObj → Option AObj → Bool
  | some a, some b => oeq a b
  | _, _ => false
noncomputable def newObj (op : Op) (f : Fr) : Option AObj := match compOp T op with
  | some (.new g) => (g f.eval).map (·.1)
  | _ => none
/-- Would it do the same now? -/
noncomputable def recD (self : Self) (ds : List (Option Tmp)) (s : St) (r : DRec) : Bool :=
  bt (wantS ds r.fr r.oper.g) (bt r.nw (objEq (s.heap.get r.at_) (newObj T r.oper.op r.fr)) (valEq (actO T self r.oper.op r.fr s) r.val)) true
noncomputable def stepD (self : Self) (ds : List (Option Tmp)) : List (Nat × Nat × Bool × Bool × SOp) → List DRec → Fr → St → Option (Fr × St)
  | [], pend, f, s => gd (pend.all (recD T self ds s)) (some (f, s))
  | (i, m, h, nw, o) :: r, pend, f, s => bt h
      (gd (pend.all (recD T self ds s)) (ob (itemD T self ds o f s) fun p => stepD self ds r (pend.filter fun q => !m.testBit q.idx) (f.put o.d p.1) p.2))
      (ob (itemD T self ds o f s) fun p => stepD self ds r (⟨i, nw, o, f, p.1, s.next⟩ :: pend) (f.put o.d p.1) p.2)
end
section
variable {T : Tab} {self : Self} {all : List Oper}
/-- An item is made of the operation that it names. -/
def ItemIs (T : Tab) (all : List Oper) (x : PItem) : Prop := guardOf all x.oper = some x.op.guard ∧ x.op.dst = x.oper.dst ∧ comp T x.oper = some x.op.act
def RecMade (r : PRec × Nat) : Prop := wantedF r.1.item.op.guard r.1.fr = true → ∀ g, r.1.item.op.act = .new g → ∃ p, r.1.made = some (r.2, p.1) ∧ g r.1.fr.eval = some p
noncomputable def recOf (r : PRec × Nat) : DRec := ⟨r.1.item.idx, isNewA r.1.item.op.act, strip r.1.item.oper, r.1.fr, r.1.val, r.2⟩
theorem planF_items {n : Nat} : ∀ {l : List (Nat × Oper)} {acc L : List PItem}, planF T n all l acc = some L → ∀ x ∈ L, ItemIs T all x
  | [], _, _, h, x, hx => by cases h; cases hx
  | p :: r, acc, L, h, x, hx => by
    obtain ⟨_, h1⟩ := gd_eq h
    obtain ⟨g, h2, h3⟩ := ob_eq h1
    obtain ⟨a, h4, h5⟩ := ob_eq h3
    obtain ⟨l, h6, h7⟩ := ob_eq h5
    cases h7
    cases hx with
    | head => exact ⟨h2, rfl, h4⟩
    | tail _ hx => exact planF_items h6 x hx
theorem itemD_eq {x : PItem} (h : ItemIs T all x) (f : Fr) (s : St) : itemD T self (all.map (·.dst)) (strip x.oper) f s = itemF self x f s := by
  unfold itemD itemF actO strip
  simp only []
  rw [wantS_eq h.1, ← compOp_eq, h.2.2]; rfl
theorem recD_eq {r : PRec × Nat} (h : ItemIs T all r.1.item) (hm : RecMade r) (hl : heavyA r.1.item.op.act = false) (s : St) (hr : recD T self (all.map (·.dst)) s (recOf r) = true) : recOk s r.1 = true := by
  unfold recD recOf strip at hr
  unfold recOk
  simp only [] at hr
  rw [wantS_eq h.1] at hr
  cases hw : wantedF r.1.item.op.guard r.1.fr with
  | false => rfl
  | true =>
    rw [hw] at hr
    simp only [bt_true] at hr ⊢
    unfold newObj actO at hr
    rw [← compOp_eq, h.2.2] at hr
    cases ha : r.1.item.op.act with
    | pure g =>
      rw [ha] at hr
      change bt false _ (valEq (ob (g r.1.fr.eval s.heap) fun v => some (v, s)) r.1.val) = true at hr
      rw [bt_false] at hr
      show Option.rec (motive := fun _ => Bool) false (fun v => veq 5 v r.1.val) (g r.1.fr.eval s.heap) = true
      cases hg : g r.1.fr.eval s.heap with
      | none => rw [hg] at hr; cases hr
      | some v => rw [hg] at hr; exact hr
    | new g =>
      rw [ha] at hr
      obtain ⟨p, h1, h2⟩ := hm hw g ha
      change bt true (objEq (s.heap.get r.2) ((g r.1.fr.eval).map (·.1))) _ = true at hr
      rw [h2, bt_true] at hr
      show Option.rec (motive := fun _ => Bool) false (fun p => Option.rec (motive := fun _ => Bool) false (fun o => oeq o p.2) (s.heap.get p.1)) r.1.made = true
      rw [h1]
      show Option.rec (motive := fun _ => Bool) false (fun o' => oeq o' p.1) (s.heap.get r.2) = true
      change objEq (s.heap.get r.2) (some p.1) = true at hr
      cases hs : s.heap.get r.2 with
      | none => rw [hs] at hr; cases hr
      | some o' => rw [hs] at hr; exact hr
    | act g => rw [ha] at hl; cases hl
theorem all_rec {pend : List (PRec × Nat)} (hp : ∀ r ∈ pend, ItemIs T all r.1.item ∧ RecMade r ∧ heavyA r.1.item.op.act = false) {s : St} (h : (pend.map recOf).all (recD T self (all.map (·.dst)) s) = true) : (pend.map (·.1)).all (recOk s) = true := by
  rw [List.all_eq_true] at h ⊢
  intro r hr
  obtain ⟨q, hq, rfl⟩ := List.mem_map.1 hr
  obtain ⟨h1, h2, h3⟩ := hp q hq
  exact recD_eq h1 h2 h3 s (h _ (List.mem_map_of_mem hq))
theorem stepD_run : ∀ {L : List PItem} {pend : List (PRec × Nat)} {f : Fr} {s : St} {q : Fr × St}, (∀ x ∈ L, ItemIs T all x) → (∀ r ∈ pend, ItemIs T all r.1.item ∧ RecMade r ∧ heavyA r.1.item.op.act = false) →
    stepD T self (all.map (·.dst)) (L.map fun x => (x.idx, x.mask, heavyA x.op.act, isNewA x.op.act, strip x.oper)) (pend.map recOf) f s = some q → planRun self L (pend.map (·.1)) f s = some q
  | [], pend, f, s, q, _, hp, h => by
    obtain ⟨h1, h2⟩ := gd_eq h
    show gd ((pend.map (·.1)).all (recOk s)) (some (f, s)) = some q
    rw [all_rec hp h1]; exact h2
  | x :: r, pend, f, s, q, hL, hp, h => by
    have hx := hL x (.head _)
    have hr := fun y hy => hL y (.tail _ hy)
    change bt (heavyA x.op.act) (gd ((pend.map recOf).all (recD T self (all.map (·.dst)) s)) (ob (itemD T self (all.map (·.dst)) (strip x.oper) f s) fun p => stepD T self (all.map (·.dst)) (r.map _) ((pend.map recOf).filter fun q => !x.mask.testBit q.idx) (f.put x.oper.dst p.1) p.2))
      (ob (itemD T self (all.map (·.dst)) (strip x.oper) f s) fun p => stepD T self (all.map (·.dst)) (r.map _) (⟨x.idx, isNewA x.op.act, strip x.oper, f, p.1, s.next⟩ :: pend.map recOf) (f.put x.oper.dst p.1) p.2) = some q at h
    show bt (heavyA x.op.act) (gd ((pend.map (·.1)).all (recOk s)) (ob (itemF self x f s) fun p => planRun self r ((pend.map (·.1)).filter fun r => !x.mask.testBit r.item.idx) (f.put x.op.dst p.1) p.2))
      (ob (itemF self x f s) fun p => planRun self r (⟨x, f, p.1, madeF x f s⟩ :: pend.map (·.1)) (f.put x.op.dst p.1) p.2) = some q
    rw [itemD_eq hx] at h
    rw [hx.2.1]
    cases hh : heavyA x.op.act with
    | true =>
      rw [hh] at h
      obtain ⟨h1, h2⟩ := gd_eq h
      obtain ⟨p, h3, h4⟩ := ob_eq h2
      show gd ((pend.map (·.1)).all (recOk s)) _ = _
      rw [all_rec hp h1, h3]
      rw [List.filter_map] at h4
      show planRun self r ((pend.map (·.1)).filter fun r => !x.mask.testBit r.item.idx) _ _ = _
      rw [List.filter_map]
      exact stepD_run (pend := pend.filter fun q => !x.mask.testBit q.1.item.idx) hr (fun r' hr' => hp r' (List.mem_filter.1 hr').1) h4
    | false =>
      rw [hh] at h
      obtain ⟨p, h3, h4⟩ := ob_eq h
      show ob (itemF self x f s) _ = _
      rw [h3]
      refine stepD_run (pend := (⟨x, f, p.1, madeF x f s⟩, s.next) :: pend) hr (fun r' hr' => ?_) h4
      cases hr' with
      | head =>
        refine ⟨hx, fun hw g hg => ?_, hh⟩
        change wantedF x.op.guard f = true at hw
        change x.op.act = .new g at hg
        unfold itemF at h3
        rw [hw] at h3
        change actF self x.op.act f s = some p at h3
        rw [hg] at h3
        obtain ⟨u, h5, h6⟩ := ob_eq (show ob (g f.eval) (fun p => exNew s p.1 p.2) = some p from h3)
        exact ⟨u, by show madeF x f s = _; unfold madeF; rw [hg]; show ob (g f.eval) _ = _; rw [h5]; rfl, h5⟩
      | tail _ hr' => exact hp r' hr'
variable {rd : Bool} {n : Nat} {f : Fr} {s : St} {Q : Ex → Fr → St → Prop}
/-- The order in which a region is calculated: each operation's number, and what lies ahead of it. -/
noncomputable def planL (T : Tab) (n : Nat) (ops : Array Oper) : Option (List (Nat × Nat × Bool × Bool)) := ob (plan T n ops) fun l => some (l.map fun x => (x.idx, x.mask, heavyA x.op.act, isNewA x.op.act))
def ordered (ops : List SOp) : List (Nat × Nat × Bool × Bool) → List (Nat × Nat × Bool × Bool × SOp)
  | [] => []
  | (i, m, h, w) :: r => match ops[i]? with
    | some o => (i, m, h, w, o) :: ordered ops r
    | none => ordered ops r
theorem planF_ord {ops : List Oper} : ∀ {l : List (Nat × Oper)} {acc L : List PItem}, planF T n all l acc = some L → (∀ p ∈ l, ops[p.1]? = some p.2) → ordered (ops.map strip) (L.map fun x => (x.idx, x.mask, heavyA x.op.act, isNewA x.op.act)) = L.map fun x => (x.idx, x.mask, heavyA x.op.act, isNewA x.op.act, strip x.oper)
  | [], _, _, h, _ => by cases h; rfl
  | p :: r, acc, L, h, hp => by
    obtain ⟨_, h1⟩ := gd_eq h
    obtain ⟨g, h2, h3⟩ := ob_eq h1
    obtain ⟨a, h4, h5⟩ := ob_eq h3
    obtain ⟨l, h6, h7⟩ := ob_eq h5
    cases h7
    have ih := planF_ord (ops := ops) h6 fun q hq => hp q (.tail _ hq)
    have hp0 : (ops.map strip)[p.1]? = some (strip p.2) := by rw [List.getElem?_map, hp p (.head _)]; rfl
    simp only [List.map_cons, ordered, hp0, ih]
theorem Cd.drawn {id : Nat} {ops : Array Oper} {pl : List (Nat × Nat × Bool × Bool)} {ds : List (Option Tmp)} {L : List (Nat × Nat × Bool × Bool × SOp)} (hp : planL T n ops = some pl) (hd : ops.toList.map (·.dst) = ds) (hl : ordered (ops.toList.map strip) pl = L) (h : Run T (fun self => stepD T self ds L [] f s) fun f s => Q .normal f s) : Cd T rd n (.region id ops true) f s Q := by
  subst hd; subst hl
  obtain ⟨l, h1, h2⟩ := ob_eq hp
  cases h2
  refine Evn.code ?_
  obtain ⟨m, p, k1, k2⟩ := h
  refine ⟨m, (.normal, p), fun k hk => ?_, k2⟩
  show ob (plan T n ops) (fun l => ob (planRun (run T k) l [] f s) fun p => some (Ex.normal, p)) = _
  rw [h1]
  show ob (planRun (run T k) l [] f s) (fun p => some (Ex.normal, p)) = _
  obtain ⟨l', e1, e2⟩ := ob_eq h1
  obtain ⟨_, e3⟩ := gd_eq e2
  cases e3
  have := planF_ord (ops := ops.toList) e1 (fun p hp => orderF_at _ _ p hp)
  have k1' := k1 k hk
  change stepD T (run T k) (ops.toList.map (·.dst)) (ordered (ops.toList.map strip) (l.map fun x => (x.idx, x.mask, heavyA x.op.act, isNewA x.op.act))) [] f s = some p at k1'
  rw [this] at k1'
  rw [show planRun (run T k) l [] f s = some p from stepD_run (pend := []) (planF_items e1) (fun r hr => by cases hr) k1']
  rfl
end
/-! ### A region of loads and numbers that draws, and one last operation that writes or calls -/
section
variable {T : Tab} {self : Self} {all : List Oper}
noncomputable def stepG (T : Tab) (self : Self) (ds : List (Option Tmp)) : List (Bool × SOp) → Fr → St → Option (Fr × St)
  | [], f, s => some (f, s)
  | (h, o) :: r, f, s => ob (itemD T self ds o f s) fun p => gd (bt h true (veq 5 p.1 p.1)) (stepG T self ds r (f.put o.d p.1) p.2)
def simple : List (Nat × Nat × Bool × Bool) → List Nat → Bool
  | [], _ => true
  | (i, m, h, w) :: r, pend => match h with
    | true => pend.all (fun j => m.testBit j) && simple r []
    | false => !w && simple r (i :: pend)
variable {rd : Bool} {n : Nat} {f : Fr} {s : St} {Q : Ex → Fr → St → Prop}
def orderedG (ops : List SOp) : List (Nat × Nat × Bool × Bool) → List (Bool × SOp)
  | [] => []
  | (i, _, h, _) :: r => match ops[i]? with
    | some o => (h, o) :: orderedG ops r
    | none => orderedG ops r
theorem planF_ordG {ops : List Oper} : ∀ {l : List (Nat × Oper)} {acc L : List PItem}, planF T n all l acc = some L → (∀ p ∈ l, ops[p.1]? = some p.2) → orderedG (ops.map strip) (L.map fun x => (x.idx, x.mask, heavyA x.op.act, isNewA x.op.act)) = L.map fun x => (heavyA x.op.act, strip x.oper)
  | [], _, _, h, _ => by cases h; rfl
  | p :: r, acc, L, h, hp => by
    obtain ⟨_, h1⟩ := gd_eq h
    obtain ⟨g, h2, h3⟩ := ob_eq h1
    obtain ⟨a, h4, h5⟩ := ob_eq h3
    obtain ⟨l, h6, h7⟩ := ob_eq h5
    cases h7
    have ih := planF_ordG (ops := ops) h6 fun q hq => hp q (.tail _ hq)
    have hp0 : (ops.map strip)[p.1]? = some (strip p.2) := by rw [List.getElem?_map, hp p (.head _)]; rfl
    simp only [List.map_cons, orderedG, hp0, ih]
end
/-! ### The same, where some loads stand free of a call: they are done ahead of it, and looked at again behind it -/
section
variable {T : Tab} {self : Self} {all : List Oper}
structure HRec where
  oper : SOp
  fr : Fr
  val : Value
noncomputable def recH (T : Tab) (self : Self) (ds : List (Option Tmp)) (s : St) (r : HRec) : Bool := bt (wantS ds r.fr r.oper.g) (valEq (actO T self r.oper.op r.fr s) r.val) true
noncomputable def recsH (T : Tab) (self : Self) (ds : List (Option Tmp)) (s : St) : List HRec → Bool
  | [] => true
  | r :: l => recH T self ds s r && recsH T self ds s l
noncomputable def stepH (T : Tab) (self : Self) (ds : List (Option Tmp)) : List (Bool × Bool × SOp) → List HRec → Fr → St → Option (Fr × St)
  | [], _, f, s => some (f, s)
  | (h, late, o) :: r, pend, f, s => bt h
      (ob (itemD T self ds o f s) fun p => gd (recsH T self ds p.2 pend) (stepH T self ds r pend (f.put o.d p.1) p.2))
      (ob (itemD T self ds o f s) fun p => gd (veq 5 p.1 p.1) (stepH T self ds r (bt late (⟨o, f, p.1⟩ :: pend) pend) (f.put o.d p.1) p.2))
def lateOf (l : Bool) (i : Nat) (late : List Nat) : List Nat := if l = true then i :: late else late
/-- The flags say which operations are late. -/
def simpleH : List (Nat × Nat × Bool × Bool) → List Bool → List Nat → List Nat → Bool
  | [], _, _, _ => true
  | _ :: _, [], _, _ => false
  | (i, m, h, w) :: r, l :: ls, pend, late => match h with
    | true => pend.all (fun j => m.testBit j || late.contains j) && simpleH r ls (pend.filter fun j => !m.testBit j) late
    | false => !w && simpleH r ls (i :: pend) (lateOf l i late)
def flagH : List (Bool × SOp) → List Bool → List (Bool × Bool × SOp)
  | (h, o) :: r, l :: ls => (h, l, o) :: flagH r ls
  | _, _ => []
def LateOk (T : Tab) (all : List Oper) (late : List Nat) (hp : List HRec) (r : PRec) : Prop := r.item.idx ∈ late → (⟨strip r.item.oper, r.fr, r.val⟩ : HRec) ∈ hp ∧ ItemIs T all r.item ∧ (∃ g, r.item.op.act = .pure g)
theorem recsH_mem {ds : List (Option Tmp)} {s : St} : ∀ {l : List HRec}, recsH T self ds s l = true → ∀ r ∈ l, recH T self ds s r = true
  | [], _, r, h => by cases h
  | q :: l, h, r, hr => by
    simp only [recsH, Bool.and_eq_true] at h
    cases hr with
    | head => exact h.1
    | tail _ hr => exact recsH_mem h.2 r hr
theorem recH_ok {r : PRec} {s : St} (hi : ItemIs T all r.item) (hg : ∃ g, r.item.op.act = .pure g) (h : recH T self (all.map (·.dst)) s ⟨strip r.item.oper, r.fr, r.val⟩ = true) : recOk s r = true := by
  obtain ⟨g, hg⟩ := hg
  unfold recH strip at h
  simp only [] at h
  rw [wantS_eq hi.1] at h
  unfold recOk
  cases hw : wantedF r.item.op.guard r.fr with
  | false => rfl
  | true =>
    rw [hw] at h
    simp only [bt_true] at h ⊢
    unfold actO at h
    rw [← compOp_eq, hi.2.2, hg] at h
    change valEq (ob (g r.fr.eval s.heap) fun v => some (v, s)) r.val = true at h
    rw [hg]
    show Option.rec (motive := fun _ => Bool) false (fun v => veq 5 v r.val) (g r.fr.eval s.heap) = true
    cases hv : g r.fr.eval s.heap with
    | none => rw [hv] at h; cases h
    | some v => rw [hv] at h; exact h
theorem stepH_run : ∀ {L : List PItem} {fl : List Bool} {pend : List PRec} {hp : List HRec} {late : List Nat} {f : Fr} {s : St} {q : Fr × St}, (∀ x ∈ L, ItemIs T all x) → pend.all (recOk s) = true → (∀ r ∈ pend, LateOk T all late hp r) →
    simpleH (L.map fun x => (x.idx, x.mask, heavyA x.op.act, isNewA x.op.act)) fl (pend.map (·.item.idx)) late = true →
    (∀ j ∈ late, j ∉ L.map (·.idx)) → (∀ r ∈ pend, r.item.idx ∉ L.map (·.idx)) → (L.map (·.idx)).Nodup →
    stepH T self (all.map (·.dst)) (flagH (L.map fun x => (heavyA x.op.act, strip x.oper)) fl) hp f s = some q → planRun self L pend f s = some q
  | [], fl, pend, hp, late, f, s, q, _, hpd, _, _, _, _, _, h => by
    show gd (pend.all (recOk s)) (some (f, s)) = some q
    rw [hpd]
    cases fl <;> exact h
  | x :: r, [], pend, hp, late, f, s, q, _, _, _, hs, _, _, _, _ => by simp [simpleH] at hs
  | x :: r, l :: ls, pend, hp, late, f, s, q, hL, hpd, hlate, hs, hnl, hpn, hnd, h => by
    have hx := hL x (.head _)
    have hr := fun y hy => hL y (.tail _ hy)
    rw [List.map_cons, List.nodup_cons] at hnd
    have hnl2 : ∀ j ∈ late, j ∉ r.map (·.idx) := fun j hj hm => hnl j hj (by rw [List.map_cons]; exact .tail _ hm)
    have hpn2 : ∀ r' ∈ pend, r'.item.idx ∉ r.map (·.idx) := fun a ha hm => hpn a ha (by rw [List.map_cons]; exact .tail _ hm)
    have hpx : ∀ r' ∈ pend, r'.item.idx ≠ x.idx := fun a ha he => hpn a ha (by rw [List.map_cons, he]; exact .head _)
    change bt (heavyA x.op.act) (ob (itemD T self (all.map (·.dst)) (strip x.oper) f s) fun p => gd (recsH T self (all.map (·.dst)) p.2 hp) (stepH T self (all.map (·.dst)) (flagH (r.map _) ls) hp (f.put x.oper.dst p.1) p.2))
      (ob (itemD T self (all.map (·.dst)) (strip x.oper) f s) fun p => gd (veq 5 p.1 p.1) (stepH T self (all.map (·.dst)) (flagH (r.map _) ls) (bt l (⟨strip x.oper, f, p.1⟩ :: hp) hp) (f.put x.oper.dst p.1) p.2)) = some q at h
    rw [itemD_eq hx] at h
    show bt (heavyA x.op.act) (gd (pend.all (recOk s)) (ob (itemF self x f s) fun p => planRun self r (pend.filter fun r => !x.mask.testBit r.item.idx) (f.put x.op.dst p.1) p.2))
      (ob (itemF self x f s) fun p => planRun self r (⟨x, f, p.1, madeF x f s⟩ :: pend) (f.put x.op.dst p.1) p.2) = some q
    rw [hx.2.1]
    simp only [List.map_cons, simpleH] at hs
    cases hh : heavyA x.op.act with
    | true =>
      rw [hh] at hs h
      simp only [Bool.and_eq_true] at hs
      obtain ⟨p, h1, h2⟩ := ob_eq (show ob (itemF self x f s) _ = some q from h)
      obtain ⟨h3, h4⟩ := gd_eq h2
      show gd (pend.all (recOk s)) _ = _
      rw [hpd, h1]
      show planRun self r (pend.filter fun r => !x.mask.testBit r.item.idx) _ _ = _
      refine stepH_run hr ?_ (fun a ha => hlate a (List.mem_filter.1 ha).1) ?_ hnl2 (fun a ha => hpn2 a (List.mem_filter.1 ha).1) hnd.2 h4
      · rw [List.all_eq_true]
        intro a ha
        obtain ⟨ha1, ha2⟩ := List.mem_filter.1 ha
        have hq := List.all_eq_true.1 hs.1 _ (List.mem_map_of_mem ha1)
        have hm : a.item.idx ∈ late := by
          simp only [Bool.not_eq_true'] at ha2
          rw [ha2] at hq
          simpa using hq
        obtain ⟨k1, k2, k3⟩ := hlate a ha1 hm
        exact recH_ok k2 k3 (recsH_mem h3 _ k1)
      · rw [← hs.2, List.filter_map]; rfl
    | false =>
      rw [hh] at hs h
      simp only [Bool.and_eq_true, Bool.not_eq_true'] at hs
      obtain ⟨p, h1, h2⟩ := ob_eq (show ob (itemF self x f s) _ = some q from h)
      obtain ⟨h3, h4⟩ := gd_eq h2
      obtain ⟨g, hg⟩ : ∃ g, x.op.act = .pure g := by
        cases ha : x.op.act with
        | pure g => exact ⟨g, rfl⟩
        | new g => rw [ha] at hs; cases hs.1
        | act g => rw [ha] at hh; cases hh
      have hsame : p.2 = s ∧ recOk s ⟨x, f, p.1, madeF x f s⟩ = true := by
        unfold itemF at h1
        unfold recOk
        simp only []
        cases hw : wantedF x.op.guard f with
        | false => rw [hw] at h1; cases h1; exact ⟨rfl, rfl⟩
        | true =>
          rw [hw] at h1
          simp only [bt_true] at h1 ⊢
          rw [hg] at h1 ⊢
          obtain ⟨v, k1, k2⟩ := ob_eq (show ob (g f.eval s.heap) (fun v => some (v, s)) = some p from h1)
          cases k2
          refine ⟨rfl, ?_⟩
          show Option.rec (motive := fun _ => Bool) false (fun v' => veq 5 v' v) (g f.eval s.heap) = true
          rw [k1]; exact h3
      rw [h1]
      show planRun self r (⟨x, f, p.1, madeF x f s⟩ :: pend) _ _ = _
      have hnx : x.idx ∉ late := fun hm => hnl _ hm (.head _)
      refine stepH_run (late := lateOf l x.idx late) hr ?_ ?_ hs.2 ?_ ?_ hnd.2 h4
      · rw [hsame.1, List.all_cons, hsame.2, hpd]; rfl
      · intro a ha
        cases ha with
        | head =>
          intro hm
          cases l with
          | true => exact ⟨.head _, hx, g, hg⟩
          | false => exact absurd hm hnx
        | tail _ ha =>
          intro hm
          cases l with
          | true =>
            have e : a.item.idx ∈ late := by
              rcases List.mem_cons.1 (show a.item.idx ∈ x.idx :: late from hm) with e | e
              · exact absurd e (hpx a ha)
              · exact e
            obtain ⟨k1, k2, k3⟩ := hlate a ha e
            exact ⟨.tail _ k1, k2, k3⟩
          | false => exact hlate a ha hm
      · intro j hj
        cases l with
        | true =>
          cases hj with
          | head => exact hnd.1
          | tail _ hj => exact hnl2 j hj
        | false => exact hnl2 j hj
      · intro a ha
        cases ha with
        | head => exact hnd.1
        | tail _ ha => exact hpn2 a ha
variable {rd : Bool} {n : Nat} {f : Fr} {s : St} {Q : Ex → Fr → St → Prop}
theorem Cd.drawnH (fl : List Bool) {id : Nat} {ops : Array Oper} {pl : List (Nat × Nat × Bool × Bool)} {ds : List (Option Tmp)} {L : List (Bool × Bool × SOp)} (hp : planL T n ops = some pl) (hs : simpleH pl fl [] [] = true) (hn : (pl.map (·.1)).Nodup) (hd : ops.toList.map (·.dst) = ds) (hl : flagH (orderedG (ops.toList.map strip) pl) fl = L)
    (h : Run T (fun self => stepH T self ds L [] f s) fun f s => Q .normal f s) : Cd T rd n (.region id ops true) f s Q := by
  subst hd; subst hl
  obtain ⟨l, h1, h2⟩ := ob_eq hp
  cases h2
  refine Evn.code ?_
  obtain ⟨m, p, k1, k2⟩ := h
  refine ⟨m, (.normal, p), fun k hk => ?_, k2⟩
  show ob (plan T n ops) (fun l => ob (planRun (run T k) l [] f s) fun p => some (Ex.normal, p)) = _
  rw [h1]
  show ob (planRun (run T k) l [] f s) (fun p => some (Ex.normal, p)) = _
  obtain ⟨l', e1, e2⟩ := ob_eq h1
  obtain ⟨_, e3⟩ := gd_eq e2
  cases e3
  have := planF_ordG (ops := ops.toList) e1 (fun p hp => orderF_at _ _ p hp)
  have k1' := k1 k hk
  change stepH T (run T k) (ops.toList.map (·.dst)) (flagH (orderedG (ops.toList.map strip) (l.map fun x => (x.idx, x.mask, heavyA x.op.act, isNewA x.op.act))) fl) [] f s = some p at k1'
  rw [this] at k1'
  have hn' : (l.map (·.idx)).Nodup := by rw [List.map_map] at hn; exact hn
  rw [show planRun (run T k) l [] f s = some p from stepH_run (pend := []) (late := []) (planF_items e1) rfl (fun r hr => by cases hr) hs (fun j hj => by cases hj) (fun r hr => by cases hr) hn' k1']
  rfl
end
section
variable {T : Tab} {self : Self} {ds : List (Option Tmp)} {pend : List HRec} {f : Fr} {s : St}
@[simp] theorem stepH_nil : stepH T self ds [] pend f s = some (f, s) := rfl
@[simp] theorem stepH_heavy (l : Bool) (o : SOp) (r : List (Bool × Bool × SOp)) : stepH T self ds ((true, l, o) :: r) pend f s = ob (itemD T self ds o f s) fun p => gd (recsH T self ds p.2 pend) (stepH T self ds r pend (f.put o.d p.1) p.2) := rfl
@[simp] theorem stepH_light (o : SOp) (r : List (Bool × Bool × SOp)) : stepH T self ds ((false, false, o) :: r) pend f s = ob (itemD T self ds o f s) fun p => gd (veq 5 p.1 p.1) (stepH T self ds r pend (f.put o.d p.1) p.2) := rfl
@[simp] theorem stepH_late (o : SOp) (r : List (Bool × Bool × SOp)) : stepH T self ds ((false, true, o) :: r) pend f s = ob (itemD T self ds o f s) fun p => gd (veq 5 p.1 p.1) (stepH T self ds r (⟨o, f, p.1⟩ :: pend) (f.put o.d p.1) p.2) := rfl
@[simp] theorem itemD_plain (d : Option Tmp) (op : Op) : itemD T self ds ⟨d, op, none⟩ f s = actO T self op f s := rfl
@[simp] theorem itemD_guard (d : Option Tmp) (op : Op) (j : Nat) (b : Bool) : itemD T self ds ⟨d, op, some (j, b)⟩ f s = bt (guardO b f ds[j]?) (actO T self op f s) (some (undef, s)) := rfl
@[simp] theorem recsH_nil : recsH T self ds s [] = true := rfl
@[simp] theorem recsH_cons (r : HRec) (l : List HRec) : recsH T self ds s (r :: l) = (recH T self ds s r && recsH T self ds s l) := rfl
@[simp] theorem recH_plain (d : Option Tmp) (op : Op) (v : Value) : recH T self ds s ⟨⟨d, op, none⟩, f, v⟩ = valEq (actO T self op f s) v := rfl
@[simp] theorem recH_guard (d : Option Tmp) (op : Op) (v : Value) (j : Nat) (b : Bool) : recH T self ds s ⟨⟨d, op, some (j, b)⟩, f, v⟩ = bt (guardO b f ds[j]?) (valEq (actO T self op f s) v) true := rfl
@[simp] theorem stepG_nil : stepG T self ds [] f s = some (f, s) := rfl
@[simp] theorem stepG_heavy (o : SOp) (r : List (Bool × SOp)) : stepG T self ds ((true, o) :: r) f s = ob (itemD T self ds o f s) fun p => stepG T self ds r (f.put o.d p.1) p.2 := rfl
@[simp] theorem stepG_light (o : SOp) (r : List (Bool × SOp)) : stepG T self ds ((false, o) :: r) f s = ob (itemD T self ds o f s) fun p => gd (veq 5 p.1 p.1) (stepG T self ds r (f.put o.d p.1) p.2) := rfl
end
/-! ### A region that draws, as equations -/
theorem veq_int (n : Nat) (k : IntKind) (a : Int) : veq (n + 1) (.int k a) (.int k a) = true := by
  show (kindEq k k && intEq a a) = true
  rw [kindEq_refl, intEq_eq]; simp
theorem veq_bool (n : Nat) (a : Bool) : veq (n + 1) (.bool a) (.bool a) = true := by
  show boolEq a a = true
  cases a <;> rfl
theorem veq_ptr (n : Nat) (i o : Nat) : veq (n + 1) (.pointer (some ⟨i, o, none⟩)) (.pointer (some ⟨i, o, none⟩)) = true := by
  show addrEq _ _ = true
  simp [addrEq]
theorem veq_slice (n : Nat) (i o l c : Nat) : veq (n + 1) (.slice (some ⟨i, o, none⟩) l c) (.slice (some ⟨i, o, none⟩) l c) = true := by
  show (addrEq _ _ && Nat.beq l l && Nat.beq c c) = true
  simp [addrEq]
theorem veq_sliceN (n : Nat) (l c : Nat) : veq (n + 1) (.slice none l c) (.slice none l c) = true := by
  show (Nat.beq l l && Nat.beq c c) = true
  simp
theorem veq_map (n : Nat) (r : Nat) : veq (n + 1) (.map (some r)) (.map (some r)) = true := by
  show Nat.beq r r = true
  simp
@[simp] theorem veq_string (n : Nat) (b : ByteArray) : veq (n + 1) (.string b) (.string b) = true := by
  show bytesEq b.data.toList b.data.toList = true
  rw [bytesEq_eq]; simp
@[simp] theorem veq_agg (n : Nat) (p : Array Value) : veq (n + 1) (.agg p) (.agg p) = listEq (veq n) p.toList p.toList := rfl
@[simp] theorem veq_tuple (n : Nat) (p : Array Value) : veq (n + 1) (.tuple p) (.tuple p) = listEq (veq n) p.toList p.toList := rfl
@[simp] theorem listEq_nil {α : Type} (f : α → α → Bool) : listEq f [] [] = true := rfl
@[simp] theorem listEq_cons {α : Type} (f : α → α → Bool) (x y : α) (r s : List α) : listEq f (x :: r) (y :: s) = (f x y && listEq f r s) := rfl
@[simp] theorem veq_undef (n : Nat) : veq (n + 1) undef undef = true := rfl
theorem valEq_some (p : Value × St) (v : Value) : valEq (some p) v = veq 5 p.1 v := rfl
attribute [simp] veq_int veq_bool veq_ptr veq_slice veq_sliceN veq_map valEq_some
section
variable {T : Tab} {rd : Bool} {n : Nat} {f : Fr} {s : St} {Q : Ex → Fr → St → Prop}
/-! ### Short names: a step of a run goes on by the first that fits -/
theorem Z0 {b : Code} (h : Cd T rd n b f s Q) : SeqK T rd n b Q .normal f s := SeqK.nm h
theorem Z1 {b : Code} {i : Nat} (h : Q (.exit i) f s) : SeqK T rd n b Q (.exit i) f s := SeqK.x h
theorem Z2 {b : Code} (h : Q .ret f s) : SeqK T rd n b Q .ret f s := SeqK.r h
theorem Z3 {b : Code} {i : Nat} (h : Q (.goto i) f s) : SeqK T rd n b Q (.goto i) f s := SeqK.g h
theorem Z4 {i : Nat} (h : Q .normal f s) : BlockK i Q .normal f s := BlockK.nm h
theorem Z5 {i : Nat} (h : Q .normal f s) : BlockK i Q (.exit i) f s := BlockK.same h
theorem Z6 {i j : Nat} (e : Nat.beq j i = false) (h : Q (.exit j) f s) : BlockK i Q (.exit j) f s := BlockK.other e h
theorem Z7 {i : Nat} (h : Q .ret f s) : BlockK i Q .ret f s := BlockK.r h
theorem Z8 {i l : Nat} (h : Q (.goto l) f s) : BlockK i Q (.goto l) f s := BlockK.g h
theorem Z9 {I : Nat → Fr → St → Prop} {m i : Nat} (h : Q (.exit i) f s) : LoopK I m Q (.exit i) f s := LoopK.x h
theorem Z10 {I : Nat → Fr → St → Prop} {m : Nat} (h : Q .ret f s) : LoopK I m Q .ret f s := LoopK.r h
theorem Z11 {a b : Code} (h : Cd T rd n a f s (SeqK T rd n b Q)) : Cd T rd n (.seq a b) f s Q := Cd.seq h
theorem Z12 {id : Nat} {c : Code} (h : Cd T rd n c f s (BlockK id Q)) : Cd T rd n (.block id c) f s Q := Cd.block h
theorem Z13 (h : Q .normal f s) : Cd T rd n .skip f s Q := Cd.skip h
theorem Z14 (h : Q .ret f s) : Cd T rd n .ret f s Q := Cd.ret h
theorem Z15 {id : Nat} (h : Q (.exit id) f s) : Cd T rd n (.exit id) f s Q := Cd.exit h
theorem Z16 {l : Nat} (h : Q .normal f s) : Cd T rd n (.label l) f s Q := Cd.label h
end
/-! All steps at once that need no thought -/
class IsF (b : Bool) : Prop where
  h : b = false
instance : IsF false := ⟨rfl⟩
class Nxt (A : Prop) (B : outParam Prop) : Prop where
  go : B → A
theorem zz {A B : Prop} [h : Nxt A B] (b : B) : A := h.go b
instance (priority := 1) nx {A : Prop} : Nxt A A := ⟨id⟩
section
variable {T : Tab} {rd : Bool} {n : Nat} {f : Fr} {s : St} {Q : Ex → Fr → St → Prop} {X : Prop}
instance {b : Code} [h : Nxt (Cd T rd n b f s Q) X] : Nxt (SeqK T rd n b Q .normal f s) X := ⟨fun x => Z0 (h.go x)⟩
instance {b : Code} {i : Nat} [h : Nxt (Q (.exit i) f s) X] : Nxt (SeqK T rd n b Q (.exit i) f s) X := ⟨fun x => Z1 (h.go x)⟩
instance {b : Code} [h : Nxt (Q .ret f s) X] : Nxt (SeqK T rd n b Q .ret f s) X := ⟨fun x => Z2 (h.go x)⟩
instance {b : Code} {i : Nat} [h : Nxt (Q (.goto i) f s) X] : Nxt (SeqK T rd n b Q (.goto i) f s) X := ⟨fun x => Z3 (h.go x)⟩
instance {i : Nat} [h : Nxt (Q .normal f s) X] : Nxt (BlockK i Q .normal f s) X := ⟨fun x => Z4 (h.go x)⟩
instance {i : Nat} [h : Nxt (Q .normal f s) X] : Nxt (BlockK i Q (.exit i) f s) X := ⟨fun x => Z5 (h.go x)⟩
instance (priority := 900) {i j : Nat} [e : IsF (Nat.beq j i)] [h : Nxt (Q (.exit j) f s) X] : Nxt (BlockK i Q (.exit j) f s) X := ⟨fun x => Z6 e.h (h.go x)⟩
instance {i : Nat} [h : Nxt (Q .ret f s) X] : Nxt (BlockK i Q .ret f s) X := ⟨fun x => Z7 (h.go x)⟩
instance {i l : Nat} [h : Nxt (Q (.goto l) f s) X] : Nxt (BlockK i Q (.goto l) f s) X := ⟨fun x => Z8 (h.go x)⟩
instance {I : Nat → Fr → St → Prop} {m i : Nat} [h : Nxt (Q (.exit i) f s) X] : Nxt (LoopK I m Q (.exit i) f s) X := ⟨fun x => Z9 (h.go x)⟩
instance {I : Nat → Fr → St → Prop} {m : Nat} [h : Nxt (Q .ret f s) X] : Nxt (LoopK I m Q .ret f s) X := ⟨fun x => Z10 (h.go x)⟩
instance {a b : Code} [h : Nxt (Cd T rd n a f s (SeqK T rd n b Q)) X] : Nxt (Cd T rd n (.seq a b) f s Q) X := ⟨fun x => Z11 (h.go x)⟩
instance {id : Nat} {c : Code} [h : Nxt (Cd T rd n c f s (BlockK id Q)) X] : Nxt (Cd T rd n (.block id c) f s Q) X := ⟨fun x => Z12 (h.go x)⟩
instance [h : Nxt (Q .normal f s) X] : Nxt (Cd T rd n .skip f s Q) X := ⟨fun x => Z13 (h.go x)⟩
instance [h : Nxt (Q .ret f s) X] : Nxt (Cd T rd n .ret f s Q) X := ⟨fun x => Z14 (h.go x)⟩
instance {id : Nat} [h : Nxt (Q (.exit id) f s) X] : Nxt (Cd T rd n (.exit id) f s Q) X := ⟨fun x => Z15 (h.go x)⟩
instance {l : Nat} [h : Nxt (Q .normal f s) X] : Nxt (Cd T rd n (.label l) f s Q) X := ⟨fun x => Z16 (h.go x)⟩
/-- A region whose operations are laid out by calculation. -/
theorem Cd.ra {id : Nat} {ops : Array Oper} {ds : List (Option Tmp)} {L : List SOp} (hc : okOps T n ops = true := by kernel_rfl) (hd : ops.toList.map (·.dst) = ds := by conv => lhs; simp only [List.map_cons, List.map_nil]) (hl : ops.toList.map strip = L := by conv => lhs; simp only [List.map_cons, List.map_nil, strip]) (h : Run T (fun self => stepsF T self ds L f s) fun f s => Q .normal f s) : Cd T rd n (.region id ops false) f s Q := Cd.reg hc hd hl h
end
end Go.Proofs.Ytnhokodcmeekhaa.Kern
