/-
  The plan of a region that draws its order is sound. It holds of every program whose table of types and functions fits (TabOk).
-/
import Derived.Test.YteeamkdblcinnaaKernM
namespace Go.Proofs.Yteeamkdblcinnaa.Kern
open Go Go.RowKit

/-! ## What equal values are -/
theorem addrEq_eq {a b : Addr} (h : addrEq a b = true) : a = b := by
  unfold addrEq at h
  simp only [Bool.and_eq_true] at h
  obtain ⟨⟨⟨h1, h2⟩, h3⟩, h4⟩ := h
  obtain ⟨ab, ao, as⟩ := a
  obtain ⟨bb, bo, bs⟩ := b
  have e1 := beq_t h1
  have e2 := beq_t h2
  simp only [Option.isNone_iff_eq_none] at h3 h4
  simp only at e1 e2
  rw [e1, e2, h3, h4]
theorem listEq_eq {α : Type} {f : α → α → Bool} (hf : ∀ a b, f a b = true → a = b) : ∀ {x y : List α}, listEq f x y = true → x = y
  | [], [], _ => rfl
  | [], _ :: _, h => by simp [listEq] at h
  | _ :: _, [], h => by simp [listEq] at h
  | a :: x, b :: y, h => by
    simp only [listEq, Bool.and_eq_true] at h
    rw [hf a b h.1, listEq_eq hf h.2]
theorem veq_eq : ∀ (n : Nat) (a b : Value), veq n a b = true → a = b
  | 0, _, _, h => by simp [veq] at h
  | n + 1, a, b, h => by
    have ih : ∀ m, m = n → ∀ a b, veq m a b = true → a = b := fun m e a b => by rw [e]; exact veq_eq n a b
    unfold veq at h
    split at h
    · cases h
    · rw [boolEq_eq] at h; simp at h; rw [h]
    · simp only [Bool.and_eq_true, intEq_eq, beq_iff_eq] at h; rw [kindEq_eq h.1, h.2]
    · exact congrArg Value.string (ByteArray.ext (Array.toList_inj.1 (eq_of_beq (by rw [← bytesEq_eq]; exact h))))
    · rfl
    · rw [addrEq_eq h]
    · simp only [Bool.and_eq_true] at h; rw [beq_t h.1, beq_t h.2]
    · simp only [Bool.and_eq_true] at h; rw [addrEq_eq h.1.1, beq_t h.1.2, beq_t h.2]
    · rfl
    · rw [beq_t h]
    · rfl
    · rfl
    · simp only [Bool.and_eq_true] at h; rw [beq_t h.1, ih _ (by omega) _ _ h.2]
    · rw [Array.toList_inj.1 (listEq_eq (ih _ (by omega)) h)]
    · rw [Array.toList_inj.1 (listEq_eq (ih _ (by omega)) h)]
    · simp only [Bool.and_eq_true, decide_eq_true_eq] at h
      rw [h.1.1, Array.toList_inj.1 (listEq_eq (ih _ (by omega)) h.1.2), Array.toList_inj.1 (listEq_eq (ih _ (by omega)) h.2)]
    · cases h
theorem optEq_eq {a b : Option Nat} (h : optEq a b = true) : a = b := by
  unfold optEq at h
  split at h
  · rfl
  · rw [beq_t h]
  · cases h
theorem oeq_nr {a b : AObj} (h : oeq a b = true) : isRom a = false := by
  cases a <;> first | rfl | (simp [oeq] at h)
theorem oeq_eq {a b : AObj} (h : oeq a b = true) : a = b := by
  unfold oeq at h
  split at h
  · simp only [Bool.and_eq_true] at h
    rw [listEq_eq (veq_eq 5) h.1, optEq_eq h.2]
  · rw [beq_t h]
  · cases h

/-! ## The plan -/
theorem bindsF_eq (e : Edge) : Region.binds .any e = bindsF e := by
  unfold Region.binds bindsF
  cases e.ground <;> rfl

structure ItemOk (T : Tab) (n : Nat) (all : Array Oper) (x : PItem) : Prop where
  at_ : all[x.idx]? = some x.oper
  dst : dstOk n x.oper.dst = true
  dstEq : x.op.dst = x.oper.dst
  consts : x.oper.op.operands.toList.all constOk = true
  guard : guardOf all.toList x.oper = some x.op.guard
  comp : comp T x.oper = some x.op.act

theorem pickF_at {T : Tab} {listed : Nat} {h : Bool} : ∀ {l : List Oper} {k : Nat} {p : Nat × Oper}, pickF T listed h l k = some p → k ≤ p.1 ∧ l[p.1 - k]? = some p.2
  | [], k, p, hp => by simp [pickF] at hp
  | o :: r, k, p, hp => by
    unfold pickF at hp
    cases hb : (!listed.testBit k && readyF listed o.after.toList && (heavyO T o == h)) with
    | true => rw [hb] at hp; simp only [bt_true, Option.some.injEq] at hp; subst hp; simp
    | false =>
      rw [hb] at hp
      simp only [bt_false] at hp
      obtain ⟨h1, h2⟩ := pickF_at hp
      refine ⟨by omega, ?_⟩
      have : p.1 - k = (p.1 - (k + 1)) + 1 := by omega
      rw [this]; simpa using h2
theorem orderF_at {T : Tab} {ops : List Oper} : ∀ (n listed : Nat) (p : Nat × Oper), p ∈ orderF T ops n listed → ops[p.1]? = some p.2
  | 0, _, p, h => by simp [orderF] at h
  | n + 1, listed, p, h => by
    unfold orderF at h
    split at h
    · rename_i q hq
      rcases List.mem_cons.1 h with rfl | h
      · simpa using (pickF_at hq).2
      · exact orderF_at n _ p h
    · split at h
      · rename_i q hq
        rcases List.mem_cons.1 h with rfl | h
        · simpa using (pickF_at hq).2
        · exact orderF_at n _ p h
      · simp at h

/-- The masks: what lies ahead of an operation is named by an edge of its, or lies ahead of what such an edge names. -/
def MaskOk (acc : List PItem) (x : PItem) : Prop := ∀ j, x.mask.testBit j = true → ∃ e ∈ x.oper.after.toList, bindsF e = true ∧ (e.on = j ∨ ∃ y ∈ acc, y.idx = e.on ∧ y.mask.testBit j = true)
theorem maskAt_ok : ∀ {l : List PItem} {i j : Nat}, (maskAt l i).testBit j = true → ∃ y ∈ l, y.idx = i ∧ y.mask.testBit j = true
  | [], i, j, h => by simp [maskAt] at h
  | x :: r, i, j, h => by
    unfold maskAt at h
    cases hb : Nat.beq x.idx i with
    | true => rw [hb] at h; exact ⟨x, by simp, beq_t hb, h⟩
    | false =>
      rw [hb] at h
      obtain ⟨y, h1, h2⟩ := maskAt_ok h
      exact ⟨y, by simp [h1], h2⟩
theorem maskOf_ok {acc : List PItem} : ∀ {es : List Edge} {j : Nat}, (maskOf acc es).testBit j = true → ∃ e ∈ es, bindsF e = true ∧ (e.on = j ∨ ∃ y ∈ acc, y.idx = e.on ∧ y.mask.testBit j = true)
  | [], j, h => by simp [maskOf] at h
  | e :: es, j, h => by
    unfold maskOf at h
    cases hb : bindsF e with
    | false =>
      rw [hb] at h
      obtain ⟨e', h1, h2⟩ := maskOf_ok h
      exact ⟨e', by simp [h1], h2⟩
    | true =>
      rw [hb] at h
      simp only [bt_true, Nat.testBit_or, Bool.or_eq_true] at h
      rcases h with (h | h) | h
      · rw [Nat.testBit_two_pow] at h
        exact ⟨e, by simp, hb, .inl (by simpa using h)⟩
      · exact ⟨e, by simp, hb, .inr (maskAt_ok h)⟩
      · obtain ⟨e', h1, h2⟩ := maskOf_ok h
        exact ⟨e', by simp [h1], h2⟩

theorem planF_ok {T : Tab} {n : Nat} {all : Array Oper} : ∀ {l : List (Nat × Oper)} {acc L : List PItem}, planF T n all.toList l acc = some L → (∀ p ∈ l, all.toList[p.1]? = some p.2) →
    (∀ x ∈ L, ItemOk T n all x) ∧ ∀ L1 x L2, L = L1 ++ x :: L2 → MaskOk (L1.reverse ++ acc) x
  | [], acc, L, h, _ => by
    simp only [planF, Option.some.injEq] at h
    subst h
    exact ⟨fun x hx => by simp at hx, fun L1 x L2 e => by simp at e⟩
  | p :: l, acc, L, h, hp => by
    unfold planF at h
    obtain ⟨h1, h2⟩ := gd_eq h
    obtain ⟨g, h3, h4⟩ := ob_eq h2
    obtain ⟨a, h5, h6⟩ := ob_eq h4
    obtain ⟨l', h7, h8⟩ := ob_eq h6
    cases h8
    simp only [Bool.and_eq_true] at h1
    obtain ⟨i1, i2⟩ := planF_ok h7 (fun q hq => hp q (by simp [hq]))
    refine ⟨fun x hx => ?_, fun L1 x L2 e => ?_⟩
    · rcases List.mem_cons.1 hx with rfl | hx
      · exact ⟨by simpa using hp p (by simp), h1.1, rfl, h1.2, h3, h5⟩
      · exact i1 x hx
    · cases L1 with
      | nil =>
        simp only [List.nil_append, List.cons.injEq] at e
        obtain ⟨rfl, -⟩ := e
        intro j hj
        simpa using maskOf_ok hj
      | cons y L1 =>
        simp only [List.cons_append, List.cons.injEq] at e
        obtain ⟨rfl, e⟩ := e
        have := i2 L1 x L2 e
        simpa using this

theorem pairsOk_at : ∀ {L : List PItem}, pairsOk L = true → ∀ {L1 x L2 y}, L = L1 ++ x :: L2 → y ∈ L2 → pairOk x y = true
  | [], _, L1, x, L2, y, e, _ => by simp at e
  | z :: L, h, L1, x, L2, y, e, hy => by
    simp only [pairsOk, Bool.and_eq_true] at h
    cases L1 with
    | nil =>
      simp only [List.nil_append, List.cons.injEq] at e
      obtain ⟨rfl, rfl⟩ := e
      exact List.all_eq_true.1 h.1 y hy
    | cons w L1 =>
      simp only [List.cons_append, List.cons.injEq] at e
      exact pairsOk_at h.2 e.2 hy

/-- What pairOk says. -/
structure PairOk (x y : PItem) : Prop where
  idx : x.idx ≠ y.idx
  dst : ∀ t, x.op.dst = some t → y.op.dst ≠ some t
  mask : looks x y = true ∨ looks y x = true ∨ heavyA x.op.act = true → y.mask.testBit x.idx = true
  edge : ∀ e ∈ x.oper.after.toList, bindsF e = true → e.on ≠ y.idx
theorem pairOk_ok {x y : PItem} (h : pairOk x y = true) : PairOk x y := by
  unfold pairOk at h
  simp only [Bool.and_eq_true, Bool.not_eq_true', Bool.or_eq_true] at h
  obtain ⟨⟨⟨h1, h2⟩, h3⟩, h4⟩ := h
  refine ⟨beq_f h1, fun t e e' => ?_, fun hm => ?_, fun e he hb => ?_⟩
  · unfold sameDst at h2
    rw [e, e'] at h2
    simp at h2
  · rcases h3 with h3 | h3
    · simp only [Bool.or_eq_false_iff] at h3
      rcases hm with hm | hm | hm
      · rw [h3.1.1] at hm; cases hm
      · rw [h3.1.2] at hm; cases hm
      · rw [h3.2] at hm; cases hm
    · exact h3
  · have := List.all_eq_true.1 h4 e he
    simp only [Bool.or_eq_true, Bool.not_eq_true', hb, Bool.true_eq_false, false_or] at this
    exact beq_f this

structure PlanOk (T : Tab) (n : Nat) (all : Array Oper) (L : List PItem) : Prop where
  item : ∀ x ∈ L, ItemOk T n all x
  mask : ∀ L1 x L2, L = L1 ++ x :: L2 → MaskOk L1.reverse x
  cover : ∀ i, i < all.size → ∃ x ∈ L, x.idx = i
  edges : ∀ x ∈ L, ∀ e ∈ x.oper.after.toList, bindsF e = true → e.on < all.size ∧ e.on ≠ x.idx
  pair : ∀ {L1 x L2 y}, L = L1 ++ x :: L2 → y ∈ L2 → PairOk x y
theorem plan_ok {T : Tab} {n : Nat} {all : Array Oper} {L : List PItem} (h : plan T n all = some L) : PlanOk T n all L := by
  obtain ⟨l, h1, h2⟩ := ob_eq h
  obtain ⟨h3, h4⟩ := gd_eq h2
  cases h4
  obtain ⟨i1, i2⟩ := planF_ok h1 (fun p hp => orderF_at _ _ p hp)
  unfold planOk at h3
  simp only [Bool.and_eq_true] at h3
  obtain ⟨⟨h5, h6⟩, h7⟩ := h3
  refine ⟨i1, fun L1 x L2 e => by simpa using i2 L1 x L2 e, fun i hi => ?_, fun x hx e he hb => ?_, fun e hy => pairOk_ok (pairsOk_at h7 e hy)⟩
  · have := List.all_eq_true.1 h5 i (by rw [lenL_eq]; simpa using hi)
    obtain ⟨x, hx, hxi⟩ := List.any_eq_true.1 this
    exact ⟨x, hx, beq_t hxi⟩
  · have := List.all_eq_true.1 (List.all_eq_true.1 h6 x hx) e he
    simp only [Bool.or_eq_true, Bool.not_eq_true', hb, Bool.true_eq_false, false_or, Bool.and_eq_true] at this
    refine ⟨?_, beq_f this.2⟩
    have := blt_t this.1
    rw [lenL_eq] at this
    simpa using this
end Go.Proofs.Yteeamkdblcinnaa.Kern
