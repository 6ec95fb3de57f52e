/-
  . They hold with no condition but those that are written in each theorem.
-/
import Derived.Test.YtnhokodcmeekhaaPN1
import Derived.Test.YtnhokodcmeekhaaPN2
import Derived.Test.YtnhokodcmeekhaaPN3
set_option linter.unusedSimpArgs false
set_option linter.unusedVariables false
namespace Go.Proofs.Ytnhokodcmeekhaa
open Go Kern
/-! One more row behind the rows that are gathered -/
theorem flatlen {n : Nat} : ∀ {l : List (List Value)}, (∀ y ∈ l, y.length = n) → l.flatten.length = l.length * n
  | [], _ => by simp
  | y :: r, h => by
    rw [List.flatten_cons, List.length_append, h y (.head _), flatlen fun z hz => h z (.tail _ hz), List.length_cons, Nat.add_mul]; omega
theorem app_one {n N b2 : Nat} {s : St} {w : Value} {l : List (List Value)} {x : List Value} {g : Option Nat} (hO : OwnG n N s w l) (hn : ∀ y ∈ l, y.length = n) (hx : x.length = n) (ho : onesL x = true) (hb2 : s.heap.get b2 = some (.cells x g)) (hN : N ≤ s.next) (hl : l.length ≤ 1000000) :
    ∃ s', appV n w (.slice (some ⟨b2, 0, none⟩) 1 1) s = some (.slice (some ⟨s.next, 0, none⟩) (l.length + 1) (l.length + 1), s') ∧ s'.next = s.next + 1 ∧ (∀ i, i < N → s'.heap.get i = s.heap.get i) ∧ OwnG n N s' (.slice (some ⟨s.next, 0, none⟩) (l.length + 1) (l.length + 1)) (l ++ [x]) := by
  rcases hO with ⟨rfl, rfl⟩ | ⟨b, rfl, hne, h1, h2, h3⟩
  · refine ⟨_, appV_nil hb2 hx (by rw [onesL_eq]; exact ho), rfl, fun i hi => get_pushed_old _ _ _ (by omega), .inr ⟨s.next, by simp, by simp, hN, Nat.lt_succ_self _, ?_⟩⟩
    rw [get_pushed_new]; simp
  · refine ⟨_, appV_more h3 hb2 hx (by rw [onesL_eq]; exact ho) (flatlen hn) (by omega), rfl, fun i hi => ?_, .inr ⟨s.next, by simp, by simp, hN, Nat.lt_succ_self _, ?_⟩⟩
    · rw [get_pushed_old _ _ _ (by show i ≠ s.next; omega), get_upded_other _ _ _ _ (by omega)]
    · show ((s.upded b .dead).pushed _).heap.get (s.upded b .dead).next = _
      rw [get_pushed_new]; simp
/-! Comparing, and the lines toward a week -/
set_option maxRecDepth 100000 in
theorem isNaN_ev (x : Int) (s : St) : Ev TT 88 [.int .i64 x] s fun r s' => r = .bool false ∧ Keep s s' := by
  refine Ev.intro (fn := Try.f88) rfl (by kernel_rfl) rfl rfl ?_
  apply zz
  refine Cd.ra (h := ?_)
  apply Run.by_eq
  · intro self
    conv => lhs; simp -implicitDefEqProofs (maxSteps := 300000) (disch := omega) [-getElem?_pos, -getElem?_neg]
  try (with_reducible refine Run.ret ?_)
  apply zz
  refine Cd.ra (h := ?_)
  apply Run.by_eq
  · intro self
    conv => lhs; simp -implicitDefEqProofs (maxSteps := 300000) (disch := omega) [-getElem?_pos, -getElem?_neg]
  try (with_reducible refine Run.ret ?_)
  apply zz
  apply Leave.mk (by first | exact .inl rfl | exact .inr rfl) (by simp only [Fr.marks_put, fr0_marks])
  · conv => lhs; simp -implicitDefEqProofs (disch := omega) [Try.results88]
  exact ⟨rfl, ⟨by (try simp only [pushed_next', upded_next']); omega, fun i hi => by simp -implicitDefEqProofs (disch := omega) []⟩⟩
def cmpI (x y : Int) : Int := if x < y then -1 else if y < x then 1 else 0
set_option maxRecDepth 100000 in
theorem compare_ev (x y : Int) (s : St) : Ev TT 86 [.int .i64 x, .int .i64 y] s fun r s' => r = .int .i64 (cmpI x y) ∧ Keep s s' := by
  unfold cmpI
  refine Ev.intro (fn := Try.f86) rfl (by kernel_rfl) rfl rfl ?_
  apply zz
  refine Cd.ra (h := ?_)
  apply Run.by_eq
  · intro self
    conv => lhs; simp -implicitDefEqProofs (maxSteps := 300000) (disch := omega) [-getElem?_pos, -getElem?_neg]
  try (with_reducible refine Run.ret ?_)
  apply zz
  refine Cd.ra (h := ?_)
  apply Run.by_eq
  · intro self
    conv => lhs; simp -implicitDefEqProofs (maxSteps := 300000) (disch := omega) [-getElem?_pos, -getElem?_neg]
  try (with_reducible refine Run.ret ?_)
  apply zz
  refine Run.call ((isNaN_ev x _).mono fun v wa hv => ?_)
  obtain ⟨rfl, a⟩ := hv
  have aa := a.1
  have ab := a.2
  try simp only [pushed_next', upded_next'] at aa ab
  apply Run.by_eq
  · intro self
    conv => lhs; simp -implicitDefEqProofs (maxSteps := 300000) (disch := omega) [-getElem?_pos, -getElem?_neg]
  try (with_reducible refine Run.ret ?_)
  apply zz
  refine Cd.ra (h := ?_)
  apply Run.by_eq
  · intro self
    conv => lhs; simp -implicitDefEqProofs (maxSteps := 300000) (disch := omega) [-getElem?_pos, -getElem?_neg]
  try (with_reducible refine Run.ret ?_)
  apply zz
  refine Run.call ((isNaN_ev y _).mono fun v wb hv => ?_)
  obtain ⟨rfl, b⟩ := hv
  have ba := b.1
  have bb := b.2
  try simp only [pushed_next', upded_next'] at ba bb
  apply Run.by_eq
  · intro self
    conv => lhs; simp -implicitDefEqProofs (maxSteps := 300000) (disch := omega) [-getElem?_pos, -getElem?_neg]
  try (with_reducible refine Run.ret ?_)
  apply zz
  refine Cd.ra (h := ?_)
  apply Run.by_eq
  · intro self
    conv => lhs; simp -implicitDefEqProofs (maxSteps := 300000) (disch := omega) [-getElem?_pos, -getElem?_neg]
  try (with_reducible refine Run.ret ?_)
  apply zz
  apply Cd.ite rfl
  · conv => lhs; simp -implicitDefEqProofs (maxSteps := 300000) (disch := omega) [-getElem?_pos, -getElem?_neg]
  all_goals intro c0
  all_goals try (cases c0; done)
  all_goals try simp only [Bool.not_eq_true', Bool.not_eq_false', decide_eq_true_eq, decide_eq_false_iff_not] at c0
  all_goals apply zz
  apply zz
  refine Cd.ra (h := ?_)
  apply Run.by_eq
  · intro self
    conv => lhs; simp -implicitDefEqProofs (maxSteps := 300000) (disch := omega) [-getElem?_pos, -getElem?_neg]
  try (with_reducible refine Run.ret ?_)
  apply zz
  apply Cd.ite rfl
  · conv => lhs; simp -implicitDefEqProofs (maxSteps := 300000) (disch := omega) [-getElem?_pos, -getElem?_neg]
  all_goals intro c1
  all_goals try (cases c1; done)
  all_goals try simp only [Bool.not_eq_true', Bool.not_eq_false', decide_eq_true_eq, decide_eq_false_iff_not] at c1
  all_goals apply zz
  by_cases h : x < y
  · rw [if_pos h]
    apply zz
    refine Cd.ra (h := ?_)
    apply Run.by_eq
    · intro self
      conv => lhs; simp -implicitDefEqProofs (maxSteps := 300000) (disch := omega) [-getElem?_pos, -getElem?_neg, h]
    try (with_reducible refine Run.ret ?_)
    apply zz
    apply Cd.ite rfl
    · conv => lhs; simp -implicitDefEqProofs (maxSteps := 300000) (disch := omega) [-getElem?_pos, -getElem?_neg]
    all_goals intro c2
    all_goals try (cases c2; done)
    all_goals try simp only [Bool.not_eq_true', Bool.not_eq_false', decide_eq_true_eq, decide_eq_false_iff_not] at c2
    all_goals apply zz
    apply zz
    refine Cd.ra (h := ?_)
    apply Run.by_eq
    · intro self
      conv => lhs; simp -implicitDefEqProofs (maxSteps := 300000) (disch := omega) [-getElem?_pos, -getElem?_neg]
    try (with_reducible refine Run.ret ?_)
    apply zz
    apply Leave.mk (by first | exact .inl rfl | exact .inr rfl) (by simp only [Fr.marks_put, fr0_marks])
    · conv => lhs; simp -implicitDefEqProofs (disch := omega) [Try.results86]
    exact ⟨rfl, ⟨by (try simp only [pushed_next', upded_next']); omega, fun i hi => by simp -implicitDefEqProofs (disch := omega) [ab, bb]⟩⟩
  rw [if_neg h]
  apply zz
  refine Cd.ra (h := ?_)
  apply Run.by_eq
  · intro self
    conv => lhs; simp -implicitDefEqProofs (maxSteps := 300000) (disch := omega) [-getElem?_pos, -getElem?_neg, h]
  try (with_reducible refine Run.ret ?_)
  apply zz
  apply Cd.ite rfl
  · conv => lhs; simp -implicitDefEqProofs (maxSteps := 300000) (disch := omega) [-getElem?_pos, -getElem?_neg]
  all_goals intro c2
  all_goals try (cases c2; done)
  all_goals try simp only [Bool.not_eq_true', Bool.not_eq_false', decide_eq_true_eq, decide_eq_false_iff_not] at c2
  all_goals apply zz
  by_cases h2 : y < x
  · rw [if_pos h2]
    apply zz
    refine Cd.ra (h := ?_)
    apply Run.by_eq
    · intro self
      conv => lhs; simp -implicitDefEqProofs (maxSteps := 300000) (disch := omega) [-getElem?_pos, -getElem?_neg, h2]
    try (with_reducible refine Run.ret ?_)
    apply zz
    apply Cd.ite rfl
    · conv => lhs; simp -implicitDefEqProofs (maxSteps := 300000) (disch := omega) [-getElem?_pos, -getElem?_neg]
    all_goals intro c3
    all_goals try (cases c3; done)
    all_goals try simp only [Bool.not_eq_true', Bool.not_eq_false', decide_eq_true_eq, decide_eq_false_iff_not] at c3
    all_goals apply zz
    apply zz
    refine Cd.ra (h := ?_)
    apply Run.by_eq
    · intro self
      conv => lhs; simp -implicitDefEqProofs (maxSteps := 300000) (disch := omega) [-getElem?_pos, -getElem?_neg]
    try (with_reducible refine Run.ret ?_)
    apply zz
    apply Leave.mk (by first | exact .inl rfl | exact .inr rfl) (by simp only [Fr.marks_put, fr0_marks])
    · conv => lhs; simp -implicitDefEqProofs (disch := omega) [Try.results86]
    exact ⟨rfl, ⟨by (try simp only [pushed_next', upded_next']); omega, fun i hi => by simp -implicitDefEqProofs (disch := omega) [ab, bb]⟩⟩
  rw [if_neg h2]
  apply zz
  refine Cd.ra (h := ?_)
  apply Run.by_eq
  · intro self
    conv => lhs; simp -implicitDefEqProofs (maxSteps := 300000) (disch := omega) [-getElem?_pos, -getElem?_neg, h2]
  try (with_reducible refine Run.ret ?_)
  apply zz
  apply Cd.ite rfl
  · conv => lhs; simp -implicitDefEqProofs (maxSteps := 300000) (disch := omega) [-getElem?_pos, -getElem?_neg]
  all_goals intro c3
  all_goals try (cases c3; done)
  all_goals try simp only [Bool.not_eq_true', Bool.not_eq_false', decide_eq_true_eq, decide_eq_false_iff_not] at c3
  all_goals apply zz
  apply zz
  refine Cd.ra (h := ?_)
  apply Run.by_eq
  · intro self
    conv => lhs; simp -implicitDefEqProofs (maxSteps := 300000) (disch := omega) [-getElem?_pos, -getElem?_neg]
  try (with_reducible refine Run.ret ?_)
  apply zz
  apply Leave.mk (by first | exact .inl rfl | exact .inr rfl) (by simp only [Fr.marks_put, fr0_marks])
  · conv => lhs; simp -implicitDefEqProofs (disch := omega) [Try.results86]
  exact ⟨rfl, ⟨by (try simp only [pushed_next', upded_next']); omega, fun i hi => by simp -implicitDefEqProofs (disch := omega) [ab, bb]⟩⟩
set_option maxRecDepth 100000 in
set_option maxHeartbeats 1000000 in
theorem highPoint_ev (B : List Value) (n : Nat) (L H : Nat → Frac) (w : Nat) (s : St) (hB : BOk B n L H) (hw : w < 30) : Ev TT 87 [.agg B.toArray, .int .i64 w] s fun r s' => r = .agg #[.int .i64 w, .int .i64 (H w).o, .int .i64 (H w).u] ∧ Keep s s' := by
  have h1 := hB.hi w hw
  have h2 := hB.len
  have h3 := hB.ones
  have h4 : ((w : Int) < 30) := by omega
  refine Ev.intro (fn := Try.f87) rfl (by kernel_rfl) rfl rfl ?_
  apply zz
  refine Cd.ra (h := ?_)
  apply Run.by_eq
  · intro self
    conv => lhs; simp -implicitDefEqProofs (maxSteps := 300000) (disch := omega) [-getElem?_pos, -getElem?_neg, h2, h3]
  try (with_reducible refine Run.ret ?_)
  apply zz
  refine Cd.ra (h := ?_)
  apply Run.by_eq
  · intro self
    conv => lhs; simp -implicitDefEqProofs (maxSteps := 300000) (disch := omega) [-getElem?_pos, -getElem?_neg, h1, hw, h4]
  try (with_reducible refine Run.ret ?_)
  apply zz
  apply Leave.mk (by first | exact .inl rfl | exact .inr rfl) (by simp only [Fr.marks_put, fr0_marks])
  · conv => lhs; simp -implicitDefEqProofs (disch := omega) [Try.results87]
  exact ⟨rfl, ⟨by (try simp only [pushed_next', upded_next']); omega, fun i hi => by simp -implicitDefEqProofs (disch := omega) []⟩⟩
set_option maxRecDepth 100000 in
set_option maxHeartbeats 4000000 in
theorem towardOf_ev (BC : List Value) (n w : Nat) (L H : Nat → Frac) (s : St) (hB : BOk BC n L H) : Ev TT 71 [.agg BC.toArray, .int .i64 w] s fun r s' => r = .func (.func 85) #[] #[.pointer (some ⟨s.next, 0, none⟩), .pointer (some ⟨s.next + 1, 0, none⟩)] ∧ Keep s s' ∧ s.next + 1 < s'.next ∧ s'.heap.get s.next = some (.cells BC none) ∧ s'.heap.get (s.next + 1) = some (.cells [.int .i64 w] none) := by
  have h2 := hB.len
  have h3 := hB.ones
  refine Ev.intro (fn := Try.f71) rfl (by kernel_rfl) rfl rfl ?_
  apply zz
  refine Cd.ra (h := ?_)
  apply Run.by_eq
  · intro self
    conv => lhs; simp -implicitDefEqProofs (maxSteps := 300000) (disch := omega) [-getElem?_pos, -getElem?_neg, h2, h3]
  try (with_reducible refine Run.ret ?_)
  apply zz
  refine Cd.ra (h := ?_)
  apply Run.by_eq
  · intro self
    conv => lhs; simp -implicitDefEqProofs (maxSteps := 300000) (disch := omega) [-getElem?_pos, -getElem?_neg]
  try (with_reducible refine Run.ret ?_)
  apply zz
  apply Leave.mk (by first | exact .inl rfl | exact .inr rfl) (by simp only [Fr.marks_put, fr0_marks])
  · conv => lhs; simp -implicitDefEqProofs (disch := omega) [Try.results71]
  refine ⟨rfl, ⟨by (try simp only [pushed_next', upded_next']); omega, fun i hi => by simp -implicitDefEqProofs (disch := omega) []⟩, by simp, ?_, ?_⟩
  · simp -implicitDefEqProofs (disch := omega)
  · simp -implicitDefEqProofs (disch := omega)
def nrT (w far d : Nat) : Nat := if far < w then far + 1 + d else far - 1 - d
def lnT (w far : Nat) : Nat := if far < w then w - (far + 1) else far - (w + 1)
theorem towardF_eq (n w far : Nat) : towardF n w far = (List.range (lnT w far)).map fun d => (far, nrT w far d) := by
  unfold towardF lnT nrT
  split <;> rfl
theorem nr_step {n w i d : Nat} {st : Int} (hw : w < n) (hi : i < n) (hd : d < lnT w i) (hst : st = if i < w then 1 else if w < i then -1 else 0) : nrT w i d ≠ w ∧ nrT w i d < n ∧ ((nrT w i d : Nat) : Int) + st = ((if d + 1 < lnT w i then nrT w i (d + 1) else w : Nat) : Int) := by
  by_cases h : i < w
  · have e1 : lnT w i = w - (i + 1) := if_pos h
    have e2 : ∀ d, nrT w i d = i + 1 + d := fun _ => if_pos h
    rw [if_pos h] at hst
    rw [e1] at hd ⊢
    rw [e2, e2]
    refine ⟨by omega, by omega, ?_⟩
    split <;> omega
  · have e1 : lnT w i = i - (w + 1) := if_neg h
    have e2 : ∀ d, nrT w i d = i - 1 - d := fun _ => if_neg h
    rw [if_neg h] at hst
    rw [e1] at hd ⊢
    rw [if_pos (by omega)] at hst
    rw [e2, e2]
    refine ⟨by omega, by omega, ?_⟩
    split <;> omega
theorem nr_first {n w i : Nat} {st : Int} (hw : w < n) (hi : i < n) (hst : st = if i < w then 1 else if w < i then -1 else 0) : (i : Int) + st = ((if 0 < lnT w i then nrT w i 0 else w : Nat) : Int) ∧ (if 0 < lnT w i then nrT w i 0 else w : Nat) < n := by
  by_cases h : i < w
  · have e1 : lnT w i = w - (i + 1) := if_pos h
    have e2 : ∀ d, nrT w i d = i + 1 + d := fun _ => if_pos h
    rw [if_pos h] at hst
    rw [e1, e2]
    split <;> omega
  · have e1 : lnT w i = i - (w + 1) := if_neg h
    have e2 : ∀ d, nrT w i d = i - 1 - d := fun _ => if_neg h
    rw [if_neg h] at hst
    rw [e1, e2]
    by_cases h2 : w < i
    · rw [if_pos h2] at hst; split <;> omega
    · rw [if_neg h2] at hst; split <;> omega
set_option maxRecDepth 100000 in
set_option maxHeartbeats 4000000 in
theorem toward_iter (n w : Nat) (L H : Nat → Frac) (BC : List Value) (pw pb b0 : Nat) (hB : BOk BC n L H) (hn : n ≤ 30) (hw : w < n) (hpw : pw < b0) (hpb : pb < b0) :
    Iter 85 [.pointer (some ⟨pb, 0, none⟩), .pointer (some ⟨pw, 0, none⟩)] b0 (fun s => s.heap.get pw = some (.cells [.int .i64 w] none) ∧ s.heap.get pb = some (.cells BC none)) (towardL n w) L H := by
  rintro yv s X J hb0 ⟨hgw, hgb⟩ hyv hX hJ0 hJs hyield
  have hXw : ¬ X pw := fun h => by have := hX _ h; omega
  have hXb : ¬ X pb := fun h => by have := hX _ h; omega
  have h1 := takeL_len hB.len
  have hS := hB.same
  have hwk : BC[0]? = some (.int .i64 n) := hB.wk
  obtain ⟨F, hG⟩ : ∃ F : Nat → List (Nat × Nat), F = fun far => towardF n w far := ⟨_, rfl⟩
  have hF : ∀ i, F i = (List.range (lnT w i)).map fun d => (i, nrT w i d) := fun i => by rw [hG]; exact towardF_eq n w i
  unfold towardL at hyield ⊢
  rw [← hG] at hyield ⊢
  refine Ev.intro (fn := Try.f85) rfl (by kernel_rfl) rfl rfl ?_
  apply zz
  refine Cd.ra (h := ?_)
  apply Run.by_eq
  · intro self
    conv => lhs; simp -implicitDefEqProofs (maxSteps := 300000) (disch := omega) [-getElem?_pos, -getElem?_neg, hgb, hwk]
  try (with_reducible refine Run.ret ?_)
  apply zz
  refine Cd.inv (fun z f s' => ∃ i : Nat, i ≤ n ∧ z = n - i ∧ f.marks = [] ∧ f.get 0 = yv ∧ f.get 1 = .pointer (some ⟨pb, 0, none⟩) ∧ f.get 2 = .pointer (some ⟨pw, 0, none⟩) ∧ f.get 8 = .int .i64 n ∧ f.get 9 = .int .i64 i ∧ J ((List.range i).flatMap F) s' ∧ s.next ≤ s'.next ∧ (∀ x, x < s.next → ¬ X x → s'.heap.get x = s.heap.get x)) n ?_ ?_
  · exact ⟨0, by omega, rfl, by simp, by simp, by simp, by simp, by simp, by simp, by simpa using hJ0, Nat.le_refl _, fun x _ _ => rfl⟩
  rintro z f s1 ⟨i, hi, rfl, hm, g0, g1, g2, g8, g9, hJ, hnx, hold⟩
  have hw1 := (hold pw (by omega) hXw).trans hgw
  by_cases hlt : i < n
  · have hlt' : (i : Int) < n := by omega
    apply zz
    refine Cd.ra (h := ?_)
    apply Run.by_eq
    · intro self
      conv => lhs; simp -implicitDefEqProofs (maxSteps := 300000) (disch := omega) [-getElem?_pos, -getElem?_neg, g8, g9, hlt']
    try (with_reducible refine Run.ret ?_)
    apply zz
    apply Cd.ite rfl
    · conv => lhs; simp -implicitDefEqProofs (maxSteps := 300000) (disch := omega) [-getElem?_pos, -getElem?_neg]
    all_goals intro c0
    all_goals try (cases c0; done)
    all_goals try simp only [Bool.not_eq_true', Bool.not_eq_false', decide_eq_true_eq, decide_eq_false_iff_not] at c0
    all_goals apply zz
    apply zz
    refine Cd.ra (h := ?_)
    apply Run.by_eq
    · intro self
      conv => lhs; simp -implicitDefEqProofs (maxSteps := 300000) (disch := omega) [-getElem?_pos, -getElem?_neg, g9]
    try (with_reducible refine Run.ret ?_)
    apply zz
    refine Cd.ra (h := ?_)
    apply Run.by_eq
    · intro self
      conv => lhs; simp -implicitDefEqProofs (maxSteps := 300000) (disch := omega) [-getElem?_pos, -getElem?_neg, g2, hw1]
    try (with_reducible refine Run.ret ?_)
    apply zz
    refine Run.call ((compare_ev w i _).mono fun v wa hv => ?_)
    obtain ⟨rfl, a⟩ := hv
    have aa := a.1
    have ab := a.2
    try simp only [pushed_next', upded_next'] at aa ab
    apply Run.by_eq
    · intro self
      conv => lhs; simp -implicitDefEqProofs (maxSteps := 300000) (disch := omega) [-getElem?_pos, -getElem?_neg]
    try (with_reducible refine Run.ret ?_)
    apply zz
    have hstep : cmpI w i = if i < w then 1 else if w < i then -1 else 0 := by unfold cmpI; split <;> split <;> first | rfl | omega | (split <;> first | rfl | omega)
    obtain ⟨st, hst⟩ : ∃ st, cmpI w i = st := ⟨_, rfl⟩
    rw [hst] at hstep ⊢
    have a0 := (ab pw (by omega)).trans hw1
    obtain ⟨hn0, hb0'⟩ := nr_first hw hlt hstep
    generalize hN0 : (if 0 < lnT w i then nrT w i 0 else w : Nat) = N0 at hn0 hb0'
    apply zz
    refine Cd.ra (h := ?_)
    apply Run.by_eq
    · intro self
      conv => lhs; simp -implicitDefEqProofs (maxSteps := 300000) (disch := omega) [-getElem?_pos, -getElem?_neg, hn0]
    try (with_reducible refine Run.ret ?_)
    apply zz
    refine Cd.mono (Q := fun x f2 s2 => x = Ex.exit 2 ∧ f2.marks = [] ∧ f2.get 0 = yv ∧ f2.get 1 = .pointer (some ⟨pb, 0, none⟩) ∧ f2.get 2 = .pointer (some ⟨pw, 0, none⟩) ∧ f2.get 8 = .int .i64 n ∧ f2.get 9 = .int .i64 i ∧ J ((List.range i).flatMap F ++ F i) s2 ∧ s.next ≤ s2.next ∧ (∀ x, x < s.next → ¬ X x → s2.heap.get x = s.heap.get x)) ?_ ?_
    · have hJa := hJs _ s1 wa hJ ⟨aa, ab⟩
      have holda : ∀ x, x < s.next → ¬ X x → wa.heap.get x = s.heap.get x := fun x hx hxx => (ab x (by omega)).trans (hold x hx hxx)
      refine Cd.inv (fun z f2 s2 => ∃ d : Nat, d ≤ lnT w i ∧ z = lnT w i - d ∧ f2.marks = [] ∧ f2.get 0 = yv ∧ f2.get 1 = .pointer (some ⟨pb, 0, none⟩) ∧ f2.get 2 = .pointer (some ⟨pw, 0, none⟩) ∧ f2.get 4 = .int .i64 i ∧ f2.get 5 = .int .i64 st ∧ f2.get 6 = .int .i64 (if d < lnT w i then nrT w i d else w : Nat) ∧ f2.get 8 = .int .i64 n ∧ f2.get 9 = .int .i64 i ∧ J ((List.range i).flatMap F ++ (F i).take d) s2 ∧ s.next ≤ s2.next ∧ (∀ x, x < s.next → ¬ X x → s2.heap.get x = s.heap.get x)) (lnT w i) ?_ ?_
      · refine ⟨0, by omega, rfl, by simp [hm], by simp [g0], by simp [g1], by simp [g2], by simp, by simp, ?_, by simp [g8], by simp [g9], by simpa using hJa, by omega, holda⟩
        rw [hN0]; simp
      · clear hJ hnx hold hm g0 g1 g2 g8 g9 hw1 hJa holda a0
        rintro z f2 s2 ⟨d, hd, rfl, hm, g0, g1, g2, g4, g5, g6, g8, g9, hJ, hnx, hold⟩
        have hb1 := (hold pb (by omega) hXb).trans hgb
        have hw1 := (hold pw (by omega) hXw).trans hgw
        by_cases hlk : d < lnT w i
        · rw [if_pos hlk] at g6
          obtain ⟨hne0, hnn0, hnx6⟩ := nr_step hw hlt hlk hstep
          have hne : ¬ ((nrT w i d : Nat) : Int) = w := by omega
          have hnn : nrT w i d < 30 := by omega
          have hdx : (F i)[d]? = some (i, nrT w i d) := by rw [hF, List.getElem?_map, List.getElem?_range hlk]; rfl
          have hpre := flat_prefix F hlt hdx
          have htk : (F i).take (d + 1) = (F i).take d ++ [(i, nrT w i d)] := by rw [List.take_add_one, hdx]; rfl
          apply zz
          refine Cd.ra (h := ?_)
          apply Run.by_eq
          · intro self
            conv => lhs; simp -implicitDefEqProofs (maxSteps := 300000) (disch := omega) [-getElem?_pos, -getElem?_neg, g6, g2, hw1, hne]
          try (with_reducible refine Run.ret ?_)
          apply zz
          apply Cd.ite rfl
          · conv => lhs; simp -implicitDefEqProofs (maxSteps := 300000) (disch := omega) [-getElem?_pos, -getElem?_neg]
          all_goals intro c1
          all_goals try (cases c1; done)
          all_goals try simp only [Bool.not_eq_true', Bool.not_eq_false', decide_eq_true_eq, decide_eq_false_iff_not] at c1
          all_goals apply zz
          apply zz
          refine Cd.drawn (pl := [(0, 0, false, false), (1, 0, false, false), (2, 0, false, false), (4, 0, false, false), (5, 0, false, false), (3, 6, true, false), (6, 62, true, false), (7, 126, false, false), (8, 255, true, false), (9, 511, false, false)]) (by kernel_rfl) (by conv => lhs; simp only [List.map_cons, List.map_nil]) (by conv => lhs; simp [strip, ordered]) ?_
          apply Run.by_eq
          · intro self
            conv => lhs; simp -implicitDefEqProofs (maxSteps := 300000) (disch := omega) [filter_bt, (show Nat.testBit 6 0 = false from rfl), (show Nat.testBit 6 1 = true from rfl), (show Nat.testBit 6 2 = true from rfl), (show Nat.testBit 6 4 = false from rfl), (show Nat.testBit 6 5 = false from rfl), (show Nat.testBit 62 0 = false from rfl), (show Nat.testBit 62 1 = true from rfl), (show Nat.testBit 62 2 = true from rfl), (show Nat.testBit 62 4 = true from rfl), (show Nat.testBit 62 5 = true from rfl), (show ∀ i, Nat.testBit 255 i = decide (i < 8) from fun i => Nat.testBit_two_pow_sub_one 8 i), -getElem?_pos, -getElem?_neg, g0, g1, g4, g6, hb1, h1, hS, hyv]
          try (with_reducible refine Run.ret ?_)
          apply zz
          refine Run.call ((lowPoint_ev BC n L H i _ hB (by omega)).mono fun v wy hv => ?_)
          obtain ⟨rfl, y⟩ := hv
          have ya := y.1
          have yb := y.2
          try simp only [pushed_next', upded_next'] at ya yb
          have y0 := (yb pb (by omega)).trans hb1
          apply Run.by_eq
          · intro self
            conv => lhs; simp -implicitDefEqProofs (maxSteps := 300000) (disch := omega) [-getElem?_pos, -getElem?_neg, g0, g1, g4, g6, y0, h1, hS, hyv]
          try (with_reducible refine Run.ret ?_)
          apply zz
          refine Run.call ((highPoint_ev BC n L H (nrT w i d) _ hB hnn).mono fun v wu hv => ?_)
          obtain ⟨rfl, u⟩ := hv
          have ua := u.1
          have ub := u.2
          try simp only [pushed_next', upded_next'] at ua ub
          have u0 := (ub pb (by omega)).trans y0
          apply Run.by_eq
          · intro self
            conv => lhs; simp -implicitDefEqProofs (maxSteps := 300000) (disch := omega) [-getElem?_pos, -getElem?_neg, g0, g1, g4, g6, u0, h1, hS, hyv]
          try (with_reducible refine Run.ret ?_)
          apply zz
          refine Run.callV ((hyield _ (i, nrT w i d) wu hpre (hJs _ s2 wu hJ ⟨by omega, fun x hx => (ub x (by omega)).trans (yb x (by omega))⟩) (by omega)).mono fun p hp => ?_)
          obtain ⟨hp1, hp2, hp3, hp4⟩ := hp
          have hold2 : ∀ x, x < s.next → ¬ X x → p.2.heap.get x = s.heap.get x := fun x hx hxx => (hp4 x hx hxx).trans ((ub x (by omega)).trans ((yb x (by omega)).trans (hold x hx hxx)))
          obtain ⟨pv, ps⟩ := p
          simp only [] at hp1 hp2 hp3 hold2 ⊢
          subst hp1
          apply Run.by_eq
          · intro self
            conv => lhs; simp -implicitDefEqProofs (maxSteps := 300000) (disch := omega) [-getElem?_pos, -getElem?_neg]
          try (with_reducible refine Run.ret ?_)
          apply zz
          apply Cd.ite rfl
          · conv => lhs; simp -implicitDefEqProofs (maxSteps := 300000) (disch := omega) [-getElem?_pos, -getElem?_neg]
          all_goals intro c2
          all_goals try (cases c2; done)
          all_goals try simp only [Bool.not_eq_true', Bool.not_eq_false', decide_eq_true_eq, decide_eq_false_iff_not] at c2
          all_goals apply zz
          have hst2 : -1 ≤ st ∧ st ≤ 1 := by
            clear hnx6
            rw [hstep]; split
            · omega
            · split <;> omega
          apply zz
          refine Cd.ra (h := ?_)
          apply Run.by_eq
          · intro self
            conv => lhs; simp -implicitDefEqProofs (maxSteps := 300000) (disch := omega) [-getElem?_pos, -getElem?_neg, g5, g6, hnx6]
          try (with_reducible refine Run.ret ?_)
          apply zz
          refine LoopK.nm (lnT w i - (d + 1)) (by omega) ⟨d + 1, by omega, rfl, by simp [hm], by simp [g0], by simp [g1], by simp [g2], by simp [g4], by simp [g5], by simp, by simp [g8], by simp [g9], ?_, by omega, hold2⟩
          rw [htk, ← List.append_assoc]; exact hp2
        · obtain rfl : d = lnT w i := by omega
          rw [if_neg hlk] at g6
          have hall : (F i).take (lnT w i) = F i := by rw [hF]; apply List.take_of_length_le; simp
          rw [hall] at hJ
          apply zz
          refine Cd.ra (h := ?_)
          apply Run.by_eq
          · intro self
            conv => lhs; simp -implicitDefEqProofs (maxSteps := 300000) (disch := omega) [-getElem?_pos, -getElem?_neg, g6, g2, hw1]
          try (with_reducible refine Run.ret ?_)
          apply zz
          apply Cd.ite rfl
          · conv => lhs; simp -implicitDefEqProofs (maxSteps := 300000) (disch := omega) [-getElem?_pos, -getElem?_neg]
          all_goals intro c1
          all_goals try (cases c1; done)
          all_goals try simp only [Bool.not_eq_true', Bool.not_eq_false', decide_eq_true_eq, decide_eq_false_iff_not] at c1
          all_goals apply zz
          exact ⟨rfl, by simp [hm], by simp [g0], by simp [g1], by simp [g2], by simp [g8], by simp [g9], hJ, hnx, hold⟩
    rintro x f2 s2 ⟨rfl, hm, g0, g1, g2, g8, g9, hJ, hnx, hold⟩
    apply zz
    refine Cd.ra (h := ?_)
    apply Run.by_eq
    · intro self
      conv => lhs; simp -implicitDefEqProofs (maxSteps := 300000) (disch := omega) [-getElem?_pos, -getElem?_neg, g9]
    try (with_reducible refine Run.ret ?_)
    apply zz
    refine LoopK.nm (n - (i + 1)) (by omega) ⟨i + 1, by omega, rfl, by simp [hm], by simp [g0], by simp [g1], by simp [g2], by simp [g8], by simp, ?_, hnx, hold⟩
    rw [List.range_succ, List.flatMap_append]; simpa using hJ
  · obtain rfl : i = n := by omega
    apply zz
    refine Cd.ra (h := ?_)
    apply Run.by_eq
    · intro self
      conv => lhs; simp -implicitDefEqProofs (maxSteps := 300000) (disch := omega) [-getElem?_pos, -getElem?_neg, g8, g9]
    try (with_reducible refine Run.ret ?_)
    apply zz
    apply Cd.ite rfl
    · conv => lhs; simp -implicitDefEqProofs (maxSteps := 300000) (disch := omega) [-getElem?_pos, -getElem?_neg]
    all_goals intro c0
    all_goals try (cases c0; done)
    all_goals try simp only [Bool.not_eq_true', Bool.not_eq_false', decide_eq_true_eq, decide_eq_false_iff_not] at c0
    all_goals apply zz
    apply Leave.mk (by first | exact .inl rfl | exact .inr rfl) (by simp only [Fr.marks_put, fr0_marks, hm])
    · conv => lhs; simp -implicitDefEqProofs (disch := omega) [Try.results85, hm]
    exact ⟨hJ, hnx, hold⟩
end Go.Proofs.Ytnhokodcmeekhaa
namespace Go.Proofs.Ytnhokodcmeekhaa
open Go Kern
/-! The sweetness of lines in a week -/
def lnAt (L R : Nat → Frac) (w : Nat) (p : Nat × Nat) : Frac := lineF p.1 (L p.1) p.2 (R p.2) w
theorem cs_len (l : List Frac) : ∀ y ∈ l.map Frac.cs, y.length = 2 := fun y hy => by obtain ⟨m, _, rfl⟩ := List.mem_map.1 hy; rfl
set_option maxRecDepth 100000 in
set_option maxHeartbeats 4000000 in
theorem valuesAt_ev (gi : FuncId) (cap : List Value) (K : St → Prop) (items : List (Nat × Nat)) (L R : Nat → Frac) (w : Nat) (s : St) (hI : Iter gi cap s.next K items L R) (hKs : ∀ s', Keep s s' → K s') (hw : w < 30)
    (hit : ∀ p ∈ items, p.1 < 30 ∧ p.2 < 30 ∧ Small (L p.1) ∧ Small (R p.2)) (hlen : items.length ≤ 100000) :
    Ev TT 68 [.int .i64 w, .func (.func gi) #[] cap.toArray] s fun r s' => Keep s s' ∧ FrAt s' r (items.map (lnAt L R w)) := by
  refine Ev.intro (fn := Try.f68) rfl (by kernel_rfl) rfl rfl ?_
  apply zz
  refine Cd.ra (h := ?_)
  apply Run.by_eq
  · intro self
    conv => lhs; simp -implicitDefEqProofs (maxSteps := 300000) (disch := omega) [-getElem?_pos, -getElem?_neg]
  try (with_reducible refine Run.ret ?_)
  apply zz
  refine Cd.ra (h := ?_)
  apply Run.by_eq
  · intro self
    conv => lhs; simp -implicitDefEqProofs (maxSteps := 300000) (disch := omega) [-getElem?_pos, -getElem?_neg]
  try (with_reducible refine Run.ret ?_)
  apply zz
  refine Cd.ra (h := ?_)
  apply Run.by_eq
  · intro self
    conv => lhs; simp -implicitDefEqProofs (maxSteps := 300000) (disch := omega) [-getElem?_pos, -getElem?_neg]
  try (with_reducible refine Run.ret ?_)
  apply zz
  refine Cd.rangeJ (gi := gi) (first := #[]) (captured := cap.toArray) rfl (by simp) ?_
  generalize hR : ALoop.mk true none _ _ _ _ _ = R0
  show Ev TT gi (.func (.yield (s.next + 1 + 1 + 1)) #[] #[] :: cap) _ _
  refine (hI (.func (.yield (s.next + 1 + 1 + 1)) #[] #[]) _ (fun i => i = s.next + 1 ∨ i = s.next + 1 + 1 + 1)
    (fun l s2 => s2.heap.get (s.next + 1 + 1 + 1) = some (.loop R0) ∧ s2.heap.get s.next = some (.cells [.int .i64 w] none) ∧ s.next + 1 + 1 + 1 < s2.next ∧ ∃ vv, s2.heap.get (s.next + 1) = some (.cells [vv] none) ∧ OwnG 2 (s.next + 1 + 1 + 1 + 1) s2 vv ((l.map (lnAt L R w)).map Frac.cs))
    ?_ ?_ ?_ ?_ ?_ ?_ ?_).mono fun _ s2 hres => ?_
  · simp only [pushed_next']; omega
  · exact hKs _ ⟨by (try simp only [pushed_next', upded_next']); omega, fun i hi => by simp -implicitDefEqProofs (disch := omega) []⟩
  · exact veq_yield _ _
  · rintro i (rfl | rfl) <;> omega
  · refine ⟨?_, ?_, ?_, .slice none 0 0, ?_, .inl ⟨rfl, rfl⟩⟩
    · simp -implicitDefEqProofs (disch := omega)
    · simp -implicitDefEqProofs (disch := omega)
    · simp
    · simp -implicitDefEqProofs (disch := omega)
  · rintro l sa sb ⟨j0, j1, j2, vv, j3, j4⟩ ⟨k1, k2⟩
    exact ⟨(k2 _ (by omega)).trans j0, (k2 _ (by omega)).trans j1, by omega, vv, (k2 _ (by omega)).trans j3, j4.keep k1 fun i _ hi => k2 i hi⟩
  · rintro l p sa hpre ⟨j0, j1, j2, vv, j3, j4⟩ hsn
    simp only [pushed_next'] at hsn
    obtain ⟨hp1, hp2, hp3, hp4⟩ := hit p (hpre.subset (by simp))
    have hll : l.length + 1 ≤ items.length := by have := hpre.length_le; simpa using this
    have hrows := cs_len (l.map (lnAt L R w))
    have hrl : ((l.map (lnAt L R w)).map Frac.cs).length = l.length := by simp
    have hrn : ((l ++ [p]).map (lnAt L R w)).map Frac.cs = (l.map (lnAt L R w)).map Frac.cs ++ [(lnAt L R w p).cs] := by simp
    have hvs : veq 5 vv vv = true := veq_sl (k := 4) (j4.sl hrows)
    have hvs4 : veq 4 vv vv = true := veq_sl (k := 3) (j4.sl hrows)
    have ho1 : oneV vv = true := by rcases j4 with ⟨_, rfl⟩ | ⟨_, rfl, _⟩ <;> rfl
    rw [hrn]
    generalize (l.map (lnAt L R w)).map Frac.cs = rows at j4 hrows hrl ⊢
    show Evn TT (fun self => exRound self (s.next + 1 + 1 + 1) _ sa) _
    subst hR
    refine Evn.round j0 rfl ?_
    show Cd TT true _ _ ((Fr.mk _ []).put (some 8) _) _ _
    dsimp only
    apply zz
    refine Cd.ra (h := ?_)
    apply Run.by_eq
    · intro self
      conv => lhs; simp -implicitDefEqProofs (maxSteps := 300000) (disch := omega) [-getElem?_pos, -getElem?_neg, Fr.get_mk]
    try (with_reducible refine Run.ret ?_)
    apply zz
    have jl : ∀ (c d : AObj), ((sa.pushed c).upded sa.next d).heap.get (s.next + 1 + 1 + 1) = sa.heap.get (s.next + 1 + 1 + 1) := fun c d => by simp -implicitDefEqProofs (disch := omega)
    refine ⟨rfl, _, (jl _ _).trans j0, rfl, rfl, ?_⟩
    dsimp only
    generalize hLf : ALoop.mk false none _ _ _ _ _ = Lf
    apply zz
    refine Cd.drawn (pl := [(0, 0, false, false), (1, 0, false, false), (2, 0, false, false), (3, 6, true, false), (4, 14, false, true), (5, 31, true, false), (6, 63, true, false)]) (by kernel_rfl) (by conv => lhs; simp only [List.map_cons, List.map_nil]) (by conv => lhs; simp [strip, ordered]) ?_
    apply Run.by_eq
    · intro self
      conv => lhs; simp -implicitDefEqProofs (maxSteps := 300000) (disch := omega) [filter_bt, (show Nat.testBit 6 0 = false from rfl), (show Nat.testBit 6 1 = true from rfl), (show Nat.testBit 6 2 = true from rfl), (show ∀ i, Nat.testBit 31 i = decide (i < 5) from fun i => Nat.testBit_two_pow_sub_one 5 i), (show ∀ i, Nat.testBit 63 i = decide (i < 6) from fun i => Nat.testBit_two_pow_sub_one 6 i), -getElem?_pos, -getElem?_neg, Fr.get_mk, j1, j3, hvs, hvs4, ho1]
    try (with_reducible refine Run.ret ?_)
    apply zz
    refine Run.call ((lineO_ev p.1 p.2 w (L p.1) (R p.2) _ hp3 hp4 (by omega) (by omega) (by omega)).mono fun v wy hv => ?_)
    obtain ⟨rfl, y⟩ := hv
    have ya := y.1
    have yb := y.2
    try simp only [pushed_next', upded_next'] at ya yb
    have y0 : wy.heap.get s.next = some (.cells [.int .i64 w] none) := by rw [yb _ (by (try simp only [pushed_next', upded_next']); omega)]; simp -implicitDefEqProofs (disch := omega) [j1]
    have y1 : wy.heap.get (s.next + 1) = some (.cells [vv] none) := by rw [yb _ (by (try simp only [pushed_next', upded_next']); omega)]; simp -implicitDefEqProofs (disch := omega) [j3]
    have y2 : wy.heap.get sa.next = some (.cells [.int .i64 p.1, .int .i64 (L p.1).o, .int .i64 (L p.1).u, .int .i64 p.2, .int .i64 (R p.2).o, .int .i64 (R p.2).u] none) := by rw [yb _ (by (try simp only [pushed_next', upded_next']); omega)]; simp -implicitDefEqProofs (disch := omega)
    have yl : wy.heap.get (s.next + 1 + 1 + 1) = some (.loop Lf) := by rw [yb _ (by (try simp only [pushed_next', upded_next']); omega)]; simp -implicitDefEqProofs (disch := omega)
    have yo : ∀ i, i < sa.next → i ≠ s.next + 1 + 1 + 1 → wy.heap.get i = sa.heap.get i := fun i h1 h2 => by rw [yb i (by (try simp only [pushed_next', upded_next']); omega)]; simp -implicitDefEqProofs (disch := omega)
    rw [show (lineF p.1 (L p.1) p.2 (R p.2) w) = lnAt L R w p from rfl]
    generalize lnAt L R w p = X at *
    have hOy : OwnG 2 (s.next + 1 + 1 + 1 + 1) (wy.pushed (.cells [.int .i64 X.o, .int .i64 X.u] none)) vv rows := j4.keep (by (try simp only [pushed_next', upded_next'] at *); omega) fun i h1 h2 => by
      rw [get_pushed_old _ _ _ (by omega)]; exact yo i h2 (by omega)
    obtain ⟨s4, happ, hn4, hk4, hO4⟩ := app_one (n := 2) (b2 := wy.next) (x := [.int .i64 X.o, .int .i64 X.u]) (g := none) hOy hrows rfl rfl (get_pushed_new _ _) (by (try simp only [pushed_next', upded_next'] at *); omega) (by omega)
    simp only [pushed_next'] at happ hn4 hO4
    have z1 := (hk4 (s.next + 1) (by omega)).trans ((get_pushed_old _ _ _ (by omega)).trans y1)
    apply Run.by_eq
    · intro self
      conv => lhs; simp -implicitDefEqProofs (maxSteps := 300000) (disch := omega) [-getElem?_pos, -getElem?_neg, v_eq, Fr.get_mk, y0, y1, y2, hvs, hvs4, ho1, happ, z1]
    try (with_reducible refine Run.ret ?_)
    apply zz
    refine ⟨rfl, Lf, ?_, rfl, ⟨?_, ?_, ?_, _, ?_, hO4.keep ?_ fun i h1 h2 => ?_⟩, ?_, fun z hz hX => ?_⟩
    · rw [get_upded_other _ _ _ _ (by omega), hk4 _ (by omega), get_pushed_old _ _ _ (by omega)]; exact yl
    · rw [get_upded_same]; subst hLf; rfl
    · rw [get_upded_other _ _ _ _ (by omega), get_upded_other _ _ _ _ (by omega), hk4 _ (by omega), get_pushed_old _ _ _ (by omega)]; exact y0
    · simp only [pushed_next', upded_next'] at *; omega
    · rw [get_upded_other _ _ _ _ (by omega), get_upded_same]
    · simp only [pushed_next', upded_next'] at *; omega
    · rw [get_upded_other _ _ _ _ (by omega), get_upded_other _ _ _ _ (by omega)]
    · simp only [pushed_next', upded_next'] at *; omega
    · have x1 : z ≠ s.next + 1 := fun e => hX (.inl e)
      have x2 : z ≠ s.next + 1 + 1 + 1 := fun e => hX (.inr e)
      simp only [pushed_next', upded_next'] at hz ya
      rw [get_upded_other _ _ _ _ x2, get_upded_other _ _ _ _ x1, hk4 _ (by omega), get_pushed_old _ _ _ (by omega)]
      exact yo z (by omega) x2
  · obtain ⟨⟨j0, j1, j2, vv, j3, j4⟩, r2, r3⟩ := hres
    simp only [pushed_next'] at r2 r3
    have ho1 : oneV vv = true := by rcases j4 with ⟨_, rfl⟩ | ⟨_, rfl, _⟩ <;> rfl
    have hd : s2.heap.get (s.next + 1 + 1) = some (.deferred true) := by
      rw [r3 _ (by omega) (by omega)]
      simp -implicitDefEqProofs (disch := omega)
    refine ⟨R0, j0, .inl ⟨by rw [← hR], by rw [← hR], ?_⟩⟩
    apply zz
    refine Cd.ra (h := ?_)
    apply Run.by_eq
    · intro self
      conv => lhs; simp -implicitDefEqProofs (maxSteps := 300000) (disch := omega) [-getElem?_pos, -getElem?_neg, Fr.get_mk, j3]
    try (with_reducible refine Run.ret ?_)
    apply zz
    refine Leave.many (.inr rfl) (by simp [Fr.marks_put]) (fun m hm => ?_) fun s' e1 e2 => ?_
    · have hm2 : m = s.next + 1 + 1 := by simpa [Fr.marks_put] using hm
      subst hm2
      simp -implicitDefEqProofs (disch := omega) [hd]
    have hmm : ∀ i, i ≠ s.next + 1 + 1 → s'.heap.get i = (s2.upded (s.next + 1 + 1 + 1) .dead).heap.get i := fun i hi => e2 i (by simpa [Fr.marks_put] using hi)
    have hs' : ∀ i, i ≠ s.next + 1 + 1 → i ≠ s.next + 1 + 1 + 1 → s'.heap.get i = s2.heap.get i := fun i h1 h2 => by rw [hmm i h1, get_upded_other _ _ _ _ h2]
    simp only [upded_next'] at e1
    refine ⟨[vv], ?_, ⟨by omega, fun i hi => ?_⟩, ?_⟩
    · conv => lhs; simp -implicitDefEqProofs (disch := omega) [Try.results68]
    · rw [hs' i (by omega) (by omega), r3 i (by omega) (by omega)]
      simp -implicitDefEqProofs (disch := omega)
    · have := (j4.keep (s' := s') (by omega) fun i h1 h2 => hs' i (by omega) (by omega)).sl (cs_len _)
      exact this
end Go.Proofs.Ytnhokodcmeekhaa
namespace Go.Proofs.Ytnhokodcmeekhaa
open Go Kern
/-! The least and the greatest sweetness of a week; rounding -/
set_option maxRecDepth 100000 in
theorem down_ev (x : Frac) (s : St) (ho : 0 ≤ x.o) (hu : 0 < x.u) (hb : x.o ≤ 4611686018427387904) : Ev TT 42 [x.v] s fun r s' => r = .int .i64 (flF x) ∧ Keep s s' := by
  have hq := intOp_quo .i64 x.o x.u ho hu
  have h1 : 0 ≤ x.o / x.u := Int.ediv_nonneg ho (by omega)
  have h2 : x.o / x.u ≤ x.o := Int.ediv_le_self _ ho
  unfold flF
  rw [v_eq]
  generalize hQ : x.o / x.u = Q at hq h1 h2 ⊢
  have hw : wrapF .i64 Q = Q := by simp -implicitDefEqProofs (disch := omega)
  rw [hw] at hq
  refine Ev.intro (fn := Try.f42) rfl (by kernel_rfl) rfl rfl ?_
  apply zz
  refine Cd.ra (h := ?_)
  apply Run.by_eq
  · intro self
    conv => lhs; simp -implicitDefEqProofs (maxSteps := 300000) (disch := omega) [-getElem?_pos, -getElem?_neg]
  try (with_reducible refine Run.ret ?_)
  apply zz
  refine Cd.ra (h := ?_)
  apply Run.by_eq
  · intro self
    conv => lhs; simp -implicitDefEqProofs (maxSteps := 300000) (disch := omega) [-getElem?_pos, -getElem?_neg, hq]
  try (with_reducible refine Run.ret ?_)
  apply zz
  apply Leave.mk (by first | exact .inl rfl | exact .inr rfl) (by simp only [Fr.marks_put, fr0_marks])
  · conv => lhs; simp -implicitDefEqProofs (disch := omega) [Try.results42]
  exact ⟨rfl, ⟨by (try simp only [pushed_next', upded_next']); omega, fun i hi => by simp -implicitDefEqProofs (disch := omega) []⟩⟩
set_option maxRecDepth 100000 in
theorem up_ev (x : Frac) (s : St) (ho : 0 ≤ x.o) (hu : 0 < x.u) (hb : x.o ≤ 2000000000000000000) (hb2 : x.u ≤ 2000000000000000000) : Ev TT 44 [x.v] s fun r s' => r = .int .i64 (ceF x) ∧ Keep s s' := by
  have hq := intOp_quo .i64 (x.o + x.u - 1) x.u (by omega) hu
  have h1 : 0 ≤ (x.o + x.u - 1) / x.u := Int.ediv_nonneg (by omega) (by omega)
  have h2 : (x.o + x.u - 1) / x.u ≤ x.o + x.u - 1 := Int.ediv_le_self _ (by omega)
  rw [← ce_up hu, v_eq]
  generalize hQ : (x.o + x.u - 1) / x.u = Q at hq h1 h2 ⊢
  have hw : wrapF .i64 Q = Q := by simp -implicitDefEqProofs (disch := omega)
  rw [hw] at hq
  refine Ev.intro (fn := Try.f44) rfl (by kernel_rfl) rfl rfl ?_
  apply zz
  refine Cd.ra (h := ?_)
  apply Run.by_eq
  · intro self
    conv => lhs; simp -implicitDefEqProofs (maxSteps := 300000) (disch := omega) [-getElem?_pos, -getElem?_neg]
  try (with_reducible refine Run.ret ?_)
  apply zz
  refine Cd.ra (h := ?_)
  apply Run.by_eq
  · intro self
    conv => lhs; simp -implicitDefEqProofs (maxSteps := 300000) (disch := omega) [-getElem?_pos, -getElem?_neg, hq]
  try (with_reducible refine Run.ret ?_)
  apply zz
  apply Leave.mk (by first | exact .inl rfl | exact .inr rfl) (by simp only [Fr.marks_put, fr0_marks])
  · conv => lhs; simp -implicitDefEqProofs (disch := omega) [Try.results44]
  exact ⟨rfl, ⟨by (try simp only [pushed_next', upded_next']); omega, fun i hi => by simp -implicitDefEqProofs (disch := omega) []⟩⟩
/-- Lines of such fractions are so small that they can be compared. -/
theorem lines_fit {A B : Int} {n w : Nat} {L R : Nat → Frac} {x0 : Frac} {items : List (Nat × Nat)} (hn : n ≤ 30) (hw : w < n) (hA : 0 ≤ A) (hB : 1 ≤ B) (hAB : 60 * (A * B) * (30 * (B * B)) ≤ 4611686018427387904) (hL : ∀ i, i < n → Mid A B (L i)) (hR : ∀ i, i < n → Mid A B (R i)) (h0 : Mid A B x0)
    (hit : ∀ p ∈ items, p.1 < n ∧ p.2 < n ∧ p.1 ≠ p.2) : (∀ x ∈ items.map (lnAt L R w), Mid (60 * (A * B)) (30 * (B * B)) x) ∧ ∀ x ∈ items.map (lnAt L R w), ∀ y, y = x0 ∨ y ∈ items.map (lnAt L R w) → Fits x y := by
  have hm : ∀ x ∈ items.map (lnAt L R w), Mid (60 * (A * B)) (30 * (B * B)) x := fun x hx => by
    obtain ⟨p, hp, rfl⟩ := List.mem_map.1 hx
    obtain ⟨h1, h2, h3⟩ := hit p hp
    exact lineF_mid (hL _ h1) (hR _ h2) (by omega) (by omega) (by omega) (by omega)
  have hAB1 : A ≤ A * B := by have := Int.mul_le_mul_of_nonneg_left hB hA; omega
  have hBB1 : B ≤ B * B := by have := Int.mul_le_mul_of_nonneg_left hB (show 0 ≤ B by omega); omega
  refine ⟨hm, fun x hx y hy => ?_⟩
  have hy' : Mid (60 * (A * B)) (30 * (B * B)) y := by
    rcases hy with rfl | hy
    · exact h0.mono (by omega) (by omega)
    · exact hm y hy
  exact (hm x hx).fits hy' hAB
theorem flat_len_le {α β : Type} {c : Nat} (F : α → List β) : ∀ {l : List α}, (∀ x ∈ l, (F x).length ≤ c) → (l.flatMap F).length ≤ l.length * c
  | [], _ => by simp
  | x :: r, h => by
    rw [List.flatMap_cons, List.length_append, List.length_cons, Nat.add_mul]
    have := h x (.head _)
    have := flat_len_le F (l := r) fun y hy => h y (.tail _ hy)
    omega
theorem across_len {n w : Nat} (hn : n ≤ 30) (hw : w < n) : (acrossL n w).length ≤ 900 := by
  have := flat_len_le (c := 30) (fun i => (List.range (n - (w + 1))).map fun d => (i, w + 1 + d)) (l := List.range w) fun x _ => by simp; omega
  unfold acrossL
  simp only [List.length_range] at this
  omega
theorem toward_len {n w : Nat} (hn : n ≤ 30) (hw : w < n) : (towardL n w).length ≤ 900 := by
  have := flat_len_le (c := 30) (fun far => towardF n w far) (l := List.range n) fun x hx => by
    have : x < n := by simpa using hx
    rw [towardF_eq]; simp only [List.length_map, List.length_range]; unfold lnT; split <;> omega
  unfold towardL
  simp only [List.length_range] at this
  omega
set_option maxRecDepth 100000 in
set_option maxHeartbeats 4000000 in
theorem least_ev (A B : Int) (BC : List Value) (n : Nat) (L H : Nat → Frac) (w : Nat) (s : St) (hB : BOk BC n L H) (hn : n ≤ 30) (hw : w < n) (hA : 0 ≤ A) (hB1 : 1 ≤ B) (hA2 : A ≤ 30000000000) (hB2 : B ≤ 30000) (hAB : 60 * (A * B) * (30 * (B * B)) ≤ 4611686018427387904) (hL : ∀ i, i < n → Mid A B (L i)) :
    Ev TT 41 [.agg BC.toArray, .int .i64 w] s fun r s' => r = (lowF n L w).v ∧ Keep s s' := by
  have h2 := hB.len
  have h3 := hB.ones
  have h1 := takeL_len h2
  have hS := hB.same
  have hlo := hB.lo w (by omega)
  have h4 : ((w : Int) < 30) := by omega
  have hw30 : w < 30 := by omega
  obtain ⟨hm, hF⟩ := lines_fit (x0 := L w) (items := acrossL n w) hn hw hA hB1 hAB hL hL (hL w hw) fun p hp => by have := across_mem.1 hp; omega
  have hlow : lowF n L w = foreF aboveB (L w) ((acrossL n w).map (lnAt L L w)) := rfl
  rw [hlow]
  have hlen : ((acrossL n w).map (lnAt L L w)).length ≤ 100000 := by rw [List.length_map]; have := across_len hn hw; omega
  refine Ev.intro (fn := Try.f41) rfl (by kernel_rfl) rfl rfl ?_
  apply zz
  refine Cd.ra (h := ?_)
  apply Run.by_eq
  · intro self
    conv => lhs; simp -implicitDefEqProofs (maxSteps := 300000) (disch := omega) [-getElem?_pos, -getElem?_neg, h2, h3]
  try (with_reducible refine Run.ret ?_)
  apply zz
  refine Cd.drawn (pl := [(0, 0, false, false), (1, 0, false, false), (2, 3, false, false), (3, 7, false, false), (4, 0, false, false), (5, 0, false, false), (6, 0, false, false), (7, 96, true, false), (8, 240, true, false), (9, 511, true, false), (10, 1023, true, false)]) (by kernel_rfl) (by conv => lhs; simp only [List.map_cons, List.map_nil]) (by conv => lhs; simp [strip, ordered]) ?_
  apply Run.by_eq
  · intro self
    conv => lhs; simp -implicitDefEqProofs (maxSteps := 300000) (disch := omega) [filter_bt, (show Nat.testBit 96 0 = false from rfl), (show Nat.testBit 96 1 = false from rfl), (show Nat.testBit 96 2 = false from rfl), (show Nat.testBit 96 3 = false from rfl), (show Nat.testBit 96 4 = false from rfl), (show Nat.testBit 96 5 = true from rfl), (show Nat.testBit 96 6 = true from rfl), (show Nat.testBit 240 0 = false from rfl), (show Nat.testBit 240 1 = false from rfl), (show Nat.testBit 240 2 = false from rfl), (show Nat.testBit 240 3 = false from rfl), (show Nat.testBit 240 4 = true from rfl), (show Nat.testBit 240 5 = true from rfl), (show Nat.testBit 240 6 = true from rfl), (show ∀ i, Nat.testBit 511 i = decide (i < 9) from fun i => Nat.testBit_two_pow_sub_one 9 i), (show ∀ i, Nat.testBit 1023 i = decide (i < 10) from fun i => Nat.testBit_two_pow_sub_one 10 i), -getElem?_pos, -getElem?_neg, h1, hS, hlo, hw30, h4]
  try (with_reducible refine Run.ret ?_)
  apply zz
  refine Run.call ((acrossOf_ev BC n w L H _ hB).mono fun v wu hv => ?_)
  obtain ⟨rfl, u, un, u0, u1⟩ := hv
  have ua := u.1
  have ub := u.2
  try simp only [pushed_next', upded_next'] at ua ub un u0 u1
  have x0 : wu.heap.get s.next = some (.cells BC none) := by rw [ub _ (by omega)]; simp -implicitDefEqProofs (disch := omega)
  have x9 : wu.heap.get (s.next + 1) = some (.cells [.int .i64 0, .int .i64 0] none) := by rw [ub _ (by omega)]; simp -implicitDefEqProofs (disch := omega)
  apply Run.by_eq
  · intro self
    conv => lhs; simp -implicitDefEqProofs (maxSteps := 300000) (disch := omega) [-getElem?_pos, -getElem?_neg, x0, h1, hS, hlo, hw30, h4]
  try (with_reducible refine Run.ret ?_)
  apply zz
  refine Run.call ((valuesAt_ev 84 [.pointer (some ⟨s.next + 1 + 1 + 1, 0, none⟩), .pointer (some ⟨s.next + 1 + 1, 0, none⟩)] _ (acrossL n w) L L w wu (across_iter n w L H BC (s.next + 1 + 1 + 1) (s.next + 1 + 1) wu.next hB hn hw (by omega) (by omega)) (fun s' k => ⟨(k.2 _ (by omega)).trans u1, (k.2 _ (by omega)).trans u0⟩) hw30 (fun p hp => ?_) (by have := across_len hn hw; omega)).mono fun v wz hv => ?_)
  · have := across_mem.1 hp
    exact ⟨by omega, by omega, (hL _ (by omega)).small hA2 hB2, (hL _ (by omega)).small hA2 hB2⟩
  obtain ⟨z, hz⟩ := hv
  have za := z.1
  have zb := z.2
  have z0 := (zb _ (by omega)).trans x0
  have hvv : veq 5 v v = true := veq_sl (k := 4) hz
  apply Run.by_eq
  · intro self
    conv => lhs; simp -implicitDefEqProofs (maxSteps := 300000) (disch := omega) [-getElem?_pos, -getElem?_neg, z0, h1, hS, hlo, hw30, h4, hvv]
  try (with_reducible refine Run.ret ?_)
  apply zz
  refine Run.call ((greatest_ev (L w) v _ _ hz hlen hF).mono fun v2 wt hv => ?_)
  obtain ⟨rfl, t⟩ := hv
  have ta := t.1
  have tb := t.2
  have t0 := (tb _ (by omega)).trans z0
  have t9 := (tb _ (by omega)).trans ((zb _ (by omega)).trans x9)
  apply Run.by_eq
  · intro self
    conv => lhs; simp -implicitDefEqProofs (maxSteps := 300000) (disch := omega) [-getElem?_pos, -getElem?_neg, v_eq, t0, t9, h1, hS, hlo, hw30, h4, hvv]
  try (with_reducible refine Run.ret ?_)
  apply zz
  apply Leave.mk (by first | exact .inl rfl | exact .inr rfl) (by simp only [Fr.marks_put, fr0_marks])
  · conv => lhs; simp -implicitDefEqProofs (disch := omega) [Try.results41]
  exact ⟨rfl, ⟨by (try simp only [pushed_next', upded_next']); omega, fun i hi => by simp -implicitDefEqProofs (disch := omega) [tb, zb, ub]⟩⟩
set_option maxRecDepth 100000 in
set_option maxHeartbeats 4000000 in
theorem most_ev (A B : Int) (BC : List Value) (n : Nat) (L H : Nat → Frac) (w : Nat) (s : St) (hB : BOk BC n L H) (hn : n ≤ 30) (hw : w < n) (hA : 0 ≤ A) (hB1 : 1 ≤ B) (hA2 : A ≤ 30000000000) (hB2 : B ≤ 30000) (hAB : 60 * (A * B) * (30 * (B * B)) ≤ 4611686018427387904) (hL : ∀ i, i < n → Mid A B (L i)) (hH : ∀ i, i < n → Mid A B (H i)) :
    Ev TT 43 [.agg BC.toArray, .int .i64 w] s fun r s' => r = (upF n L H w).v ∧ Keep s s' := by
  have h2 := hB.len
  have h3 := hB.ones
  have h1 := takeL_len h2
  have hS := hB.same
  have hlo := hB.hi w (by omega)
  have h4 : ((w : Int) < 30) := by omega
  have hw30 : w < 30 := by omega
  obtain ⟨hm, hF⟩ := lines_fit (x0 := H w) (items := towardL n w) hn hw hA hB1 hAB hL hH (hH w hw) fun p hp => by have := toward_mem.1 hp; omega
  have hlow : upF n L H w = foreF belowB (H w) ((towardL n w).map (lnAt L H w)) := rfl
  rw [hlow]
  have hlen : ((towardL n w).map (lnAt L H w)).length ≤ 100000 := by rw [List.length_map]; have := toward_len hn hw; omega
  refine Ev.intro (fn := Try.f43) rfl (by kernel_rfl) rfl rfl ?_
  apply zz
  refine Cd.ra (h := ?_)
  apply Run.by_eq
  · intro self
    conv => lhs; simp -implicitDefEqProofs (maxSteps := 300000) (disch := omega) [-getElem?_pos, -getElem?_neg, h2, h3]
  try (with_reducible refine Run.ret ?_)
  apply zz
  refine Cd.drawn (pl := [(0, 0, false, false), (1, 0, false, false), (2, 3, false, false), (3, 7, false, false), (4, 0, false, false), (5, 0, false, false), (6, 0, false, false), (7, 96, true, false), (8, 240, true, false), (9, 511, true, false), (10, 1023, true, false)]) (by kernel_rfl) (by conv => lhs; simp only [List.map_cons, List.map_nil]) (by conv => lhs; simp [strip, ordered]) ?_
  apply Run.by_eq
  · intro self
    conv => lhs; simp -implicitDefEqProofs (maxSteps := 300000) (disch := omega) [filter_bt, (show Nat.testBit 96 0 = false from rfl), (show Nat.testBit 96 1 = false from rfl), (show Nat.testBit 96 2 = false from rfl), (show Nat.testBit 96 3 = false from rfl), (show Nat.testBit 96 4 = false from rfl), (show Nat.testBit 96 5 = true from rfl), (show Nat.testBit 96 6 = true from rfl), (show Nat.testBit 240 0 = false from rfl), (show Nat.testBit 240 1 = false from rfl), (show Nat.testBit 240 2 = false from rfl), (show Nat.testBit 240 3 = false from rfl), (show Nat.testBit 240 4 = true from rfl), (show Nat.testBit 240 5 = true from rfl), (show Nat.testBit 240 6 = true from rfl), (show ∀ i, Nat.testBit 511 i = decide (i < 9) from fun i => Nat.testBit_two_pow_sub_one 9 i), (show ∀ i, Nat.testBit 1023 i = decide (i < 10) from fun i => Nat.testBit_two_pow_sub_one 10 i), -getElem?_pos, -getElem?_neg, h1, hS, hlo, hw30, h4]
  try (with_reducible refine Run.ret ?_)
  apply zz
  refine Run.call ((towardOf_ev BC n w L H _ hB).mono fun v wu hv => ?_)
  obtain ⟨rfl, u, un, u0, u1⟩ := hv
  have ua := u.1
  have ub := u.2
  try simp only [pushed_next', upded_next'] at ua ub un u0 u1
  have x0 : wu.heap.get s.next = some (.cells BC none) := by rw [ub _ (by omega)]; simp -implicitDefEqProofs (disch := omega)
  have x9 : wu.heap.get (s.next + 1) = some (.cells [.int .i64 0, .int .i64 0] none) := by rw [ub _ (by omega)]; simp -implicitDefEqProofs (disch := omega)
  apply Run.by_eq
  · intro self
    conv => lhs; simp -implicitDefEqProofs (maxSteps := 300000) (disch := omega) [-getElem?_pos, -getElem?_neg, x0, h1, hS, hlo, hw30, h4]
  try (with_reducible refine Run.ret ?_)
  apply zz
  refine Run.call ((valuesAt_ev 85 [.pointer (some ⟨s.next + 1 + 1, 0, none⟩), .pointer (some ⟨s.next + 1 + 1 + 1, 0, none⟩)] _ (towardL n w) L H w wu (toward_iter n w L H BC (s.next + 1 + 1 + 1) (s.next + 1 + 1) wu.next hB hn hw (by omega) (by omega)) (fun s' k => ⟨(k.2 _ (by omega)).trans u1, (k.2 _ (by omega)).trans u0⟩) hw30 (fun p hp => ?_) (by have := toward_len hn hw; omega)).mono fun v wz hv => ?_)
  · have := toward_mem.1 hp
    exact ⟨by omega, by omega, (hL _ (by omega)).small hA2 hB2, (hH _ (by omega)).small hA2 hB2⟩
  obtain ⟨z, hz⟩ := hv
  have za := z.1
  have zb := z.2
  have z0 := (zb _ (by omega)).trans x0
  have hvv : veq 5 v v = true := veq_sl (k := 4) hz
  apply Run.by_eq
  · intro self
    conv => lhs; simp -implicitDefEqProofs (maxSteps := 300000) (disch := omega) [-getElem?_pos, -getElem?_neg, z0, h1, hS, hlo, hw30, h4, hvv]
  try (with_reducible refine Run.ret ?_)
  apply zz
  refine Run.call ((smallest_ev (H w) v _ _ hz hlen hF).mono fun v2 wt hv => ?_)
  obtain ⟨rfl, t⟩ := hv
  have ta := t.1
  have tb := t.2
  have t0 := (tb _ (by omega)).trans z0
  have t9 := (tb _ (by omega)).trans ((zb _ (by omega)).trans x9)
  apply Run.by_eq
  · intro self
    conv => lhs; simp -implicitDefEqProofs (maxSteps := 300000) (disch := omega) [-getElem?_pos, -getElem?_neg, v_eq, t0, t9, h1, hS, hlo, hw30, h4, hvv]
  try (with_reducible refine Run.ret ?_)
  apply zz
  apply Leave.mk (by first | exact .inl rfl | exact .inr rfl) (by simp only [Fr.marks_put, fr0_marks])
  · conv => lhs; simp -implicitDefEqProofs (disch := omega) [Try.results43]
  exact ⟨rfl, ⟨by (try simp only [pushed_next', upded_next']); omega, fun i hi => by simp -implicitDefEqProofs (disch := omega) [tb, zb, ub]⟩⟩
end Go.Proofs.Ytnhokodcmeekhaa
namespace Go.Proofs.Ytnhokodcmeekhaa
open Go Kern
/-! Bounds of a field that is possible -/
def hB (lo hi : Int) (ss : List SampD) : Nat → Nat → Nat → Bool := holdsB (fun w => (endN lo hi ss w).1) (fun w => (endN lo hi ss w).2)
def PosA (n lo hi : Int) (ss : List SampD) (BC : List Value) (e : Int) : Prop :=
  (fieldErr n lo hi ss ≠ 0 ∧ e = fieldErr n lo hi ss) ∨
  (fieldErr n lo hi ss = 0 ∧ e = 12 ∧ ∃ i j k, i < n.toNat ∧ j < n.toNat ∧ k < n.toNat ∧ hB lo hi ss i j k = true) ∨
  (fieldErr n lo hi ss = 0 ∧ e = 0 ∧ BC = bcells n.toNat (bndN n.toNat lo hi ss).1 (bndN n.toNat lo hi ss).2 ∧ ∀ i j k, i < n.toNat → j < n.toNat → k < n.toNat → hB lo hi ss i j k = false)
theorem hB_eq {m : Nat} {lo hi : Int} {ss : List SampD} (h1 : fieldErr m lo hi ss = 0) : ∀ i j k, i < m → j < m → k < m → clashB (bndN m lo hi ss).1 (bndN m lo hi ss).2 i j k = hB lo hi ss i j k := fun _ _ _ => clash_holds (bnd_end h1)
def zBC : List Value := .int .i64 0 :: List.replicate 120 (.int .i64 0)
theorem zBC_len : zBC.length = 121 := by simp [zBC]
theorem zBC_ones : onesL zBC = true := rfl
theorem zBC_same : listEq (veq 4) zBC zBC = true := same_ints _ fun x hx => ⟨0, by
  unfold zBC at hx
  cases hx with
  | head => rfl
  | tail _ hx => exact (List.mem_replicate.1 hx).2⟩
@[simp] theorem binVal_nilN (t e : TypeId) (fl : Bool) (l c l' c' : Nat) : binVal TT (.slice e) t fl .neq (.slice none l c) (.slice none l' c') = some (.bool false) := rfl
@[simp] theorem binVal_someN (t e : TypeId) (fl : Bool) (a : Addr) (l c l' c' : Nat) : binVal TT (.slice e) t fl .neq (.slice (some a) l c) (.slice none l' c') = some (.bool true) := rfl
theorem overL_len {α : Type} {vs b : List α} (h : vs.length = b.length) : overL vs b = some vs := by
  have := overL_same vs b [] h
  simpa using this
set_option maxRecDepth 100000 in
set_option maxHeartbeats 4000000 in
theorem possible_ev (n lo hi : Int) (v : Value) (ss : List SampD) (s : St) (hs : SmAt s v ss) (hl : ss.length ≤ 1000000) : Ev TT 40 [fieldV n lo hi v] s fun r s' => Keep s s' ∧ ∃ BC e, r = .tuple #[.agg BC.toArray, .int .i64 e] ∧ BC.length = 121 ∧ onesL BC = true ∧ listEq (veq 4) BC BC = true ∧ PosA n lo hi ss BC e := by
  have hck := check_ev n lo hi v ss
  have hbo := fun (m : Nat) (e : n = m) (s : St) (h : SmAt s v ss) hc => boundsOf_ev m lo hi v ss s h hc
  obtain ⟨a, c, rfl⟩ := hs.shape
  rw [List.length_map] at hs hck hbo ⊢
  unfold fieldV at hck hbo ⊢
  refine Ev.intro (fn := Try.f40) rfl (by kernel_rfl) rfl rfl ?_
  apply zz
  refine Cd.ra (h := ?_)
  apply Run.by_eq
  · intro self
    conv => lhs; simp -implicitDefEqProofs (maxSteps := 300000) (disch := omega) [-getElem?_pos, -getElem?_neg]
  try (with_reducible refine Run.ret ?_)
  apply zz
  refine Cd.ra (h := ?_)
  apply Run.by_eq
  · intro self
    conv => lhs; simp -implicitDefEqProofs (maxSteps := 300000) (disch := omega) [-getElem?_pos, -getElem?_neg]
  try (with_reducible refine Run.ret ?_)
  apply zz
  refine Run.call ((hck _ (hs.keep ⟨by (try simp only [pushed_next', upded_next']); omega, fun i hi => by simp -implicitDefEqProofs (disch := omega) []⟩) hl).mono fun v wy hv => ?_)
  obtain ⟨rfl, y⟩ := hv
  have ya := y.1
  have yb := y.2
  try simp only [pushed_next', upded_next'] at ya yb
  have y1 : wy.heap.get (s.next + 1) = some (.cells (.int .i64 0 :: List.replicate 120 (.int .i64 0)) none) := by rw [yb _ (by omega)]; simp -implicitDefEqProofs (disch := omega)
  apply Run.by_eq
  · intro self
    conv => lhs; simp -implicitDefEqProofs (maxSteps := 300000) (disch := omega) [-getElem?_pos, -getElem?_neg, yb]
  try (with_reducible refine Run.ret ?_)
  apply zz
  by_cases h1 : fieldErr n lo hi ss = 0
  case neg =>
    apply zz
    refine Cd.ra (h := ?_)
    apply Run.by_eq
    · intro self
      conv => lhs; simp -implicitDefEqProofs (maxSteps := 300000) (disch := omega) [-getElem?_pos, -getElem?_neg, h1]
    try (with_reducible refine Run.ret ?_)
    apply zz
    apply Cd.ite rfl
    · conv => lhs; simp -implicitDefEqProofs (maxSteps := 300000) (disch := omega) [-getElem?_pos, -getElem?_neg]
    all_goals intro c0
    all_goals try (cases c0; done)
    all_goals try simp only [Bool.not_eq_true', Bool.not_eq_false', decide_eq_true_eq, decide_eq_false_iff_not] at c0
    all_goals apply zz
    apply zz
    refine Cd.ra (h := ?_)
    apply Run.by_eq
    · intro self
      conv => lhs; simp -implicitDefEqProofs (maxSteps := 300000) (disch := omega) [-getElem?_pos, -getElem?_neg, y1]
    try (with_reducible refine Run.ret ?_)
    apply zz
    apply Leave.mk (by first | exact .inl rfl | exact .inr rfl) (by simp only [Fr.marks_put, fr0_marks])
    · conv => lhs; simp -implicitDefEqProofs (disch := omega) [Try.results40]
    exact ⟨⟨by (try simp only [pushed_next', upded_next']); omega, fun i hi => by simp -implicitDefEqProofs (disch := omega) [yb]⟩, zBC, _, rfl, zBC_len, zBC_ones, zBC_same, .inl ⟨h1, rfl⟩⟩
  apply zz
  refine Cd.ra (h := ?_)
  apply Run.by_eq
  · intro self
    conv => lhs; simp -implicitDefEqProofs (maxSteps := 300000) (disch := omega) [-getElem?_pos, -getElem?_neg, h1]
  try (with_reducible refine Run.ret ?_)
  apply zz
  apply Cd.ite rfl
  · conv => lhs; simp -implicitDefEqProofs (maxSteps := 300000) (disch := omega) [-getElem?_pos, -getElem?_neg]
  all_goals intro c0
  all_goals try (cases c0; done)
  all_goals try simp only [Bool.not_eq_true', Bool.not_eq_false', decide_eq_true_eq, decide_eq_false_iff_not] at c0
  all_goals apply zz
  obtain ⟨⟨hn1, hn30⟩, hr, _, hss⟩ := fieldErr_ok h1
  obtain ⟨m, rfl⟩ : ∃ m : Nat, n = m := ⟨n.toNat, by omega⟩
  have va : veq 4 (Value.slice a ss.length c) (Value.slice a ss.length c) = true := slAt_veq hs 3
  have hW := fun w hw => (List.take_length (l := ss) ▸ bnd_all (n := m) h1 ss.length w hw : _)
  have hEq := hB_eq h1
  have hBO := bOk m (bndN m lo hi ss).1 (bndN m lo hi ss).2
  apply zz
  refine Cd.ra (h := ?_)
  apply Run.by_eq
  · intro self
    conv => lhs; simp -implicitDefEqProofs (maxSteps := 300000) (disch := omega) [-getElem?_pos, -getElem?_neg, yb, va]
  try (with_reducible refine Run.ret ?_)
  apply zz
  refine Run.call ((hbo m rfl _ (hs.keep ⟨by (try simp only [pushed_next', upded_next']); omega, fun i hi => by simp -implicitDefEqProofs (disch := omega) [yb]⟩) h1).mono fun v wz hv => ?_)
  obtain ⟨rfl, z⟩ := hv
  have za := z.1
  have zb := z.2
  try simp only [pushed_next', upded_next'] at za zb
  have z1 := (zb _ (by omega)).trans y1
  have hP : PosA m lo hi ss (bcells m (bndN m lo hi ss).1 (bndN m lo hi ss).2) 0 ∨ ∃ i j k, i < m ∧ j < m ∧ k < m ∧ hB lo hi ss i j k = true := by
    by_cases h : ∃ i j k, i < m ∧ j < m ∧ k < m ∧ hB lo hi ss i j k = true
    · exact .inr h
    · exact .inl (.inr (.inr ⟨h1, rfl, by rw [Int.toNat_natCast], fun i j k hi' hj hk => by
        rw [Int.toNat_natCast] at hi' hj hk
        cases hb : hB lo hi ss i j k with
        | false => rfl
        | true => exact absurd ⟨i, j, k, hi', hj, hk, hb⟩ h⟩))
  have hcl := fun s => clash_ev _ m _ _ s hBO (by omega) hW
  generalize bcells m (bndN m lo hi ss).1 (bndN m lo hi ss).2 = BC at hBO hP hcl ⊢
  have b1 := takeL_len hBO.len
  have b2 := hBO.len
  have b3 := hBO.ones
  have b4 := hBO.same
  have hov : overL BC (Value.int .i64 0 :: List.replicate 120 (Value.int .i64 0)) = some BC := overL_len (by rw [b2]; rfl)
  simp only [List.reduceReplicate] at hov
  apply Run.by_eq
  · intro self
    conv => lhs; simp -implicitDefEqProofs (maxSteps := 300000) (disch := omega) [-getElem?_pos, -getElem?_neg, zb, yb, b2, b3, hov]
  try (with_reducible refine Run.ret ?_)
  apply zz
  refine Cd.ra (h := ?_)
  apply Run.by_eq
  · intro self
    conv => lhs; simp -implicitDefEqProofs (maxSteps := 300000) (disch := omega) [-getElem?_pos, -getElem?_neg, b1, b2, b3]
  try (with_reducible refine Run.ret ?_)
  apply zz
  refine Run.call ((hcl _).mono fun v wu hv => ?_)
  obtain ⟨u, hu⟩ := hv
  have ua := u.1
  have ub := u.2
  try simp only [pushed_next', upded_next'] at ua ub
  have u1 : wu.heap.get (s.next + 1) = some (.cells (.int .i64 0 :: List.replicate 120 (.int .i64 0)) none) := by rw [ub _ (by omega)]; simp -implicitDefEqProofs (disch := omega) [z1]
  have u2 : wu.heap.get wz.next = some (.cells BC none) := by rw [ub _ (by omega)]; simp -implicitDefEqProofs (disch := omega)
  rcases hu with ⟨rfl, hu⟩ | hT
  · have hnone : PosA m lo hi ss BC 0 := by
      rcases hP with hP | ⟨i, j, k, hi', hj, hk, hb⟩
      · exact hP
      · rw [← hEq i j k hi' hj hk, none_all hu i j k hi' hj hk] at hb; cases hb
    apply Run.by_eq
    · intro self
      conv => lhs; simp -implicitDefEqProofs (maxSteps := 300000) (disch := omega) [-getElem?_pos, -getElem?_neg]
    try (with_reducible refine Run.ret ?_)
    apply zz
    apply Cd.ite rfl
    · conv => lhs; simp -implicitDefEqProofs (maxSteps := 300000) (disch := omega) [-getElem?_pos, -getElem?_neg]
    all_goals intro c5
    all_goals try (cases c5; done)
    all_goals try simp only [Bool.not_eq_true', Bool.not_eq_false', decide_eq_true_eq, decide_eq_false_iff_not] at c5
    all_goals apply zz
    apply zz
    refine Cd.ra (h := ?_)
    apply Run.by_eq
    · intro self
      conv => lhs; simp -implicitDefEqProofs (maxSteps := 300000) (disch := omega) [-getElem?_pos, -getElem?_neg, u1, u2, b1, b2, b3, hov]
    try (with_reducible refine Run.ret ?_)
    apply zz
    apply Leave.mk (by first | exact .inl rfl | exact .inr rfl) (by simp only [Fr.marks_put, fr0_marks, b1, b2, b3])
    · conv => lhs; simp -implicitDefEqProofs (disch := omega) [Try.results40, b1, b2, b3]
    exact ⟨⟨by (try simp only [pushed_next', upded_next']); omega, fun i hi => by simp -implicitDefEqProofs (disch := omega) [ub, zb, yb]⟩, BC, _, rfl, b2, b3, b4, hnone⟩
  · have hT0 := hT
    obtain ⟨i, j, k, t1, t2, t3, t4, b, rfl, _⟩ := hT0
    apply Run.by_eq
    · intro self
      conv => lhs; simp -implicitDefEqProofs (maxSteps := 300000) (disch := omega) [-getElem?_pos, -getElem?_neg]
    try (with_reducible refine Run.ret ?_)
    apply zz
    apply Cd.ite rfl
    · conv => lhs; simp -implicitDefEqProofs (maxSteps := 300000) (disch := omega) [-getElem?_pos, -getElem?_neg]
    all_goals intro c5
    all_goals try (cases c5; done)
    all_goals try simp only [Bool.not_eq_true', Bool.not_eq_false', decide_eq_true_eq, decide_eq_false_iff_not] at c5
    all_goals apply zz
    apply zz
    refine Cd.ra (h := ?_)
    apply Run.by_eq
    · intro self
      conv => lhs; simp -implicitDefEqProofs (maxSteps := 300000) (disch := omega) [-getElem?_pos, -getElem?_neg, u1]
    try (with_reducible refine Run.ret ?_)
    apply zz
    apply Leave.mk (by first | exact .inl rfl | exact .inr rfl) (by simp only [Fr.marks_put, fr0_marks])
    · conv => lhs; simp -implicitDefEqProofs (disch := omega) [Try.results40]
    exact ⟨⟨by (try simp only [pushed_next', upded_next']); omega, fun i hi => by simp -implicitDefEqProofs (disch := omega) [ub, zb, yb]⟩, zBC, _, rfl, zBC_len, zBC_ones, zBC_same, .inr (.inl ⟨h1, rfl, i, j, k, by omega, by omega, by omega, by rw [← hEq i j k t1 t2 t3]; exact t4⟩)⟩
end Go.Proofs.Ytnhokodcmeekhaa
namespace Go.Proofs.Ytnhokodcmeekhaa
open Go Kern
/-! What is known of a field -/
theorem low_mid {A B : Int} {n w : Nat} {L : Nat → Frac} (hn : n ≤ 30) (hw : w < n) (hA : 0 ≤ A) (hB : 1 ≤ B) (hAB : 60 * (A * B) * (30 * (B * B)) ≤ 4611686018427387904) (hL : ∀ i, i < n → Mid A B (L i)) : Mid (60 * (A * B)) (30 * (B * B)) (lowF n L w) := by
  have hAB1 : A ≤ A * B := by have := Int.mul_le_mul_of_nonneg_left hB hA; omega
  have hBB1 : B ≤ B * B := by have := Int.mul_le_mul_of_nonneg_left hB (show 0 ≤ B by omega); omega
  exact fore_mid ((hL w hw).mono (by omega) (by omega)) (lines_fit (x0 := L w) (items := acrossL n w) hn hw hA hB hAB hL hL (hL w hw) fun p hp => by have := across_mem.1 hp; omega).1
theorem up_mid {A B : Int} {n w : Nat} {L H : Nat → Frac} (hn : n ≤ 30) (hw : w < n) (hA : 0 ≤ A) (hB : 1 ≤ B) (hAB : 60 * (A * B) * (30 * (B * B)) ≤ 4611686018427387904) (hL : ∀ i, i < n → Mid A B (L i)) (hH : ∀ i, i < n → Mid A B (H i)) : Mid (60 * (A * B)) (30 * (B * B)) (upF n L H w) := by
  have hAB1 : A ≤ A * B := by have := Int.mul_le_mul_of_nonneg_left hB hA; omega
  have hBB1 : B ≤ B * B := by have := Int.mul_le_mul_of_nonneg_left hB (show 0 ≤ B by omega); omega
  exact fore_mid ((hH w hw).mono (by omega) (by omega)) (lines_fit (x0 := H w) (items := towardL n w) hn hw hA hB hAB hL hH (hH w hw) fun p hp => by have := toward_mem.1 hp; omega).1
theorem end_ge (w : Nat) : ∀ (ss : List SampD) (p : Int × Int), p.1 ≤ (ss.foldl (endS w) p).1
  | [], p => Int.le_refl _
  | x :: r, p => by
    have h := end_ge w r (endS w p x)
    have h2 : p.1 ≤ (endS w p x).1 := by
      unfold endS
      split
      · show p.1 ≤ max p.1 _; omega
      · exact Int.le_refl _
    exact Int.le_trans h2 h
/-- What holds of the lows and highs of a valid field. -/
theorem base_ok {m : Nat} {lo hi : Int} {ss : List SampD} (h1 : fieldErr m lo hi ss = 0) : (1 ≤ m ∧ m ≤ 30) ∧ ∀ w, w < m → Whole ((bndN m lo hi ss).1 w) ∧ Whole ((bndN m lo hi ss).2 w) ∧ 0 ≤ ((bndN m lo hi ss).1 w).o := by
  obtain ⟨⟨hn1, hn30⟩, hr, _, hss⟩ := fieldErr_ok h1
  refine ⟨by omega, fun w hw => ?_⟩
  have hW := (List.take_length (l := ss) ▸ bnd_all (n := m) h1 ss.length w hw : _)
  refine ⟨hW.1, hW.2, ?_⟩
  rw [(bnd_end h1 w hw).1]
  have := end_ge w ss (lo, hi)
  show 0 ≤ (endN lo hi ss w).1
  unfold endN
  simp only [] at this
  omega
/-- What holds of the bounds of weeks if there is no clash. -/
theorem vals_ok {m : Nat} {lo hi : Int} {ss : List SampD} (h1 : fieldErr m lo hi ss = 0) (hc : ∀ i j k, i < m → j < m → k < m → hB lo hi ss i j k = false) {w : Nat} (hw : w < m) :
    (0 ≤ (lowF m (bndN m lo hi ss).1 w).o ∧ Mid 3600000 30 (lowF m (bndN m lo hi ss).1 w)) ∧ 0 ≤ (upF m (bndN m lo hi ss).1 (bndN m lo hi ss).2 w).o ∧ Mid 3600000 30 (upF m (bndN m lo hi ss).1 (bndN m lo hi ss).2 w) := by
  obtain ⟨hm, hb⟩ := base_ok h1
  have hL : ∀ i, i < m → Mid 60000 1 ((bndN m lo hi ss).1 i) := fun i hi => (hb i hi).1.mid
  have hH : ∀ i, i < m → Mid 60000 1 ((bndN m lo hi ss).2 i) := fun i hi => (hb i hi).2.1.mid
  have m1 := low_mid (n := m) (w := w) (by omega) hw (by decide) (by decide) (by decide) hL
  have m2 := up_mid (n := m) (w := w) (by omega) hw (by decide) (by decide) (by decide) hL hH
  have hge := up_ge (w := w) (L := (bndN m lo hi ss).1) (H := (bndN m lo hi ss).2) (fun w hw => ⟨(hb w hw).1.1, (hb w hw).2.1.1⟩) hw fun w hw => ⟨by rw [hB_eq h1 w w w hw hw hw]; exact hc w w w hw hw hw, fun i k hi hk hkn => by rw [hB_eq h1 i w k (by omega) hw hkn]; exact hc i w k (by omega) hw hkn⟩
  have hlg := low_ge (w := w) (L := (bndN m lo hi ss).1) (fun w hw => (hL w hw).2.1) hw
  exact ⟨⟨le_nonneg (hb w hw).2.2 (hL w hw).2.1 m1.2.1 hlg, m1⟩, le_nonneg (hb w hw).2.2 (hL w hw).2.1 m2.2.1 hge, m2⟩
def spC (a b : Int) : List Value := [.int .i64 a, .int .i64 b]
def knownRow (m : Nat) (lo hi : Int) (ss : List SampD) (w : Nat) : List Value := spC (flF (lowF m (bndN m lo hi ss).1 w)) (ceF (upF m (bndN m lo hi ss).1 (bndN m lo hi ss).2 w))
/-- What Known answers. -/
def KnownA (n lo hi : Int) (ss : List SampD) (w : Value) (e : Int) (s : St) : Prop :=
  (fieldErr n lo hi ss ≠ 0 ∧ e = fieldErr n lo hi ss ∧ w = .slice none 0 0) ∨
  (fieldErr n lo hi ss = 0 ∧ e = 12 ∧ w = .slice none 0 0 ∧ ∃ i j k, i < n.toNat ∧ j < n.toNat ∧ k < n.toNat ∧ hB lo hi ss i j k = true) ∨
  (fieldErr n lo hi ss = 0 ∧ e = 0 ∧ SlAt 2 s w ((List.range n.toNat).map (knownRow n.toNat lo hi ss)) ∧ ∀ i j k, i < n.toNat → j < n.toNat → k < n.toNat → hB lo hi ss i j k = false)
theorem ov_zero {BC : List Value} (h : BC.length = 121) : overL BC (Value.int .i64 0 :: List.replicate 120 (Value.int .i64 0)) = some BC := overL_len (by rw [h]; rfl)
theorem rowK_put (g : Nat → List Value) (hg : ∀ j, (g j).length = 2) {k m : Nat} (hk : k < m) {v : List Value} (hv : g k = v) (hl : v.length = 2) (z : List Value) (hz : z.length = 2) :
    putL (k * 2) v (flatG (fun j => if j < k then g j else z) m) = some (flatG (fun j => if j < k + 1 then g j else z) m) := by
  rw [flatG_put (N := 2) (fun j => by split; exact hg j; exact hz) hl hk]
  congr 1
  refine flatG_congr fun j hj => ?_
  by_cases e : j = k
  · subst e; rw [if_pos rfl, if_pos (by omega), hv]
  · rw [if_neg e]
    by_cases h : j < k
    · rw [if_pos h, if_pos (by omega)]
    · rw [if_neg h, if_neg (by omega)]
set_option maxRecDepth 100000 in
set_option maxHeartbeats 4000000 in
theorem known_ev (n lo hi : Int) (v : Value) (ss : List SampD) (s : St) (hs : SmAt s v ss) (hl : ss.length ≤ 1000000) : Ev TT 14 [fieldV n lo hi v] s fun r s' => Keep s s' ∧ ∃ w e, r = .tuple #[w, .int .i64 e] ∧ KnownA n lo hi ss w e s' := by
  have hck := possible_ev n lo hi v ss
  obtain ⟨a, c, rfl⟩ := hs.shape
  rw [List.length_map] at hs hck ⊢
  unfold fieldV at hck ⊢
  refine Ev.intro (fn := Try.f14) rfl (by kernel_rfl) rfl rfl ?_
  apply zz
  refine Cd.ra (h := ?_)
  apply Run.by_eq
  · intro self
    conv => lhs; simp -implicitDefEqProofs (maxSteps := 300000) (disch := omega) [-getElem?_pos, -getElem?_neg]
  try (with_reducible refine Run.ret ?_)
  apply zz
  refine Cd.ra (h := ?_)
  apply Run.by_eq
  · intro self
    conv => lhs; simp -implicitDefEqProofs (maxSteps := 300000) (disch := omega) [-getElem?_pos, -getElem?_neg]
  try (with_reducible refine Run.ret ?_)
  apply zz
  refine Run.call ((hck _ (hs.keep ⟨by (try simp only [pushed_next', upded_next']); omega, fun i hi => by simp -implicitDefEqProofs (disch := omega) []⟩) hl).mono fun v wy hv => ?_)
  obtain ⟨y, BC, e, rfl, b2, b3, b4, hP⟩ := hv
  have ya := y.1
  have yb := y.2
  have b1 := takeL_len b2
  try simp only [pushed_next', upded_next'] at ya yb
  have hov := ov_zero b2
  simp only [List.reduceReplicate] at hov
  apply Run.by_eq
  · intro self
    conv => lhs; simp -implicitDefEqProofs (maxSteps := 300000) (disch := omega) [-getElem?_pos, -getElem?_neg, b1, b2, b3, hov]
  try (with_reducible refine Run.ret ?_)
  apply zz
  rcases hP with ⟨h1, rfl⟩ | ⟨h1, rfl, hc⟩ | ⟨h1, rfl, rfl, hc⟩
  · apply zz
    refine Cd.ra (h := ?_)
    apply Run.by_eq
    · intro self
      conv => lhs; simp -implicitDefEqProofs (maxSteps := 300000) (disch := omega) [-getElem?_pos, -getElem?_neg, h1]
    try (with_reducible refine Run.ret ?_)
    apply zz
    apply Cd.ite rfl
    · conv => lhs; simp -implicitDefEqProofs (maxSteps := 300000) (disch := omega) [-getElem?_pos, -getElem?_neg]
    all_goals intro c0
    all_goals try (cases c0; done)
    all_goals try simp only [Bool.not_eq_true', Bool.not_eq_false', decide_eq_true_eq, decide_eq_false_iff_not] at c0
    all_goals apply zz
    apply zz
    refine Cd.ra (h := ?_)
    apply Run.by_eq
    · intro self
      conv => lhs; simp -implicitDefEqProofs (maxSteps := 300000) (disch := omega) [-getElem?_pos, -getElem?_neg]
    try (with_reducible refine Run.ret ?_)
    apply zz
    apply Leave.mk (by first | exact .inl rfl | exact .inr rfl) (by simp only [Fr.marks_put, fr0_marks])
    · conv => lhs; simp -implicitDefEqProofs (disch := omega) [Try.results14]
    exact ⟨⟨by (try simp only [pushed_next', upded_next']); omega, fun i hi => by simp -implicitDefEqProofs (disch := omega) [yb]⟩, _, _, rfl, .inl ⟨h1, rfl, rfl⟩⟩
  · apply zz
    refine Cd.ra (h := ?_)
    apply Run.by_eq
    · intro self
      conv => lhs; simp -implicitDefEqProofs (maxSteps := 300000) (disch := omega) [-getElem?_pos, -getElem?_neg]
    try (with_reducible refine Run.ret ?_)
    apply zz
    apply Cd.ite rfl
    · conv => lhs; simp -implicitDefEqProofs (maxSteps := 300000) (disch := omega) [-getElem?_pos, -getElem?_neg]
    all_goals intro c0
    all_goals try (cases c0; done)
    all_goals try simp only [Bool.not_eq_true', Bool.not_eq_false', decide_eq_true_eq, decide_eq_false_iff_not] at c0
    all_goals apply zz
    apply zz
    refine Cd.ra (h := ?_)
    apply Run.by_eq
    · intro self
      conv => lhs; simp -implicitDefEqProofs (maxSteps := 300000) (disch := omega) [-getElem?_pos, -getElem?_neg]
    try (with_reducible refine Run.ret ?_)
    apply zz
    apply Leave.mk (by first | exact .inl rfl | exact .inr rfl) (by simp only [Fr.marks_put, fr0_marks])
    · conv => lhs; simp -implicitDefEqProofs (disch := omega) [Try.results14]
    exact ⟨⟨by (try simp only [pushed_next', upded_next']); omega, fun i hi => by simp -implicitDefEqProofs (disch := omega) [yb]⟩, _, _, rfl, .inr (.inl ⟨h1, rfl, rfl, hc⟩)⟩
  obtain ⟨m, rfl⟩ : ∃ m : Nat, n = m := ⟨n.toNat, by have := (fieldErr_ok h1).1; omega⟩
  simp only [Int.toNat_natCast] at hc b1 b2 b3 b4 ⊢
  obtain ⟨hm, hb⟩ := base_ok h1
  have hv := fun w hw => vals_ok h1 hc (w := w) hw
  have hle := fun w s hw => least_ev 60000 1 _ m (bndN m lo hi ss).1 (bndN m lo hi ss).2 w s (bOk m _ _) (by omega) hw (by decide) (by decide) (by decide) (by decide) (by decide) fun i hi => (hb i hi).1.mid
  have hmo := fun w s hw => most_ev 60000 1 _ m (bndN m lo hi ss).1 (bndN m lo hi ss).2 w s (bOk m _ _) (by omega) hw (by decide) (by decide) (by decide) (by decide) (by decide) (fun i hi => (hb i hi).1.mid) fun i hi => (hb i hi).2.1.mid
  have hrow : ∀ w, knownRow m lo hi ss w = [.int .i64 (flF (lowF m (bndN m lo hi ss).1 w)), .int .i64 (ceF (upF m (bndN m lo hi ss).1 (bndN m lo hi ss).2 w))] := fun w => rfl
  have hwk := (bOk m (bndN m lo hi ss).1 (bndN m lo hi ss).2).wk
  generalize bcells m (bndN m lo hi ss).1 (bndN m lo hi ss).2 = BC at *
  apply zz
  refine Cd.ra (h := ?_)
  apply Run.by_eq
  · intro self
    conv => lhs; simp -implicitDefEqProofs (maxSteps := 300000) (disch := omega) [-getElem?_pos, -getElem?_neg]
  try (with_reducible refine Run.ret ?_)
  apply zz
  apply Cd.ite rfl
  · conv => lhs; simp -implicitDefEqProofs (maxSteps := 300000) (disch := omega) [-getElem?_pos, -getElem?_neg]
  all_goals intro c0
  all_goals try (cases c0; done)
  all_goals try simp only [Bool.not_eq_true', Bool.not_eq_false', decide_eq_true_eq, decide_eq_false_iff_not] at c0
  all_goals apply zz
  have hmk : (m ≤ 65536) := by omega
  apply zz
  refine Cd.ra (h := ?_)
  apply Run.by_eq
  · intro self
    conv => lhs; simp -implicitDefEqProofs (maxSteps := 300000) (disch := omega) [-getElem?_pos, -getElem?_neg, hwk, hmk]
  try (with_reducible refine Run.ret ?_)
  apply zz
  refine Cd.ra (h := ?_)
  apply Run.by_eq
  · intro self
    conv => lhs; simp -implicitDefEqProofs (maxSteps := 300000) (disch := omega) [-getElem?_pos, -getElem?_neg]
  try (with_reducible refine Run.ret ?_)
  apply zz
  have hz0 : flatG (fun j => if j < 0 then knownRow m lo hi ss j else [.int .i64 0, .int .i64 0]) m = repeatL [.int .i64 0, .int .i64 0] m := by
    rw [← flatG_same]; exact flatG_congr fun j _ => if_neg (by omega)
  refine Cd.inv (fun z f s' => ∃ k : Nat, k ≤ m ∧ z = m - k ∧ f.marks = [] ∧ f.get 4 = .pointer (some ⟨wy.next, 0, none⟩) ∧ f.get 6 = .slice (some ⟨wy.next + 1, 0, none⟩) m m ∧ f.get 20 = .int .i64 m ∧ f.get 21 = .int .i64 k ∧ Keep s s' ∧ wy.next + 1 < s'.next ∧ s'.heap.get wy.next = some (.cells BC none) ∧ s'.heap.get (wy.next + 1) = some (.cells (flatG (fun j => if j < k then knownRow m lo hi ss j else [.int .i64 0, .int .i64 0]) m) none)) m ?_ ?_
  · refine ⟨0, by omega, rfl, by simp, by simp, by simp, by simp, by simp, ⟨by (try simp only [pushed_next', upded_next']); omega, fun i hi => by simp -implicitDefEqProofs (disch := omega) [yb]⟩, by simp, ?_, ?_⟩
    · simp -implicitDefEqProofs (disch := omega)
    · rw [hz0]; simp -implicitDefEqProofs (disch := omega)
  rintro z f s1 ⟨k, hk, rfl, hmk2, g4, g6, g20, g21, hkp, hnx, hg0, hg1⟩
  have hkpa := hkp.1
  have hkpb := hkp.2
  by_cases hlt : k < m
  · have hlt' : (k : Int) < m := by omega
    obtain ⟨⟨v1, v2⟩, v3, v4⟩ := hv k hlt
    have hput := rowK_put (knownRow m lo hi ss) (fun j => rfl) hlt (hrow k) rfl [.int .i64 0, .int .i64 0] rfl
    apply zz
    refine Cd.ra (h := ?_)
    apply Run.by_eq
    · intro self
      conv => lhs; simp -implicitDefEqProofs (maxSteps := 300000) (disch := omega) [-getElem?_pos, -getElem?_neg, g21, g20, hlt']
    try (with_reducible refine Run.ret ?_)
    apply zz
    apply Cd.ite rfl
    · conv => lhs; simp -implicitDefEqProofs (maxSteps := 300000) (disch := omega) [-getElem?_pos, -getElem?_neg]
    all_goals intro c0
    all_goals try (cases c0; done)
    all_goals try simp only [Bool.not_eq_true', Bool.not_eq_false', decide_eq_true_eq, decide_eq_false_iff_not] at c0
    all_goals apply zz
    apply zz
    refine Cd.ra (h := ?_)
    apply Run.by_eq
    · intro self
      conv => lhs; simp -implicitDefEqProofs (maxSteps := 300000) (disch := omega) [-getElem?_pos, -getElem?_neg, g21]
    try (with_reducible refine Run.ret ?_)
    apply zz
    refine Cd.drawn (pl := [(0, 0, false, false), (1, 0, false, false), (2, 0, false, false), (3, 0, false, false), (6, 0, false, false), (7, 0, false, false), (4, 12, true, false), (5, 28, true, false), (8, 252, true, false), (9, 508, true, false), (10, 1020, false, false), (11, 2047, false, false), (12, 4095, true, false)]) (by kernel_rfl) (by conv => lhs; simp only [List.map_cons, List.map_nil]) (by conv => lhs; simp [strip, ordered]) ?_
    apply Run.by_eq
    · intro self
      conv => lhs; simp -implicitDefEqProofs (maxSteps := 300000) (disch := omega) [filter_bt, (show Nat.testBit 12 0 = false from rfl), (show Nat.testBit 12 1 = false from rfl), (show Nat.testBit 12 2 = true from rfl), (show Nat.testBit 12 3 = true from rfl), (show Nat.testBit 12 6 = false from rfl), (show Nat.testBit 12 7 = false from rfl), (show Nat.testBit 28 0 = false from rfl), (show Nat.testBit 28 1 = false from rfl), (show Nat.testBit 28 2 = true from rfl), (show Nat.testBit 28 3 = true from rfl), (show Nat.testBit 28 6 = false from rfl), (show Nat.testBit 28 7 = false from rfl), (show Nat.testBit 252 0 = false from rfl), (show Nat.testBit 252 1 = false from rfl), (show Nat.testBit 252 2 = true from rfl), (show Nat.testBit 252 3 = true from rfl), (show Nat.testBit 252 6 = true from rfl), (show Nat.testBit 252 7 = true from rfl), (show Nat.testBit 508 0 = false from rfl), (show Nat.testBit 508 1 = false from rfl), (show Nat.testBit 508 2 = true from rfl), (show Nat.testBit 508 3 = true from rfl), (show Nat.testBit 508 6 = true from rfl), (show Nat.testBit 508 7 = true from rfl), (show ∀ i, Nat.testBit 4095 i = decide (i < 12) from fun i => Nat.testBit_two_pow_sub_one 12 i), -getElem?_pos, -getElem?_neg, g4, g6, hg0, b1, b4]
    try (with_reducible refine Run.ret ?_)
    apply zz
    refine Run.call ((hle k _ hlt).mono fun v wp hv => ?_)
    obtain ⟨rfl, p⟩ := hv
    have pa := p.1
    have pb := p.2
    try simp only [pushed_next', upded_next'] at pa pb
    have p0 := (pb _ (by omega)).trans hg0
    have p1 := (pb _ (by omega)).trans hg1
    apply Run.by_eq
    · intro self
      conv => lhs; simp -implicitDefEqProofs (maxSteps := 300000) (disch := omega) [-getElem?_pos, -getElem?_neg, g4, g6, p0, b1, b4]
    try (with_reducible refine Run.ret ?_)
    apply zz
    unfold Mid at v2 v4
    refine Run.call ((down_ev _ _ v1 v2.2.1 (by omega)).mono fun v wq hv => ?_)
    obtain ⟨rfl, q⟩ := hv
    have qa := q.1
    have qb := q.2
    try simp only [pushed_next', upded_next'] at qa qb
    have q0 := (qb _ (by omega)).trans p0
    have q1 := (qb _ (by omega)).trans p1
    apply Run.by_eq
    · intro self
      conv => lhs; simp -implicitDefEqProofs (maxSteps := 300000) (disch := omega) [-getElem?_pos, -getElem?_neg, g4, g6, q0, b1, b4]
    try (with_reducible refine Run.ret ?_)
    apply zz
    refine Run.call ((hmo k _ hlt).mono fun v wu hv => ?_)
    obtain ⟨rfl, u⟩ := hv
    have ua := u.1
    have ub := u.2
    try simp only [pushed_next', upded_next'] at ua ub
    have u0 := (ub _ (by omega)).trans q0
    have u1 := (ub _ (by omega)).trans q1
    apply Run.by_eq
    · intro self
      conv => lhs; simp -implicitDefEqProofs (maxSteps := 300000) (disch := omega) [-getElem?_pos, -getElem?_neg, g4, g6, u0, b1, b4]
    try (with_reducible refine Run.ret ?_)
    apply zz
    refine Run.call ((up_ev _ _ v3 v4.2.1 (by omega) (by omega)).mono fun v wt hv => ?_)
    obtain ⟨rfl, t⟩ := hv
    have ta := t.1
    have tb := t.2
    try simp only [pushed_next', upded_next'] at ta tb
    have t0 := (tb _ (by omega)).trans u0
    have t1 := (tb _ (by omega)).trans u1
    apply Run.by_eq
    · intro self
      conv => lhs; simp -implicitDefEqProofs (maxSteps := 300000) (disch := omega) [-getElem?_pos, -getElem?_neg, g4, g6, t0, t1, b1, b4, hlt, hlt', hput]
    try (with_reducible refine Run.ret ?_)
    apply zz
    refine Cd.ra (h := ?_)
    apply Run.by_eq
    · intro self
      conv => lhs; simp -implicitDefEqProofs (maxSteps := 300000) (disch := omega) [-getElem?_pos, -getElem?_neg, g21]
    try (with_reducible refine Run.ret ?_)
    apply zz
    refine LoopK.nm (m - (k + 1)) (by omega) ⟨k + 1, by omega, rfl, by simp [hmk2], by simp [g4], by simp [g6], by simp [g20], by simp, ⟨by (try simp only [pushed_next', upded_next']); omega, fun i hi => by simp -implicitDefEqProofs (disch := omega) [tb, ub, qb, pb, hkpb]⟩, by (try simp only [pushed_next', upded_next']); omega, ?_, ?_⟩
    · simp -implicitDefEqProofs (disch := omega) [t0]
    · simp -implicitDefEqProofs (disch := omega)
  · obtain rfl : k = m := by omega
    apply zz
    refine Cd.ra (h := ?_)
    apply Run.by_eq
    · intro self
      conv => lhs; simp -implicitDefEqProofs (maxSteps := 300000) (disch := omega) [-getElem?_pos, -getElem?_neg, g21, g20]
    try (with_reducible refine Run.ret ?_)
    apply zz
    apply Cd.ite rfl
    · conv => lhs; simp -implicitDefEqProofs (maxSteps := 300000) (disch := omega) [-getElem?_pos, -getElem?_neg]
    all_goals intro c0
    all_goals try (cases c0; done)
    all_goals try simp only [Bool.not_eq_true', Bool.not_eq_false', decide_eq_true_eq, decide_eq_false_iff_not] at c0
    all_goals apply zz
    apply zz
    refine Cd.ra (h := ?_)
    apply Run.by_eq
    · intro self
      conv => lhs; simp -implicitDefEqProofs (maxSteps := 300000) (disch := omega) [-getElem?_pos, -getElem?_neg, g6]
    try (with_reducible refine Run.ret ?_)
    apply zz
    apply Leave.mk (by first | exact .inl rfl | exact .inr rfl) (by simp only [Fr.marks_put, fr0_marks, hmk2])
    · conv => lhs; simp -implicitDefEqProofs (disch := omega) [Try.results14, hmk2]
    refine ⟨hkp, _, _, rfl, .inr (.inr ⟨h1, rfl, ?_, by rw [Int.toNat_natCast]; exact hc⟩)⟩
    rw [Int.toNat_natCast]
    have he : flatG (fun j => if j < k then knownRow k lo hi ss j else [.int .i64 0, .int .i64 0]) k = flatG (knownRow k lo hi ss) k := flatG_congr fun j hj => if_pos hj
    rw [he] at hg1
    exact sl_of_flat (N := 2) hnx (fun j => rfl) hg1
end Go.Proofs.Ytnhokodcmeekhaa
namespace Go.Proofs.Ytnhokodcmeekhaa
open Go Kern
/-! The reference's fractions -/
end Go.Proofs.Ytnhokodcmeekhaa
namespace Go.Proofs.Ytnhokodcmeekhaa
open Go Kern
/-! The reference's least and greatest sweetness -/
theorem IntsAt.all {s : St} {a : Option Addr} {m c : Nat} {xs : List Int} (h : IntsAt s (.slice a m c) xs) (hne : xs ≠ []) :
    ∃ b off o cs g, a = some ⟨b, off, none⟩ ∧ b < s.next ∧ s.heap.get b = some o ∧ cellsOf o = some (cs, g) ∧ ∀ (k : Nat) (x : Int), xs[k]? = some x → cs[off + k]? = some (.int .i64 x) := by
  obtain ⟨y, r, rfl⟩ : ∃ y r, xs = y :: r := by cases xs with
    | nil => exact absurd rfl hne
    | cons y r => exact ⟨y, r, rfl⟩
  obtain ⟨b, off, o, cs, g, h1, h2, h3, h4, _⟩ := IntsAt.at h (k := 0) rfl
  refine ⟨b, off, o, cs, g, h1, h2, h3, h4, fun k x hk => ?_⟩
  obtain ⟨b', off', o', cs', g', k1, k2, k3, k4, k5⟩ := IntsAt.at h hk
  subst h1; cases k1
  rw [h3] at k3; cases k3
  rw [h4] at k4; cases k4
  exact k5
def wF (L' : Nat → Int) (i : Nat) : Frac := ⟨L' i, 1⟩
end Go.Proofs.Ytnhokodcmeekhaa
namespace Go.Proofs.Ytnhokodcmeekhaa
open Go Kern
end Go.Proofs.Ytnhokodcmeekhaa
namespace Go.Proofs.Ytnhokodcmeekhaa
open Go Kern
theorem OwnG.keepK {n N : Nat} {s s' : St} {w : Value} {l : List (List Value)} (h : OwnG n N s w l) (k : Keep s s') : OwnG n N s' w l := h.keep k.1 fun i _ hi => k.2 i hi
end Go.Proofs.Ytnhokodcmeekhaa
namespace Go.Proofs.Ytnhokodcmeekhaa
open Go Kern
/-! Comparing spans, and lists -/
theorem unA23 : ∃ f0 f1 : Field, Try.prog.underlying 23 = some (.struct #[f0, f1]) ∧ (f0.type = 3 ∧ f0.offset = 0 ∧ (f0.name != "_") = true) ∧ (f1.type = 3 ∧ f1.offset = 1 ∧ (f1.name != "_") = true) := ⟨_, _, Try.underlying23, ⟨rfl, rfl, by kernel_rfl⟩, rfl, rfl, by kernel_rfl⟩
theorem ceA23 : Try.prog.cellsOf 23 = 2 := by kernel_rfl
theorem unA3 : Try.prog.underlying 3 = some (.int .i64) := by kernel_rfl
theorem ceA3 : Try.prog.cellsOf 3 = 1 := by kernel_rfl
theorem keyLitA3 {d : Nat} {a : Int} (h : (Lit.int .i64 a).wf = true) : Try.prog.keyLits (d + 1) 3 [.int .i64 a] = some [.int .i64 a] := by
  unfold Program.keyLits; rw [unA3]; simp [h]
def In62 (a : Int) : Prop := -4611686018427387904 ≤ a ∧ a ≤ 4611686018427387904
theorem wfA_of {a : Int} (h : In62 a) : (Lit.int .i64 a).wf = true := by
  unfold In62 at h
  simp [Lit.wf, IntKind.min, IntKind.max, IntKind.bits, IntKind.signed]
  omega
theorem keyLits23 {a b : Int} (ha : In62 a) (hb : In62 b) : Try.prog.keyLits 21 23 [.int .i64 a, .int .i64 b] = some [.int .i64 a, .int .i64 b] := by
  obtain ⟨f0, f1, hu, ⟨t0, o0, n0⟩, t1, o1, n1⟩ := unA23
  have k0 := keyLitA3 (d := 19) (wfA_of ha)
  have k1 := keyLitA3 (d := 19) (wfA_of hb)
  unfold Program.keyLits; rw [hu]
  simp only [ceA23, List.length_cons, List.length_nil]
  rw [if_pos (by simp [n0, n1])]
  simp [t0, o0, t1, o1, ceA3, k0, k1]
theorem formed23 (x y : Value) : Value.formed Try.prog 23 (.agg #[x, y]) = true := by
  obtain ⟨f0, f1, hu, _⟩ := unA23
  simp [Value.formed, hu, ceA23]
theorem aggEq23 {a b c d : Int} (ha : In62 a) (hb : In62 b) (hc : In62 c) (hd : In62 d) : aggEq TT 23 #[.int .i64 a, .int .i64 b] #[.int .i64 c, .int .i64 d] = some (decide (a = c ∧ b = d)) := by
  unfold aggEq
  have h1 := keyLits23 ha hb
  have h2 := keyLits23 hc hd
  change gd _ (ob (Try.prog.keyLits 21 23 _) fun la => ob (Try.prog.keyLits 21 23 _) fun lb => some (litsEq la lb)) = _
  rw [h1, h2, show Value.formed TT.prog 23 (.agg #[.int .i64 a, .int .i64 b]) = true from formed23 _ _, show Value.formed TT.prog 23 (.agg #[.int .i64 c, .int .i64 d]) = true from formed23 _ _]
  show gd (_ && true && true) (some (litsEq _ _)) = _
  have : litsEq [.int .i64 a, .int .i64 b] [.int .i64 c, .int .i64 d] = decide (a = c ∧ b = d) := by
    rw [Bool.eq_iff_iff, litsEq_iff, decide_eq_true_eq]
    constructor
    · intro h; simp at h; exact ⟨h.1, h.2⟩
    · rintro ⟨rfl, rfl⟩; rfl
  rw [this]; rfl
theorem flagA23 : (TT.prog.keyTypeAt 20 23 && !TT.prog.eqGuardType TT.prog.depth 23) = true := by kernel_rfl
@[simp] theorem binVal_23ne (f0 f1 : Field) (a b : Array Value) : binVal TT (.struct #[f0, f1]) 23 (TT.prog.keyTypeAt 20 23 && !TT.prog.eqGuardType TT.prog.depth 23) .neq (.agg a) (.agg b) = ob (aggEq TT 23 a b) fun r => some (.bool (!r)) := by
  rw [flagA23]; rfl
def spP (p : Int × Int) : List Value := [.int .i64 p.1, .int .i64 p.2]
abbrev SpAt (s : St) (v : Value) (l : List (Int × Int)) : Prop := SlAt 2 s v (l.map spP)
theorem SpAt.at {s : St} {a : Option Addr} {m c : Nat} {fs : List (Int × Int)} (h : SpAt s (.slice a m c) fs) {k : Nat} {x : Int × Int} (hk : fs[k]? = some x) :
    ∃ b off o cs g, a = some ⟨b, off, none⟩ ∧ b < s.next ∧ s.heap.get b = some o ∧ cellsOf o = some (cs, g) ∧ takeL 2 (cs.drop (off + k * 2)) = some [.int .i64 x.1, .int .i64 x.2] :=
  SlAt.at h (by rw [List.getElem?_map, hk]; rfl)
def SmallP (l : List (Int × Int)) : Prop := ∀ x ∈ l, In62 x.1 ∧ In62 x.2
set_option maxRecDepth 100000 in
set_option maxHeartbeats 4000000 in
theorem spans_ev (v1 v2 : Value) (l1 l2 : List (Int × Int)) (s : St) (h1 : SpAt s v1 l1) (h2 : SpAt s v2 l2) (s1 : SmallP l1) (s2 : SmallP l2) (hl : l1.length ≤ 1000000) (hl2 : l2.length ≤ 1000000) :
    Ev TT 17 [v1, v2] s fun r s' => r = .bool (decide (l1 = l2)) ∧ Keep s s' := by
  obtain ⟨a, c, rfl⟩ := h1.shape
  obtain ⟨a2, c2, rfl⟩ := h2.shape
  rw [List.length_map] at h1 h2 ⊢
  rw [List.length_map]
  have e1 := slAt_veq h1 4
  have e2 := slAt_veq h2 4
  refine Ev.intro (fn := Try.f17) rfl (by kernel_rfl) rfl rfl ?_
  apply zz
  refine Cd.ra (h := ?_)
  apply Run.by_eq
  · intro self
    conv => lhs; simp -implicitDefEqProofs (maxSteps := 300000) (disch := omega) [-getElem?_pos, -getElem?_neg]
  try (with_reducible refine Run.ret ?_)
  apply zz
  by_cases hne : l1.length = l2.length
  case neg =>
    have hne' : ¬ (l1.length : Int) = l2.length := by omega
    have hd : decide (l1 = l2) = false := by simp; intro e; exact hne (by rw [e])
    rw [hd]
    apply zz
    refine Cd.ra (h := ?_)
    apply Run.by_eq
    · intro self
      conv => lhs; simp -implicitDefEqProofs (maxSteps := 300000) (disch := omega) [-getElem?_pos, -getElem?_neg, hne']
    try (with_reducible refine Run.ret ?_)
    apply zz
    apply Cd.ite rfl
    · conv => lhs; simp -implicitDefEqProofs (maxSteps := 300000) (disch := omega) [-getElem?_pos, -getElem?_neg]
    all_goals intro c0
    all_goals try (cases c0; done)
    all_goals try simp only [Bool.not_eq_true', Bool.not_eq_false', decide_eq_true_eq, decide_eq_false_iff_not] at c0
    all_goals apply zz
    apply zz
    refine Cd.ra (h := ?_)
    apply Run.by_eq
    · intro self
      conv => lhs; simp -implicitDefEqProofs (maxSteps := 300000) (disch := omega) [-getElem?_pos, -getElem?_neg]
    try (with_reducible refine Run.ret ?_)
    apply zz
    apply Leave.mk (by first | exact .inl rfl | exact .inr rfl) (by simp only [Fr.marks_put, fr0_marks])
    · conv => lhs; simp -implicitDefEqProofs (disch := omega) [Try.results17]
    exact ⟨rfl, ⟨by (try simp only [pushed_next', upded_next']); omega, fun i hi => by simp -implicitDefEqProofs (disch := omega) []⟩⟩
  have hne' : (l1.length : Int) = l2.length := by omega
  apply zz
  refine Cd.ra (h := ?_)
  apply Run.by_eq
  · intro self
    conv => lhs; simp -implicitDefEqProofs (maxSteps := 300000) (disch := omega) [-getElem?_pos, -getElem?_neg, hne']
  try (with_reducible refine Run.ret ?_)
  apply zz
  apply Cd.ite rfl
  · conv => lhs; simp -implicitDefEqProofs (maxSteps := 300000) (disch := omega) [-getElem?_pos, -getElem?_neg]
  all_goals intro c0
  all_goals try (cases c0; done)
  all_goals try simp only [Bool.not_eq_true', Bool.not_eq_false', decide_eq_true_eq, decide_eq_false_iff_not] at c0
  all_goals apply zz
  apply zz
  refine Cd.ra (h := ?_)
  apply Run.by_eq
  · intro self
    conv => lhs; simp -implicitDefEqProofs (maxSteps := 300000) (disch := omega) [-getElem?_pos, -getElem?_neg]
  try (with_reducible refine Run.ret ?_)
  apply zz
  refine Cd.inv (fun z f s' => ∃ k : Nat, k ≤ l1.length ∧ z = l1.length - k ∧ f.marks = [] ∧ f.get 0 = .slice a l1.length c ∧ f.get 1 = .slice a2 l2.length c2 ∧ f.get 5 = .int .i64 k ∧ Keep s s' ∧ l1.take k = l2.take k) l1.length ?_ ?_
  · exact ⟨0, by omega, rfl, by simp, by simp, by simp, by simp, ⟨by (try simp only [pushed_next', upded_next']); omega, fun i hi => by simp -implicitDefEqProofs (disch := omega) []⟩, by simp⟩
  rintro z f s' ⟨k, hk, rfl, hm, g0, g1, g5, hkp, hz⟩
  by_cases hlt : k < l1.length
  · have hlt2 : k < l2.length := by omega
    have hlt' : (k : Int) < l1.length := by omega
    obtain ⟨x, hx⟩ : ∃ x, l1[k]? = some x := ⟨l1[k], by simp [hlt]⟩
    obtain ⟨y, hy⟩ : ∃ y, l2[k]? = some y := ⟨l2[k], by simp [hlt2]⟩
    obtain ⟨b, off, o, cs, gg, rfl, hb, ho, hc, ht⟩ := SpAt.at (h1.keep hkp) hx
    obtain ⟨b', off', o', cs', gg', rfl, hb', ho', hc', ht'⟩ := SpAt.at (h2.keep hkp) hy
    have q1 := s1 x (List.mem_of_getElem? hx)
    have q2 := s2 y (List.mem_of_getElem? hy)
    have hEq := aggEq23 q1.1 q1.2 q2.1 q2.2
    apply zz
    refine Cd.ra (h := ?_)
    apply Run.by_eq
    · intro self
      conv => lhs; simp -implicitDefEqProofs (maxSteps := 300000) (disch := omega) [-getElem?_pos, -getElem?_neg, g5, g0, hlt']
    try (with_reducible refine Run.ret ?_)
    apply zz
    apply Cd.ite rfl
    · conv => lhs; simp -implicitDefEqProofs (maxSteps := 300000) (disch := omega) [-getElem?_pos, -getElem?_neg]
    all_goals intro c1
    all_goals try (cases c1; done)
    all_goals try simp only [Bool.not_eq_true', Bool.not_eq_false', decide_eq_true_eq, decide_eq_false_iff_not] at c1
    all_goals apply zz
    by_cases hxy : x = y
    · have hd : decide (x.1 = y.1 ∧ x.2 = y.2) = true := by simp [hxy]
      rw [hd] at hEq
      apply zz
      refine Cd.drawn (pl := [(0, 0, false, false), (1, 0, false, false), (2, 3, false, false), (3, 7, false, false), (4, 0, false, false), (5, 0, false, false), (6, 48, false, false), (7, 112, false, false), (8, 255, false, false)]) (by kernel_rfl) (by conv => lhs; simp only [List.map_cons, List.map_nil]) (by conv => lhs; simp [strip, ordered]) ?_
      apply Run.by_eq
      · intro self
        conv => lhs; simp -implicitDefEqProofs (maxSteps := 300000) (disch := omega) [filter_bt, -getElem?_pos, -getElem?_neg, g0, g1, g5, hlt, hlt2, ho, hc, ht, ho', hc', ht', hEq, e1, e2]
      try (with_reducible refine Run.ret ?_)
      apply zz
      apply Cd.ite rfl
      · conv => lhs; simp -implicitDefEqProofs (maxSteps := 300000) (disch := omega) [-getElem?_pos, -getElem?_neg]
      all_goals intro c2
      all_goals try (cases c2; done)
      all_goals try simp only [Bool.not_eq_true', Bool.not_eq_false', decide_eq_true_eq, decide_eq_false_iff_not] at c2
      all_goals apply zz
      apply zz
      refine Cd.ra (h := ?_)
      apply Run.by_eq
      · intro self
        conv => lhs; simp -implicitDefEqProofs (maxSteps := 300000) (disch := omega) [-getElem?_pos, -getElem?_neg, g5]
      try (with_reducible refine Run.ret ?_)
      apply zz
      refine LoopK.nm (l1.length - (k + 1)) (by omega) ⟨k + 1, by omega, rfl, by simp [hm], by simp [g0], by simp [g1], by simp, hkp, ?_⟩
      rw [List.take_add_one, List.take_add_one, hx, hy, hz, hxy]
    · have hd : decide (x.1 = y.1 ∧ x.2 = y.2) = false := by
        simp only [decide_eq_false_iff_not]; rintro ⟨p1, p2⟩; exact hxy (Prod.ext p1 p2)
      have hd2 : decide (l1 = l2) = false := by
        simp only [decide_eq_false_iff_not]; rintro rfl; rw [hx] at hy; cases hy; exact hxy rfl
      rw [hd] at hEq
      rw [hd2]
      apply zz
      refine Cd.drawn (pl := [(0, 0, false, false), (1, 0, false, false), (2, 3, false, false), (3, 7, false, false), (4, 0, false, false), (5, 0, false, false), (6, 48, false, false), (7, 112, false, false), (8, 255, false, false)]) (by kernel_rfl) (by conv => lhs; simp only [List.map_cons, List.map_nil]) (by conv => lhs; simp [strip, ordered]) ?_
      apply Run.by_eq
      · intro self
        conv => lhs; simp -implicitDefEqProofs (maxSteps := 300000) (disch := omega) [filter_bt, -getElem?_pos, -getElem?_neg, g0, g1, g5, hlt, hlt2, ho, hc, ht, ho', hc', ht', hEq, e1, e2]
      try (with_reducible refine Run.ret ?_)
      apply zz
      apply Cd.ite rfl
      · conv => lhs; simp -implicitDefEqProofs (maxSteps := 300000) (disch := omega) [-getElem?_pos, -getElem?_neg]
      all_goals intro c2
      all_goals try (cases c2; done)
      all_goals try simp only [Bool.not_eq_true', Bool.not_eq_false', decide_eq_true_eq, decide_eq_false_iff_not] at c2
      all_goals apply zz
      apply zz
      refine Cd.ra (h := ?_)
      apply Run.by_eq
      · intro self
        conv => lhs; simp -implicitDefEqProofs (maxSteps := 300000) (disch := omega) [-getElem?_pos, -getElem?_neg]
      try (with_reducible refine Run.ret ?_)
      apply zz
      apply Leave.mk (by first | exact .inl rfl | exact .inr rfl) (by simp only [Fr.marks_put, fr0_marks, hm])
      · conv => lhs; simp -implicitDefEqProofs (disch := omega) [Try.results17, hm]
      exact ⟨rfl, hkp⟩
  · obtain rfl : k = l1.length := by omega
    have hd : decide (l1 = l2) = true := by
      rw [List.take_length, hne, List.take_length] at hz; simp [hz]
    rw [hd]
    apply zz
    refine Cd.ra (h := ?_)
    apply Run.by_eq
    · intro self
      conv => lhs; simp -implicitDefEqProofs (maxSteps := 300000) (disch := omega) [-getElem?_pos, -getElem?_neg, g5, g0]
    try (with_reducible refine Run.ret ?_)
    apply zz
    apply Cd.ite rfl
    · conv => lhs; simp -implicitDefEqProofs (maxSteps := 300000) (disch := omega) [-getElem?_pos, -getElem?_neg]
    all_goals intro c1
    all_goals try (cases c1; done)
    all_goals try simp only [Bool.not_eq_true', Bool.not_eq_false', decide_eq_true_eq, decide_eq_false_iff_not] at c1
    all_goals apply zz
    apply zz
    refine Cd.ra (h := ?_)
    apply Run.by_eq
    · intro self
      conv => lhs; simp -implicitDefEqProofs (maxSteps := 300000) (disch := omega) [-getElem?_pos, -getElem?_neg]
    try (with_reducible refine Run.ret ?_)
    apply zz
    apply Leave.mk (by first | exact .inl rfl | exact .inr rfl) (by simp only [Fr.marks_put, fr0_marks, hm])
    · conv => lhs; simp -implicitDefEqProofs (disch := omega) [Try.results17, hm]
    exact ⟨rfl, hkp⟩
end Go.Proofs.Ytnhokodcmeekhaa
namespace Go.Proofs.Ytnhokodcmeekhaa
open Go Kern
/-! Lists of weeks -/
def wkL (m : Nat) (p : Nat → Bool) : List Int := ((List.range m).filter p).map fun w : Nat => (w : Int)
theorem wkL_succ (k : Nat) (p : Nat → Bool) : wkL (k + 1) p = if p k = true then wkL k p ++ [(k : Int)] else wkL k p := by
  unfold wkL
  rw [List.range_succ, List.filter_append, List.map_append]
  cases h : p k <;> simp [h]
theorem wkL_len (m : Nat) (p : Nat → Bool) : (wkL m p).length ≤ m := by
  unfold wkL
  rw [List.length_map]
  have := List.length_filter_le p (List.range m)
  simpa using this
theorem wkL_congr {m : Nat} {p q : Nat → Bool} (h : ∀ w, w < m → p w = q w) : wkL m p = wkL m q := by
  unfold wkL
  rw [List.filter_congr fun x hx => h x (by simpa using hx)]
abbrev iC (l : List Int) : List (List Value) := l.map fun x => [Value.int .i64 x]
theorem iC_len (l : List Int) : ∀ y ∈ iC l, y.length = 1 := fun y hy => by obtain ⟨m, _, rfl⟩ := List.mem_map.1 hy; rfl
theorem iC_snoc (l : List Int) (x : Int) : iC (l ++ [x]) = iC l ++ [[.int .i64 x]] := by simp [iC]
set_option maxRecDepth 100000 in
set_option maxHeartbeats 4000000 in
theorem numbers_ev (v1 v2 : Value) (l1 l2 : List Int) (s : St) (h1 : IntsAt s v1 l1) (h2 : IntsAt s v2 l2) (hl : l1.length ≤ 1000000) (hl2 : l2.length ≤ 1000000) :
    Ev TT 28 [v1, v2] s fun r s' => r = .bool (decide (l1 = l2)) ∧ Keep s s' := by
  obtain ⟨a, c, rfl⟩ := h1.shape
  obtain ⟨a2, c2, rfl⟩ := h2.shape
  rw [List.length_map] at h1 h2 ⊢
  rw [List.length_map]
  have e1 := slAt_veq h1 4
  have e2 := slAt_veq h2 4
  refine Ev.intro (fn := Try.f28) rfl (by kernel_rfl) rfl rfl ?_
  apply zz
  refine Cd.ra (h := ?_)
  apply Run.by_eq
  · intro self
    conv => lhs; simp -implicitDefEqProofs (maxSteps := 300000) (disch := omega) [-getElem?_pos, -getElem?_neg]
  try (with_reducible refine Run.ret ?_)
  apply zz
  by_cases hne : l1.length = l2.length
  case neg =>
    have hne' : ¬ (l1.length : Int) = l2.length := by omega
    have hd : decide (l1 = l2) = false := by simp; intro e; exact hne (by rw [e])
    rw [hd]
    apply zz
    refine Cd.ra (h := ?_)
    apply Run.by_eq
    · intro self
      conv => lhs; simp -implicitDefEqProofs (maxSteps := 300000) (disch := omega) [-getElem?_pos, -getElem?_neg, hne']
    try (with_reducible refine Run.ret ?_)
    apply zz
    apply Cd.ite rfl
    · conv => lhs; simp -implicitDefEqProofs (maxSteps := 300000) (disch := omega) [-getElem?_pos, -getElem?_neg]
    all_goals intro c0
    all_goals try (cases c0; done)
    all_goals try simp only [Bool.not_eq_true', Bool.not_eq_false', decide_eq_true_eq, decide_eq_false_iff_not] at c0
    all_goals apply zz
    apply zz
    refine Cd.ra (h := ?_)
    apply Run.by_eq
    · intro self
      conv => lhs; simp -implicitDefEqProofs (maxSteps := 300000) (disch := omega) [-getElem?_pos, -getElem?_neg]
    try (with_reducible refine Run.ret ?_)
    apply zz
    apply Leave.mk (by first | exact .inl rfl | exact .inr rfl) (by simp only [Fr.marks_put, fr0_marks])
    · conv => lhs; simp -implicitDefEqProofs (disch := omega) [Try.results28]
    exact ⟨rfl, ⟨by (try simp only [pushed_next', upded_next']); omega, fun i hi => by simp -implicitDefEqProofs (disch := omega) []⟩⟩
  have hne' : (l1.length : Int) = l2.length := by omega
  apply zz
  refine Cd.ra (h := ?_)
  apply Run.by_eq
  · intro self
    conv => lhs; simp -implicitDefEqProofs (maxSteps := 300000) (disch := omega) [-getElem?_pos, -getElem?_neg, hne']
  try (with_reducible refine Run.ret ?_)
  apply zz
  apply Cd.ite rfl
  · conv => lhs; simp -implicitDefEqProofs (maxSteps := 300000) (disch := omega) [-getElem?_pos, -getElem?_neg]
  all_goals intro c0
  all_goals try (cases c0; done)
  all_goals try simp only [Bool.not_eq_true', Bool.not_eq_false', decide_eq_true_eq, decide_eq_false_iff_not] at c0
  all_goals apply zz
  apply zz
  refine Cd.ra (h := ?_)
  apply Run.by_eq
  · intro self
    conv => lhs; simp -implicitDefEqProofs (maxSteps := 300000) (disch := omega) [-getElem?_pos, -getElem?_neg]
  try (with_reducible refine Run.ret ?_)
  apply zz
  refine Cd.inv (fun z f s' => ∃ k : Nat, k ≤ l1.length ∧ z = l1.length - k ∧ f.marks = [] ∧ f.get 0 = .slice a l1.length c ∧ f.get 1 = .slice a2 l2.length c2 ∧ f.get 5 = .int .i64 k ∧ Keep s s' ∧ l1.take k = l2.take k) l1.length ?_ ?_
  · exact ⟨0, by omega, rfl, by simp, by simp, by simp, by simp, ⟨by (try simp only [pushed_next', upded_next']); omega, fun i hi => by simp -implicitDefEqProofs (disch := omega) []⟩, by simp⟩
  rintro z f s' ⟨k, hk, rfl, hm, g0, g1, g5, hkp, hz⟩
  by_cases hlt : k < l1.length
  · have hlt2 : k < l2.length := by omega
    have hlt' : (k : Int) < l1.length := by omega
    obtain ⟨x, hx⟩ : ∃ x, l1[k]? = some x := ⟨l1[k], by simp [hlt]⟩
    obtain ⟨y, hy⟩ : ∃ y, l2[k]? = some y := ⟨l2[k], by simp [hlt2]⟩
    obtain ⟨b, off, o, cs, gg, rfl, hb, ho, hc, ht⟩ := IntsAt.at (h1.keep hkp) hx
    obtain ⟨b', off', o', cs', gg', rfl, hb', ho', hc', ht'⟩ := IntsAt.at (h2.keep hkp) hy
    apply zz
    refine Cd.ra (h := ?_)
    apply Run.by_eq
    · intro self
      conv => lhs; simp -implicitDefEqProofs (maxSteps := 300000) (disch := omega) [-getElem?_pos, -getElem?_neg, g5, g0, hlt']
    try (with_reducible refine Run.ret ?_)
    apply zz
    apply Cd.ite rfl
    · conv => lhs; simp -implicitDefEqProofs (maxSteps := 300000) (disch := omega) [-getElem?_pos, -getElem?_neg]
    all_goals intro c1
    all_goals try (cases c1; done)
    all_goals try simp only [Bool.not_eq_true', Bool.not_eq_false', decide_eq_true_eq, decide_eq_false_iff_not] at c1
    all_goals apply zz
    by_cases hxy : x = y
    · apply zz
      refine Cd.drawnH (pl := [(0, 0, false, false), (1, 0, false, false), (2, 3, false, false), (3, 7, false, false), (4, 0, false, false), (5, 0, false, false), (6, 48, false, false), (7, 112, false, false), (8, 255, false, false)]) [false, false, false, false, false, false, false, false, false] (by kernel_rfl) (by decide) (by decide) (by conv => lhs; simp only [List.map_cons, List.map_nil]) (by conv => lhs; simp [strip, orderedG, flagH]) ?_
      apply Run.by_eq
      · intro self
        conv => lhs; simp -implicitDefEqProofs (maxSteps := 300000) (disch := omega) [-getElem?_pos, -getElem?_neg, g0, g1, g5, hlt, hlt2, ho, hc, ht, ho', hc', ht', hxy, e1, e2]
      try (with_reducible refine Run.ret ?_)
      apply zz
      apply Cd.ite rfl
      · conv => lhs; simp -implicitDefEqProofs (maxSteps := 300000) (disch := omega) [-getElem?_pos, -getElem?_neg]
      all_goals intro c2
      all_goals try (cases c2; done)
      all_goals try simp only [Bool.not_eq_true', Bool.not_eq_false', decide_eq_true_eq, decide_eq_false_iff_not] at c2
      all_goals apply zz
      apply zz
      refine Cd.ra (h := ?_)
      apply Run.by_eq
      · intro self
        conv => lhs; simp -implicitDefEqProofs (maxSteps := 300000) (disch := omega) [-getElem?_pos, -getElem?_neg, g5]
      try (with_reducible refine Run.ret ?_)
      apply zz
      refine LoopK.nm (l1.length - (k + 1)) (by omega) ⟨k + 1, by omega, rfl, by simp [hm], by simp [g0], by simp [g1], by simp, hkp, ?_⟩
      rw [List.take_add_one, List.take_add_one, hx, hy, hz, hxy]
    · have hd2 : decide (l1 = l2) = false := by
        simp only [decide_eq_false_iff_not]; rintro rfl; rw [hx] at hy; cases hy; exact hxy rfl
      rw [hd2]
      apply zz
      refine Cd.drawnH (pl := [(0, 0, false, false), (1, 0, false, false), (2, 3, false, false), (3, 7, false, false), (4, 0, false, false), (5, 0, false, false), (6, 48, false, false), (7, 112, false, false), (8, 255, false, false)]) [false, false, false, false, false, false, false, false, false] (by kernel_rfl) (by decide) (by decide) (by conv => lhs; simp only [List.map_cons, List.map_nil]) (by conv => lhs; simp [strip, orderedG, flagH]) ?_
      apply Run.by_eq
      · intro self
        conv => lhs; simp -implicitDefEqProofs (maxSteps := 300000) (disch := omega) [-getElem?_pos, -getElem?_neg, g0, g1, g5, hlt, hlt2, ho, hc, ht, ho', hc', ht', hxy, e1, e2]
      try (with_reducible refine Run.ret ?_)
      apply zz
      apply Cd.ite rfl
      · conv => lhs; simp -implicitDefEqProofs (maxSteps := 300000) (disch := omega) [-getElem?_pos, -getElem?_neg]
      all_goals intro c2
      all_goals try (cases c2; done)
      all_goals try simp only [Bool.not_eq_true', Bool.not_eq_false', decide_eq_true_eq, decide_eq_false_iff_not] at c2
      all_goals apply zz
      apply zz
      refine Cd.ra (h := ?_)
      apply Run.by_eq
      · intro self
        conv => lhs; simp -implicitDefEqProofs (maxSteps := 300000) (disch := omega) [-getElem?_pos, -getElem?_neg]
      try (with_reducible refine Run.ret ?_)
      apply zz
      apply Leave.mk (by first | exact .inl rfl | exact .inr rfl) (by simp only [Fr.marks_put, fr0_marks, hm])
      · conv => lhs; simp -implicitDefEqProofs (disch := omega) [Try.results28, hm]
      exact ⟨rfl, hkp⟩
  · obtain rfl : k = l1.length := by omega
    have hd : decide (l1 = l2) = true := by
      rw [List.take_length, hne, List.take_length] at hz; simp [hz]
    rw [hd]
    apply zz
    refine Cd.ra (h := ?_)
    apply Run.by_eq
    · intro self
      conv => lhs; simp -implicitDefEqProofs (maxSteps := 300000) (disch := omega) [-getElem?_pos, -getElem?_neg, g5, g0]
    try (with_reducible refine Run.ret ?_)
    apply zz
    apply Cd.ite rfl
    · conv => lhs; simp -implicitDefEqProofs (maxSteps := 300000) (disch := omega) [-getElem?_pos, -getElem?_neg]
    all_goals intro c1
    all_goals try (cases c1; done)
    all_goals try simp only [Bool.not_eq_true', Bool.not_eq_false', decide_eq_true_eq, decide_eq_false_iff_not] at c1
    all_goals apply zz
    apply zz
    refine Cd.ra (h := ?_)
    apply Run.by_eq
    · intro self
      conv => lhs; simp -implicitDefEqProofs (maxSteps := 300000) (disch := omega) [-getElem?_pos, -getElem?_neg]
    try (with_reducible refine Run.ret ?_)
    apply zz
    apply Leave.mk (by first | exact .inl rfl | exact .inr rfl) (by simp only [Fr.marks_put, fr0_marks, hm])
    · conv => lhs; simp -implicitDefEqProofs (disch := omega) [Try.results28, hm]
    exact ⟨rfl, hkp⟩
/-- The weeks in which a bound is at least some sweetness. -/
def fromB (g : Nat → Frac) (T : Frac) (w : Nat) : Bool := !aboveB T (g w)
theorem same_k (k : Nat) : ∀ l : List Value, (∀ v ∈ l, ∃ x, v = .int .i64 x) → listEq (veq (k + 1)) l l = true
  | [], _ => rfl
  | v :: r, h => by
    obtain ⟨x, rfl⟩ := h v (.head _)
    rw [listEq_cons, veq_int, same_k k r fun w hw => h w (.tail _ hw)]; rfl
theorem bc_same (n : Nat) (L H : Nat → Frac) (k : Nat) : listEq (veq (k + 1)) (bcells n L H) (bcells n L H) = true := same_k k _ fun v hv => by
  unfold bcells at hv
  cases hv with
  | head => exact ⟨_, rfl⟩
  | tail _ hv =>
    rcases List.mem_append.1 hv with hv | hv
    · exact fracs_ints L v hv
    · exact fracs_ints H v hv
theorem veq_fn {gi : FuncId} {BC : List Value} (h : listEq (veq 3) BC BC = true) : veq 5 (.func (.func gi) #[.agg BC.toArray] #[]) (.func (.func gi) #[.agg BC.toArray] #[]) = true := by
  simp [veq, listEq, h]
set_option maxRecDepth 100000 in
set_option maxHeartbeats 4000000 in
theorem weeksFrom_ev (gi : FuncId) (BC : List Value) (n : Nat) (L H : Nat → Frac) (g : Nat → Frac) (T : Frac) (s : St) (hB : BOk BC n L H) (hS3 : listEq (veq 3) BC BC = true) (hn : n ≤ 30) (hg : ∀ w s, w < n → Ev TT gi [.agg BC.toArray, .int .i64 w] s fun r s' => r = (g w).v ∧ Keep s s') (hF : ∀ w, w < n → Fits (g w) T) :
    Ev TT 58 [.agg BC.toArray, .func (.func gi) #[.agg BC.toArray] #[], T.v] s fun r s' => Keep s s' ∧ IntsAt s' r (wkL n (fromB g T)) := by
  have b1 := takeL_len hB.len
  have b2 := hB.len
  have b3 := hB.ones
  have hwk := hB.wk
  have b4 := veq_fn (gi := gi) hS3
  rw [v_eq]
  refine Ev.intro (fn := Try.f58) rfl (by kernel_rfl) rfl rfl ?_
  apply zz
  refine Cd.ra (h := ?_)
  apply Run.by_eq
  · intro self
    conv => lhs; simp -implicitDefEqProofs (maxSteps := 300000) (disch := omega) [-getElem?_pos, -getElem?_neg, b2, b3]
  try (with_reducible refine Run.ret ?_)
  apply zz
  refine Cd.ra (h := ?_)
  apply Run.by_eq
  · intro self
    conv => lhs; simp -implicitDefEqProofs (maxSteps := 300000) (disch := omega) [-getElem?_pos, -getElem?_neg]
  try (with_reducible refine Run.ret ?_)
  apply zz
  refine Cd.ra (h := ?_)
  apply Run.by_eq
  · intro self
    conv => lhs; simp -implicitDefEqProofs (maxSteps := 300000) (disch := omega) [-getElem?_pos, -getElem?_neg, hwk]
  try (with_reducible refine Run.ret ?_)
  apply zz
  refine Cd.inv (fun z f s' => ∃ k : Nat, k ≤ n ∧ z = n - k ∧ f.marks = [] ∧ f.get 1 = .func (.func gi) #[.agg BC.toArray] #[] ∧ f.get 5 = .pointer (some ⟨s.next + 1, 0, none⟩) ∧ f.get 10 = .int .i64 n ∧ f.get 11 = .int .i64 k ∧ Keep s s' ∧ s.next + 1 < s'.next ∧ s'.heap.get (s.next + 1) = some (.cells [.int .i64 T.o, .int .i64 T.u] none) ∧ OwnG 1 (s.next + 1 + 1) s' (f.get 7) (iC (wkL k (fromB g T)))) n ?_ ?_
  · exact ⟨0, by omega, rfl, by simp, by simp, by simp, by simp, by simp, ⟨by (try simp only [pushed_next', upded_next']); omega, fun i hi => by simp -implicitDefEqProofs (disch := omega) []⟩, by simp, by simp -implicitDefEqProofs (disch := omega), .inl ⟨rfl, by simp⟩⟩
  rintro z f s1 ⟨k, hk, rfl, hm, g1, g5, g10, g11, hkp, hnx, hg1, hO⟩
  have hkpa := hkp.1
  have hkpb := hkp.2
  by_cases hlt : k < n
  · have hlt' : (k : Int) < n := by omega
    have hst := wkL_succ k (fromB g T)
    have hfb : fromB g T k = !aboveB T (g k) := rfl
    have hgk := fun s => hg k s hlt
    have hfk := hF k hlt
    rw [hfb] at hst
    generalize g k = X at *
    apply zz
    refine Cd.ra (h := ?_)
    apply Run.by_eq
    · intro self
      conv => lhs; simp -implicitDefEqProofs (maxSteps := 300000) (disch := omega) [-getElem?_pos, -getElem?_neg, g10, g11, hlt']
    try (with_reducible refine Run.ret ?_)
    apply zz
    apply Cd.ite rfl
    · conv => lhs; simp -implicitDefEqProofs (maxSteps := 300000) (disch := omega) [-getElem?_pos, -getElem?_neg]
    all_goals intro c0
    all_goals try (cases c0; done)
    all_goals try simp only [Bool.not_eq_true', Bool.not_eq_false', decide_eq_true_eq, decide_eq_false_iff_not] at c0
    all_goals apply zz
    apply zz
    refine Cd.ra (h := ?_)
    apply Run.by_eq
    · intro self
      conv => lhs; simp -implicitDefEqProofs (maxSteps := 300000) (disch := omega) [-getElem?_pos, -getElem?_neg, g11]
    try (with_reducible refine Run.ret ?_)
    apply zz
    refine Cd.drawn (pl := [(0, 0, false, false), (1, 0, false, false), (3, 0, false, false), (2, 3, true, false), (4, 15, true, false), (5, 31, false, false)]) (by kernel_rfl) (by conv => lhs; simp only [List.map_cons, List.map_nil]) (by conv => lhs; simp [strip, ordered]) ?_
    apply Run.by_eq
    · intro self
      conv => lhs; simp -implicitDefEqProofs (maxSteps := 300000) (disch := omega) [filter_bt, (show ∀ i, Nat.testBit 3 i = decide (i < 2) from fun i => Nat.testBit_two_pow_sub_one 2 i), (show ∀ i, Nat.testBit 15 i = decide (i < 4) from fun i => Nat.testBit_two_pow_sub_one 4 i), -getElem?_pos, -getElem?_neg, g1, g5, hg1, b4]
    try (with_reducible refine Run.ret ?_)
    apply zz
    refine Run.call ((hgk _).mono fun v wp hv => ?_)
    obtain ⟨rfl, p⟩ := hv
    have pa := p.1
    have pb := p.2
    try simp only [pushed_next', upded_next'] at pa pb
    have p1 := (pb _ (by omega)).trans hg1
    apply Run.by_eq
    · intro self
      conv => lhs; simp -implicitDefEqProofs (maxSteps := 300000) (disch := omega) [-getElem?_pos, -getElem?_neg, g1, g5, p1, b4]
    try (with_reducible refine Run.ret ?_)
    apply zz
    rw [← v_eq]
    refine Run.call ((below_ev X T _ hfk).mono fun v wq hv => ?_)
    obtain ⟨rfl, q⟩ := hv
    have qa := q.1
    have qb := q.2
    try simp only [pushed_next', upded_next'] at qa qb
    have q1 := (qb _ (by omega)).trans p1
    have kq : Keep s1 wq := ⟨by omega, fun i hi => (qb i (by omega)).trans (pb i hi)⟩
    cases hab : aboveB T X with
    | true =>
      rw [hab, if_neg (by decide)] at hst
      apply Run.by_eq
      · intro self
        conv => lhs; simp -implicitDefEqProofs (maxSteps := 300000) (disch := omega) [-getElem?_pos, -getElem?_neg, g1, g5, q1, b4]
      try (with_reducible refine Run.ret ?_)
      apply zz
      apply Cd.ite rfl
      · conv => lhs; simp -implicitDefEqProofs (maxSteps := 300000) (disch := omega) [-getElem?_pos, -getElem?_neg]
      all_goals intro c1
      all_goals try (cases c1; done)
      all_goals try simp only [Bool.not_eq_true', Bool.not_eq_false', decide_eq_true_eq, decide_eq_false_iff_not] at c1
      all_goals apply zz
      apply zz
      refine Cd.ra (h := ?_)
      apply Run.by_eq
      · intro self
        conv => lhs; simp -implicitDefEqProofs (maxSteps := 300000) (disch := omega) [-getElem?_pos, -getElem?_neg, g11]
      try (with_reducible refine Run.ret ?_)
      apply zz
      refine LoopK.nm (n - (k + 1)) (by omega) ⟨k + 1, by omega, rfl, by simp [hm], by simp [g1], by simp [g5], by simp [g10], by simp, ⟨by (try simp only [pushed_next', upded_next']); omega, fun i hi => by simp -implicitDefEqProofs (disch := omega) [qb, pb, hkpb]⟩, by omega, q1, ?_⟩
      rw [hst]; simpa using hO.keepK kq
    | false =>
      rw [hab, if_pos (by decide)] at hst
      have kx2 : Keep s1 (wq.pushed (.cells [.int .i64 k] none)) := kq.pushed _
      have hll := wkL_len k (fromB g T)
      have hrl : (iC (wkL k (fromB g T))).length = (wkL k (fromB g T)).length := by simp
      obtain ⟨s4, happ, hn4, hk4, hO4⟩ := app_one (n := 1) (b2 := wq.next) (x := [.int .i64 k]) (g := none) (hO.keepK kx2) (iC_len _) rfl rfl (get_pushed_new _ _) (by (try simp only [pushed_next']); omega) (by omega)
      simp only [pushed_next', hrl] at happ hn4 hO4
      apply Run.by_eq
      · intro self
        conv => lhs; simp -implicitDefEqProofs (maxSteps := 300000) (disch := omega) [-getElem?_pos, -getElem?_neg, g1, g5, q1, b4]
      try (with_reducible refine Run.ret ?_)
      apply zz
      apply Cd.ite rfl
      · conv => lhs; simp -implicitDefEqProofs (maxSteps := 300000) (disch := omega) [-getElem?_pos, -getElem?_neg]
      all_goals intro c1
      all_goals try (cases c1; done)
      all_goals try simp only [Bool.not_eq_true', Bool.not_eq_false', decide_eq_true_eq, decide_eq_false_iff_not] at c1
      all_goals apply zz
      apply zz
      refine Cd.ra (h := ?_)
      apply Run.by_eq
      · intro self
        conv => lhs; simp -implicitDefEqProofs (maxSteps := 300000) (disch := omega) [-getElem?_pos, -getElem?_neg, happ]
      try (with_reducible refine Run.ret ?_)
      apply zz
      refine Cd.ra (h := ?_)
      apply Run.by_eq
      · intro self
        conv => lhs; simp -implicitDefEqProofs (maxSteps := 300000) (disch := omega) [-getElem?_pos, -getElem?_neg, g11]
      try (with_reducible refine Run.ret ?_)
      apply zz
      refine LoopK.nm (n - (k + 1)) (by omega) ⟨k + 1, by omega, rfl, by simp [hm], by simp [g1], by simp [g5], by simp [g10], by simp, ⟨by omega, fun i hi => (hk4 i (by omega)).trans ((kx2.2 i (by omega)).trans (hkpb i hi))⟩, by omega, (hk4 _ (by omega)).trans ((kx2.2 _ (by omega)).trans hg1), ?_⟩
      rw [hst, iC_snoc]; simpa using hO4
  · obtain rfl : k = n := by omega
    have ho1 : oneV (f.get 7) = true := by
      rcases hO with ⟨_, e3⟩ | ⟨_, e3, _⟩ <;> rw [e3] <;> rfl
    apply zz
    refine Cd.ra (h := ?_)
    apply Run.by_eq
    · intro self
      conv => lhs; simp -implicitDefEqProofs (maxSteps := 300000) (disch := omega) [-getElem?_pos, -getElem?_neg, g10, g11]
    try (with_reducible refine Run.ret ?_)
    apply zz
    apply Cd.ite rfl
    · conv => lhs; simp -implicitDefEqProofs (maxSteps := 300000) (disch := omega) [-getElem?_pos, -getElem?_neg]
    all_goals intro c0
    all_goals try (cases c0; done)
    all_goals try simp only [Bool.not_eq_true', Bool.not_eq_false', decide_eq_true_eq, decide_eq_false_iff_not] at c0
    all_goals apply zz
    apply zz
    refine Cd.ra (h := ?_)
    apply Run.by_eq
    · intro self
      conv => lhs; simp -implicitDefEqProofs (maxSteps := 300000) (disch := omega) [-getElem?_pos, -getElem?_neg]
    try (with_reducible refine Run.ret ?_)
    apply zz
    apply Leave.mk (by first | exact .inl rfl | exact .inr rfl) (by simp only [Fr.marks_put, fr0_marks, hm])
    · conv => lhs; simp -implicitDefEqProofs (disch := omega) [Try.results58, hm]
    exact ⟨hkp, hO.sl (iC_len _)⟩
end Go.Proofs.Ytnhokodcmeekhaa
namespace Go.Proofs.Ytnhokodcmeekhaa
open Go Kern
/-! A part of an array as a slice -/
noncomputable def sliceA (len n : Nat) (x : Value) (lo hi : Option Value) (H : Tree AObj) : Option Value :=
  ob (addrOf x) fun p => ob (cellsAt H p.1) fun c => gd c.2.isNone (ob (boundF hi len len) fun h => ob (boundF lo h 0) fun l =>
    gd (Nat.ble l h && Nat.ble h len) (some (.slice (some ⟨p.1, bt (Nat.blt l len) (p.2 + l * n) p.2, none⟩) (h - l) (len - l))))
@[simp] theorem vSliceA_def (len n : Nat) (x : Operand) (lo hi : Option Operand) (ρ : Env) (H : Tree AObj) : vSliceA len n x lo hi ρ H = sliceA len n (ρ x) (lo.map ρ) (hi.map ρ) H := rfl
theorem act_sliceA {T : Tab} {self : Self} {f : Fr} {s : St} (t : TypeId) (x : Operand) (lo hi : Option Operand) {e : TypeId} {n len : Nat} (h1 : T.und t = some (.array len e)) (h2 : T.size e = some n) :
    actO T self (.slice t x lo hi none) f s = pureR (vSliceA len n x lo hi f.eval s.heap) s := by
  show ob (ob (T.und t) _) _ = _
  rw [h1]
  show ob (ob (T.size e) _) _ = _
  rw [h2]; rfl
@[simp] theorem o_slice_91 {self : Self} {f : Fr} {s : St} {x : Operand} {lo hi : Option Operand} : actO TT self (.slice 91 x lo hi none) f s = pureR (vSliceA 30 2 x lo hi f.eval s.heap) s := act_sliceA 91 x lo hi und_91 size_90
theorem sliceA_1 {P m : Nat} (h1 : 1 ≤ m) (h2 : m ≤ 30) (H : Tree AObj) : sliceA 30 2 (.pointer (some ⟨P, 1, none⟩)) (some (.int .i64 1)) (some (.int .i64 (m : Int))) H = ob (H.get P) fun o => ob (cellsOf o) fun c => gd c.2.isNone (some (.slice (some ⟨P, 3, none⟩) (m - 1) 29)) := by
  have e1 : boundF (some (.int .i64 (m : Int))) 30 30 = some m := by
    show (match Nat.ble m 30 with | true => some m | false => none) = _
    rw [Nat.ble_eq_true_of_le h2]
  have e2 : boundF (some (.int .i64 1)) m 0 = some 1 := by
    show (match Nat.ble 1 m with | true => some 1 | false => none) = _
    rw [Nat.ble_eq_true_of_le h1]
  show ob (cellsAt H P) (fun c => gd c.2.isNone (ob (boundF (some (.int .i64 (m : Int))) 30 30) _)) = _
  rw [e1]
  show ob (cellsAt H P) (fun c => gd c.2.isNone (ob (boundF (some (.int .i64 1)) m 0) _)) = _
  rw [e2]
  show ob (ob (H.get P) cellsOf) (fun c => gd c.2.isNone (gd (Nat.ble 1 m && Nat.ble m 30) (some (Value.slice (some ⟨P, 3, none⟩) (m - 1) 29)))) = _
  rw [Nat.ble_eq_true_of_le h1, Nat.ble_eq_true_of_le h2]
  show ob (ob (H.get P) cellsOf) (fun c => gd c.2.isNone (some (Value.slice (some ⟨P, 3, none⟩) (m - 1) 29))) = _
  cases H.get P <;> rfl
/-! Peaks, and ripe weeks -/
/-- An answer: the error of Check, that of a clash, or what is good. -/
def Ans (n lo hi : Int) (ss : List SampD) (e : Int) (bad good : Prop) : Prop :=
  (fieldErr n lo hi ss ≠ 0 ∧ e = fieldErr n lo hi ss ∧ bad) ∨
  (fieldErr n lo hi ss = 0 ∧ e = 12 ∧ bad ∧ ∃ i j k, i < n.toNat ∧ j < n.toNat ∧ k < n.toNat ∧ hB lo hi ss i j k = true) ∨
  (fieldErr n lo hi ss = 0 ∧ e = 0 ∧ good ∧ ∀ i j k, i < n.toNat → j < n.toNat → k < n.toNat → hB lo hi ss i j k = false)
theorem fr_arr {s : St} {P m : Nat} {BC : List Value} {L : Nat → Frac} (hb : P < s.next) (h : s.heap.get P = some (.cells BC none)) (hlos : ∀ w, w < 30 → takeL 2 (BC.drop (1 + w * 2)) = some [.int .i64 (L w).o, .int .i64 (L w).u]) (h1 : 1 ≤ m) (h2 : m ≤ 30) :
    FrAt s (.slice (some ⟨P, 3, none⟩) (m - 1) 29) ((List.range (m - 1)).map fun j => L (j + 1)) := by
  have := SlAt.mk (n := 2) (s := s) (off := 3) (c := 29) (l := ((List.range (m - 1)).map fun j => L (j + 1)).map Frac.cs) hb h rfl (fun i e he => ?_)
  · rw [List.length_map, List.length_map, List.length_range] at this; exact this
  · rw [List.getElem?_map, List.getElem?_map] at he
    by_cases hi : i < m - 1
    · rw [List.getElem?_range hi] at he
      cases he
      have := hlos (i + 1) (by omega)
      rw [show 3 + i * 2 = 1 + (i + 1) * 2 by omega]
      exact this
    · rw [List.getElem?_eq_none (by simp; omega)] at he; cases he
def topF (m : Nat) (L : Nat → Frac) : Frac := foreF aboveB (L 0) ((List.range (m - 1)).map fun j => L (j + 1))
def LF (n lo hi : Int) (ss : List SampD) : Nat → Frac := (bndN n.toNat lo hi ss).1
def HF (n lo hi : Int) (ss : List SampD) : Nat → Frac := (bndN n.toNat lo hi ss).2
def UF (n lo hi : Int) (ss : List SampD) : Nat → Frac := upF n.toNat (LF n lo hi ss) (HF n lo hi ss)
def WF (n lo hi : Int) (ss : List SampD) : Nat → Frac := lowF n.toNat (LF n lo hi ss)
set_option maxRecDepth 100000 in
set_option maxHeartbeats 4000000 in
theorem peaks_ev (n lo hi : Int) (v : Value) (ss : List SampD) (s : St) (hs : SmAt s v ss) (hl : ss.length ≤ 1000000) : Ev TT 24 [fieldV n lo hi v] s fun r s' => Keep s s' ∧ ∃ w e, r = .tuple #[w, .int .i64 e] ∧ Ans n lo hi ss e (w = .slice none 0 0) (IntsAt s' w (wkL n.toNat (fromB (UF n lo hi ss) (topF n.toNat (LF n lo hi ss))))) := by
  have hck := possible_ev n lo hi v ss
  obtain ⟨a, c, rfl⟩ := hs.shape
  rw [List.length_map] at hs hck ⊢
  unfold fieldV at hck ⊢
  refine Ev.intro (fn := Try.f24) rfl (by kernel_rfl) rfl rfl ?_
  apply zz
  refine Cd.ra (h := ?_)
  apply Run.by_eq
  · intro self
    conv => lhs; simp -implicitDefEqProofs (maxSteps := 300000) (disch := omega) [-getElem?_pos, -getElem?_neg]
  try (with_reducible refine Run.ret ?_)
  apply zz
  refine Cd.ra (h := ?_)
  apply Run.by_eq
  · intro self
    conv => lhs; simp -implicitDefEqProofs (maxSteps := 300000) (disch := omega) [-getElem?_pos, -getElem?_neg]
  try (with_reducible refine Run.ret ?_)
  apply zz
  refine Run.call ((hck _ (hs.keep ⟨by (try simp only [pushed_next', upded_next']); omega, fun i hi => by simp -implicitDefEqProofs (disch := omega) []⟩) hl).mono fun v wy hv => ?_)
  obtain ⟨y, BC, e, rfl, b2, b3, b4, hP⟩ := hv
  have ya := y.1
  have yb := y.2
  have b1 := takeL_len b2
  try simp only [pushed_next', upded_next'] at ya yb
  have hov := ov_zero b2
  simp only [List.reduceReplicate] at hov
  apply Run.by_eq
  · intro self
    conv => lhs; simp -implicitDefEqProofs (maxSteps := 300000) (disch := omega) [-getElem?_pos, -getElem?_neg, b1, b2, b3, hov]
  try (with_reducible refine Run.ret ?_)
  apply zz
  rcases hP with ⟨h1, rfl⟩ | ⟨h1, rfl, hc⟩ | ⟨h1, rfl, rfl, hc⟩
  · apply zz
    refine Cd.ra (h := ?_)
    apply Run.by_eq
    · intro self
      conv => lhs; simp -implicitDefEqProofs (maxSteps := 300000) (disch := omega) [-getElem?_pos, -getElem?_neg, h1]
    try (with_reducible refine Run.ret ?_)
    apply zz
    apply Cd.ite rfl
    · conv => lhs; simp -implicitDefEqProofs (maxSteps := 300000) (disch := omega) [-getElem?_pos, -getElem?_neg]
    all_goals intro c0
    all_goals try (cases c0; done)
    all_goals try simp only [Bool.not_eq_true', Bool.not_eq_false', decide_eq_true_eq, decide_eq_false_iff_not] at c0
    all_goals apply zz
    apply zz
    refine Cd.ra (h := ?_)
    apply Run.by_eq
    · intro self
      conv => lhs; simp -implicitDefEqProofs (maxSteps := 300000) (disch := omega) [-getElem?_pos, -getElem?_neg]
    try (with_reducible refine Run.ret ?_)
    apply zz
    apply Leave.mk (by first | exact .inl rfl | exact .inr rfl) (by simp only [Fr.marks_put, fr0_marks])
    · conv => lhs; simp -implicitDefEqProofs (disch := omega) [Try.results24]
    exact ⟨⟨by (try simp only [pushed_next', upded_next']); omega, fun i hi => by simp -implicitDefEqProofs (disch := omega) [yb]⟩, _, _, rfl, .inl ⟨h1, rfl, rfl⟩⟩
  · apply zz
    refine Cd.ra (h := ?_)
    apply Run.by_eq
    · intro self
      conv => lhs; simp -implicitDefEqProofs (maxSteps := 300000) (disch := omega) [-getElem?_pos, -getElem?_neg]
    try (with_reducible refine Run.ret ?_)
    apply zz
    apply Cd.ite rfl
    · conv => lhs; simp -implicitDefEqProofs (maxSteps := 300000) (disch := omega) [-getElem?_pos, -getElem?_neg]
    all_goals intro c0
    all_goals try (cases c0; done)
    all_goals try simp only [Bool.not_eq_true', Bool.not_eq_false', decide_eq_true_eq, decide_eq_false_iff_not] at c0
    all_goals apply zz
    apply zz
    refine Cd.ra (h := ?_)
    apply Run.by_eq
    · intro self
      conv => lhs; simp -implicitDefEqProofs (maxSteps := 300000) (disch := omega) [-getElem?_pos, -getElem?_neg]
    try (with_reducible refine Run.ret ?_)
    apply zz
    apply Leave.mk (by first | exact .inl rfl | exact .inr rfl) (by simp only [Fr.marks_put, fr0_marks])
    · conv => lhs; simp -implicitDefEqProofs (disch := omega) [Try.results24]
    exact ⟨⟨by (try simp only [pushed_next', upded_next']); omega, fun i hi => by simp -implicitDefEqProofs (disch := omega) [yb]⟩, _, _, rfl, .inr (.inl ⟨h1, rfl, rfl, hc⟩)⟩
  obtain ⟨m, rfl⟩ : ∃ m : Nat, n = m := ⟨n.toNat, by have := (fieldErr_ok h1).1; omega⟩
  unfold UF LF HF
  simp only [Int.toNat_natCast] at hc b1 b2 b3 b4 hov ⊢
  obtain ⟨hm, hb⟩ := base_ok h1
  have hv := fun w hw => vals_ok h1 hc (w := w) hw
  have hL : ∀ i, i < m → Mid 60000 1 ((bndN m lo hi ss).1 i) := fun i hi => (hb i hi).1.mid
  have hmo := fun w s hw => most_ev 60000 1 _ m (bndN m lo hi ss).1 (bndN m lo hi ss).2 w s (bOk m _ _) (by omega) hw (by decide) (by decide) (by decide) (by decide) (by decide) hL fun i hi => (hb i hi).2.1.mid
  have hOK := bOk m (bndN m lo hi ss).1 (bndN m lo hi ss).2
  have hwk := hOK.wk
  have hlo : takeL 2 (bcells m (bndN m lo hi ss).1 (bndN m lo hi ss).2).tail = some [.int .i64 ((bndN m lo hi ss).1 0).o, .int .i64 ((bndN m lo hi ss).1 0).u] := by have := hOK.lo 0 (by omega); simpa using this
  have hlos := hOK.lo
  have hS3 := bc_same m (bndN m lo hi ss).1 (bndN m lo hi ss).2 2
  have b5 := veq_fn (gi := 43) hS3
  have hsl := sliceA_1 (m := m) (P := wy.next) (by omega) (by omega)
  generalize bcells m (bndN m lo hi ss).1 (bndN m lo hi ss).2 = BC at *
  have hT : ∀ x ∈ (List.range (m - 1)).map (fun j => (bndN m lo hi ss).1 (j + 1)), Mid 60000 1 x := fun x hx => by
    obtain ⟨j, hj, rfl⟩ := List.mem_map.1 hx
    exact hL _ (by have : j < m - 1 := by simpa using hj
                   omega)
  have hTm : Mid 3600000 30 (topF m (bndN m lo hi ss).1) := (fore_mid (hL 0 (by omega)) hT).mono (by decide) (by decide)
  have htop : topF m (bndN m lo hi ss).1 = foreF aboveB ((bndN m lo hi ss).1 0) ((List.range (m - 1)).map fun j => (bndN m lo hi ss).1 (j + 1)) := rfl
  have hwf := fun s => weeksFrom_ev 43 BC m (bndN m lo hi ss).1 (bndN m lo hi ss).2 (upF m (bndN m lo hi ss).1 (bndN m lo hi ss).2) (topF m (bndN m lo hi ss).1) s hOK hS3 (by omega) hmo fun w hw => (hv w hw).2.2.fits hTm (by decide)
  have hgr := fun v s (h : FrAt s v ((List.range (m - 1)).map fun j => (bndN m lo hi ss).1 (j + 1))) => greatest_ev ((bndN m lo hi ss).1 0) v _ s h (by simp; omega) fun x hx y hy => (hT x hx).fits (by
    rcases hy with rfl | hy
    · exact hL 0 (by omega)
    · exact hT y hy) (by decide)
  rw [← htop] at hgr
  generalize topF m (bndN m lo hi ss).1 = T at *
  apply zz
  refine Cd.ra (h := ?_)
  apply Run.by_eq
  · intro self
    conv => lhs; simp -implicitDefEqProofs (maxSteps := 300000) (disch := omega) [-getElem?_pos, -getElem?_neg]
  try (with_reducible refine Run.ret ?_)
  apply zz
  apply Cd.ite rfl
  · conv => lhs; simp -implicitDefEqProofs (maxSteps := 300000) (disch := omega) [-getElem?_pos, -getElem?_neg]
  all_goals intro c0
  all_goals try (cases c0; done)
  all_goals try simp only [Bool.not_eq_true', Bool.not_eq_false', decide_eq_true_eq, decide_eq_false_iff_not] at c0
  all_goals apply zz
  apply zz
  refine Cd.drawn (pl := [(0, 0, false, false), (1, 0, false, false), (2, 2, false, false), (3, 0, false, false), (4, 8, false, false), (5, 24, false, false), (6, 0, false, false), (7, 0, false, false), (8, 128, false, false), (9, 448, false, false), (10, 1016, true, false), (11, 2047, true, false), (12, 4095, false, false), (13, 8191, false, false)]) (by kernel_rfl) (by conv => lhs; simp only [List.map_cons, List.map_nil]) (by conv => lhs; simp [strip, ordered]) ?_
  apply Run.by_eq
  · intro self
    conv => lhs; simp -implicitDefEqProofs (maxSteps := 300000) (disch := omega) [filter_bt, (show Nat.testBit 1016 0 = false from rfl), (show Nat.testBit 1016 1 = false from rfl), (show Nat.testBit 1016 2 = false from rfl), (show Nat.testBit 1016 3 = true from rfl), (show Nat.testBit 1016 4 = true from rfl), (show Nat.testBit 1016 5 = true from rfl), (show Nat.testBit 1016 6 = true from rfl), (show Nat.testBit 1016 7 = true from rfl), (show Nat.testBit 1016 8 = true from rfl), (show Nat.testBit 1016 9 = true from rfl), (show ∀ i, Nat.testBit 2047 i = decide (i < 11) from fun i => Nat.testBit_two_pow_sub_one 11 i), -getElem?_pos, -getElem?_neg, b1, b4, hwk, hlo, hsl, b5]
  try (with_reducible refine Run.ret ?_)
  apply zz
  refine Run.call ((hgr _ _ (fr_arr (by simp) (by simp -implicitDefEqProofs (disch := omega)) hlos (by omega) (by omega))).mono fun v wz hv => ?_)
  obtain ⟨rfl, z⟩ := hv
  have za := z.1
  have zb := z.2
  try simp only [pushed_next', upded_next'] at za zb
  have z0 : wz.heap.get wy.next = some (.cells BC none) := by rw [zb _ (by omega)]; simp -implicitDefEqProofs (disch := omega)
  apply Run.by_eq
  · intro self
    conv => lhs; simp -implicitDefEqProofs (maxSteps := 300000) (disch := omega) [-getElem?_pos, -getElem?_neg, z0, b1, b4, hwk, hlo, hsl, b5]
  try (with_reducible refine Run.ret ?_)
  apply zz
  refine Run.call ((hwf _).mono fun v wu hv => ?_)
  obtain ⟨u, hu⟩ := hv
  have ua := u.1
  have ub := u.2
  have u0 := (ub _ (by omega)).trans z0
  have hvv : veq 5 v v = true := veq_sl (k := 4) hu
  have ho1 : oneV v = true := by
    obtain ⟨a, c, rfl⟩ := hu.shape; rfl
  apply Run.by_eq
  · intro self
    conv => lhs; simp -implicitDefEqProofs (maxSteps := 300000) (disch := omega) [-getElem?_pos, -getElem?_neg, u0, b1, b4, hwk, hlo, hsl, b5, hvv]
  try (with_reducible refine Run.ret ?_)
  apply zz
  apply Leave.mk (by first | exact .inl rfl | exact .inr rfl) (by simp only [Fr.marks_put, fr0_marks])
  · conv => lhs; simp -implicitDefEqProofs (disch := omega) [Try.results24]
  exact ⟨⟨by (try simp only [pushed_next', upded_next']); omega, fun i hi => by simp -implicitDefEqProofs (disch := omega) [ub, zb, yb]⟩, _, _, rfl, .inr (.inr ⟨h1, rfl, hu, hc⟩)⟩
def limI (least : Int) : Int := min (max least 0) 30001
set_option maxRecDepth 100000 in
set_option maxHeartbeats 4000000 in
theorem ripe_ev (n lo hi least : Int) (v : Value) (ss : List SampD) (s : St) (hs : SmAt s v ss) (hl : ss.length ≤ 1000000) : Ev TT 26 [fieldV n lo hi v, .int .i64 least] s fun r s' => Keep s s' ∧ ∃ w1 w2 e, r = .tuple #[w1, w2, .int .i64 e] ∧ Ans n lo hi ss e (w1 = .slice none 0 0 ∧ w2 = .slice none 0 0) (IntsAt s' w1 (wkL n.toNat (fromB (WF n lo hi ss) ⟨limI least, 1⟩)) ∧ IntsAt s' w2 (wkL n.toNat (fromB (UF n lo hi ss) ⟨limI least, 1⟩))) := by
  have hck := possible_ev n lo hi v ss
  obtain ⟨a, c, rfl⟩ := hs.shape
  rw [List.length_map] at hs hck ⊢
  unfold fieldV at hck ⊢
  refine Ev.intro (fn := Try.f26) rfl (by kernel_rfl) rfl rfl ?_
  apply zz
  refine Cd.ra (h := ?_)
  apply Run.by_eq
  · intro self
    conv => lhs; simp -implicitDefEqProofs (maxSteps := 300000) (disch := omega) [-getElem?_pos, -getElem?_neg]
  try (with_reducible refine Run.ret ?_)
  apply zz
  refine Cd.ra (h := ?_)
  apply Run.by_eq
  · intro self
    conv => lhs; simp -implicitDefEqProofs (maxSteps := 300000) (disch := omega) [-getElem?_pos, -getElem?_neg]
  try (with_reducible refine Run.ret ?_)
  apply zz
  refine Run.call ((hck _ (hs.keep ⟨by (try simp only [pushed_next', upded_next']); omega, fun i hi => by simp -implicitDefEqProofs (disch := omega) []⟩) hl).mono fun v wy hv => ?_)
  obtain ⟨y, BC, e, rfl, b2, b3, b4, hP⟩ := hv
  have ya := y.1
  have yb := y.2
  have b1 := takeL_len b2
  try simp only [pushed_next', upded_next'] at ya yb
  have hov := ov_zero b2
  simp only [List.reduceReplicate] at hov
  apply Run.by_eq
  · intro self
    conv => lhs; simp -implicitDefEqProofs (maxSteps := 300000) (disch := omega) [-getElem?_pos, -getElem?_neg, b1, b2, b3, hov]
  try (with_reducible refine Run.ret ?_)
  apply zz
  rcases hP with ⟨h1, rfl⟩ | ⟨h1, rfl, hc⟩ | ⟨h1, rfl, rfl, hc⟩
  · apply zz
    refine Cd.ra (h := ?_)
    apply Run.by_eq
    · intro self
      conv => lhs; simp -implicitDefEqProofs (maxSteps := 300000) (disch := omega) [-getElem?_pos, -getElem?_neg, h1]
    try (with_reducible refine Run.ret ?_)
    apply zz
    apply Cd.ite rfl
    · conv => lhs; simp -implicitDefEqProofs (maxSteps := 300000) (disch := omega) [-getElem?_pos, -getElem?_neg]
    all_goals intro c0
    all_goals try (cases c0; done)
    all_goals try simp only [Bool.not_eq_true', Bool.not_eq_false', decide_eq_true_eq, decide_eq_false_iff_not] at c0
    all_goals apply zz
    apply zz
    refine Cd.ra (h := ?_)
    apply Run.by_eq
    · intro self
      conv => lhs; simp -implicitDefEqProofs (maxSteps := 300000) (disch := omega) [-getElem?_pos, -getElem?_neg]
    try (with_reducible refine Run.ret ?_)
    apply zz
    apply Leave.mk (by first | exact .inl rfl | exact .inr rfl) (by simp only [Fr.marks_put, fr0_marks])
    · conv => lhs; simp -implicitDefEqProofs (disch := omega) [Try.results26]
    exact ⟨⟨by (try simp only [pushed_next', upded_next']); omega, fun i hi => by simp -implicitDefEqProofs (disch := omega) [yb]⟩, _, _, _, rfl, .inl ⟨h1, rfl, rfl, rfl⟩⟩
  · apply zz
    refine Cd.ra (h := ?_)
    apply Run.by_eq
    · intro self
      conv => lhs; simp -implicitDefEqProofs (maxSteps := 300000) (disch := omega) [-getElem?_pos, -getElem?_neg]
    try (with_reducible refine Run.ret ?_)
    apply zz
    apply Cd.ite rfl
    · conv => lhs; simp -implicitDefEqProofs (maxSteps := 300000) (disch := omega) [-getElem?_pos, -getElem?_neg]
    all_goals intro c0
    all_goals try (cases c0; done)
    all_goals try simp only [Bool.not_eq_true', Bool.not_eq_false', decide_eq_true_eq, decide_eq_false_iff_not] at c0
    all_goals apply zz
    apply zz
    refine Cd.ra (h := ?_)
    apply Run.by_eq
    · intro self
      conv => lhs; simp -implicitDefEqProofs (maxSteps := 300000) (disch := omega) [-getElem?_pos, -getElem?_neg]
    try (with_reducible refine Run.ret ?_)
    apply zz
    apply Leave.mk (by first | exact .inl rfl | exact .inr rfl) (by simp only [Fr.marks_put, fr0_marks])
    · conv => lhs; simp -implicitDefEqProofs (disch := omega) [Try.results26]
    exact ⟨⟨by (try simp only [pushed_next', upded_next']); omega, fun i hi => by simp -implicitDefEqProofs (disch := omega) [yb]⟩, _, _, _, rfl, .inr (.inl ⟨h1, rfl, ⟨rfl, rfl⟩, hc⟩)⟩
  obtain ⟨m, rfl⟩ : ∃ m : Nat, n = m := ⟨n.toNat, by have := (fieldErr_ok h1).1; omega⟩
  unfold UF WF LF HF
  simp only [Int.toNat_natCast] at hc b1 b2 b3 b4 hov ⊢
  obtain ⟨hm, hb⟩ := base_ok h1
  have hv := fun w hw => vals_ok h1 hc (w := w) hw
  have hL : ∀ i, i < m → Mid 60000 1 ((bndN m lo hi ss).1 i) := fun i hi => (hb i hi).1.mid
  have hmo := fun w s hw => most_ev 60000 1 _ m (bndN m lo hi ss).1 (bndN m lo hi ss).2 w s (bOk m _ _) (by omega) hw (by decide) (by decide) (by decide) (by decide) (by decide) hL fun i hi => (hb i hi).2.1.mid
  have hle := fun w s hw => least_ev 60000 1 _ m (bndN m lo hi ss).1 (bndN m lo hi ss).2 w s (bOk m _ _) (by omega) hw (by decide) (by decide) (by decide) (by decide) (by decide) hL
  have hOK := bOk m (bndN m lo hi ss).1 (bndN m lo hi ss).2
  have hwk := hOK.wk
  have hS3 := bc_same m (bndN m lo hi ss).1 (bndN m lo hi ss).2 2
  have b5 := veq_fn (gi := 43) hS3
  have b6 := veq_fn (gi := 41) hS3
  have hlim : 0 ≤ limI least ∧ limI least ≤ 30001 := by unfold limI; omega
  have hmn : min (max least 0) 30001 = limI least := rfl
  generalize limI least = t at *
  generalize bcells m (bndN m lo hi ss).1 (bndN m lo hi ss).2 = BC at *
  have hTm : Mid 3600000 30 (⟨t, 1⟩ : Frac) := by unfold Mid; simp only []; omega
  have hwf := fun s => weeksFrom_ev 43 BC m (bndN m lo hi ss).1 (bndN m lo hi ss).2 (upF m (bndN m lo hi ss).1 (bndN m lo hi ss).2) ⟨t, 1⟩ s hOK hS3 (by omega) hmo fun w hw => (hv w hw).2.2.fits hTm (by decide)
  have hwl := fun s => weeksFrom_ev 41 BC m (bndN m lo hi ss).1 (bndN m lo hi ss).2 (lowF m (bndN m lo hi ss).1) ⟨t, 1⟩ s hOK hS3 (by omega) hle fun w hw => (hv w hw).1.2.fits hTm (by decide)
  rw [v_eq] at hwf hwl
  simp only [] at hwf hwl
  apply zz
  refine Cd.ra (h := ?_)
  apply Run.by_eq
  · intro self
    conv => lhs; simp -implicitDefEqProofs (maxSteps := 300000) (disch := omega) [-getElem?_pos, -getElem?_neg]
  try (with_reducible refine Run.ret ?_)
  apply zz
  apply Cd.ite rfl
  · conv => lhs; simp -implicitDefEqProofs (maxSteps := 300000) (disch := omega) [-getElem?_pos, -getElem?_neg]
  all_goals intro c0
  all_goals try (cases c0; done)
  all_goals try simp only [Bool.not_eq_true', Bool.not_eq_false', decide_eq_true_eq, decide_eq_false_iff_not] at c0
  all_goals apply zz
  apply zz
  refine Cd.ra (h := ?_)
  apply Run.by_eq
  · intro self
    conv => lhs; simp -implicitDefEqProofs (maxSteps := 300000) (disch := omega) [-getElem?_pos, -getElem?_neg, hmn]
  try (with_reducible refine Run.ret ?_)
  apply zz
  refine Run.call ((whole_ev t _).mono fun v wx hv => ?_)
  obtain ⟨rfl, x⟩ := hv
  have xa := x.1
  have xb := x.2
  try simp only [pushed_next', upded_next'] at xa xb
  have x0 : wx.heap.get wy.next = some (.cells BC none) := by rw [xb _ (by omega)]; simp -implicitDefEqProofs (disch := omega)
  apply Run.by_eq
  · intro self
    conv => lhs; simp -implicitDefEqProofs (maxSteps := 300000) (disch := omega) [-getElem?_pos, -getElem?_neg, v_eq]
  try (with_reducible refine Run.ret ?_)
  apply zz
  refine Cd.drawn (pl := [(0, 0, false, false), (1, 0, false, false), (2, 2, false, false), (3, 0, false, false), (5, 0, false, false), (6, 0, false, false), (7, 64, false, false), (8, 0, false, false), (4, 15, true, false), (9, 511, true, false), (10, 1023, false, false), (11, 2047, false, false), (12, 4095, false, false)]) (by kernel_rfl) (by conv => lhs; simp only [List.map_cons, List.map_nil]) (by conv => lhs; simp [strip, ordered]) ?_
  apply Run.by_eq
  · intro self
    conv => lhs; simp -implicitDefEqProofs (maxSteps := 300000) (disch := omega) [filter_bt, (show ∀ i, Nat.testBit 15 i = decide (i < 4) from fun i => Nat.testBit_two_pow_sub_one 4 i), (show ∀ i, Nat.testBit 511 i = decide (i < 9) from fun i => Nat.testBit_two_pow_sub_one 9 i), -getElem?_pos, -getElem?_neg, x0, b1, b4, b5, b6]
  try (with_reducible refine Run.ret ?_)
  apply zz
  refine Run.call ((hwl _).mono fun v wz hv => ?_)
  obtain ⟨z, hz⟩ := hv
  have za := z.1
  have zb := z.2
  try simp only [pushed_next', upded_next'] at za zb
  have z0 : wz.heap.get wy.next = some (.cells BC none) := by rw [zb _ (by omega)]; simp -implicitDefEqProofs (disch := omega) [x0]
  have z1 : wz.heap.get wx.next = some (.cells [.int .i64 t, .int .i64 1] none) := by rw [zb _ (by omega)]; simp -implicitDefEqProofs (disch := omega)
  have hvv : veq 5 v v = true := veq_sl (k := 4) hz
  have ho1 : oneV v = true := by
    obtain ⟨a, c, rfl⟩ := hz.shape; rfl
  apply Run.by_eq
  · intro self
    conv => lhs; simp -implicitDefEqProofs (maxSteps := 300000) (disch := omega) [-getElem?_pos, -getElem?_neg, z0, z1, b1, b4, b5, b6, hvv]
  try (with_reducible refine Run.ret ?_)
  apply zz
  refine Run.call ((hwf _).mono fun v2 wu hv => ?_)
  obtain ⟨u, hu⟩ := hv
  have ua := u.1
  have ub := u.2
  have u0 := (ub _ (by omega)).trans z0
  have u1 := (ub _ (by omega)).trans z1
  have hvv2 : veq 5 v2 v2 = true := veq_sl (k := 4) hu
  have ho2 : oneV v2 = true := by
    obtain ⟨a, c, rfl⟩ := hu.shape; rfl
  apply Run.by_eq
  · intro self
    conv => lhs; simp -implicitDefEqProofs (maxSteps := 300000) (disch := omega) [-getElem?_pos, -getElem?_neg, u0, u1, b1, b4, b5, b6, hvv, hvv2]
  try (with_reducible refine Run.ret ?_)
  apply zz
  apply Leave.mk (by first | exact .inl rfl | exact .inr rfl) (by simp only [Fr.marks_put, fr0_marks])
  · conv => lhs; simp -implicitDefEqProofs (disch := omega) [Try.results26]
  exact ⟨⟨by (try simp only [pushed_next', upded_next']); omega, fun i hi => by simp -implicitDefEqProofs (disch := omega) [ub, zb, xb, yb]⟩, _, _, _, rfl, .inr (.inr ⟨h1, rfl, ⟨hz.keep u, hu⟩, hc⟩)⟩
end Go.Proofs.Ytnhokodcmeekhaa
namespace Go.Proofs.Ytnhokodcmeekhaa
open Go Kern
/-! The reference's peaks and ripe weeks -/
def topI (L' : Nat → Int) (m : Nat) : Int := ((List.range (m - 1)).map fun j => L' (j + 1)).foldl max (L' 0)
/-- The lows, as the reference has them. -/
abbrev LR (lo hi : Int) (ss : List SampD) : Nat → Int := fun w => (endN lo hi ss w).1
abbrev HR (lo hi : Int) (ss : List SampD) : Nat → Int := fun w => (endN lo hi ss w).2
theorem LF_ref {m : Nat} {lo hi : Int} {ss : List SampD} (h1 : fieldErr m lo hi ss = 0) {i : Nat} (h : i < m) : LF m lo hi ss i = wF (LR lo hi ss) i := (bnd_end h1 i h).1
theorem HF_ref {m : Nat} {lo hi : Int} {ss : List SampD} (h1 : fieldErr m lo hi ss = 0) {i : Nat} (h : i < m) : HF m lo hi ss i = wF (HR lo hi ss) i := (bnd_end h1 i h).2
end Go.Proofs.Ytnhokodcmeekhaa
namespace Go.Proofs.Ytnhokodcmeekhaa
open Go Kern
/-! Two lists that grow side by side -/
/-- Rows that are gathered, and the block in which they lie. -/
def OwnB (n N : Nat) (s : St) (w : Value) (l : List (List Value)) (b : Option Nat) : Prop :=
  (b = none ∧ l = [] ∧ w = .slice none 0 0) ∨ ∃ bb, b = some bb ∧ w = .slice (some ⟨bb, 0, none⟩) l.length l.length ∧ l ≠ [] ∧ N ≤ bb ∧ bb < s.next ∧ s.heap.get bb = some (.cells l.flatten (some n))
theorem OwnB.g {n N : Nat} {s : St} {w : Value} {l : List (List Value)} {b : Option Nat} (h : OwnB n N s w l b) : OwnG n N s w l := by
  rcases h with ⟨_, h⟩ | ⟨bb, _, h⟩
  · exact .inl h
  · exact .inr ⟨bb, h⟩
theorem OwnB.keep {n N : Nat} {s s' : St} {w : Value} {l : List (List Value)} {b : Option Nat} (h : OwnB n N s w l b) (h1 : s.next ≤ s'.next) (h2 : ∀ i, i < s.next → b = some i → s'.heap.get i = s.heap.get i) : OwnB n N s' w l b := by
  rcases h with h | ⟨bb, e, k1, k2, k3, k4, k5⟩
  · exact .inl h
  · exact .inr ⟨bb, e, k1, k2, k3, by omega, (h2 bb k4 e).trans k5⟩
theorem OwnB.keepK {n N : Nat} {s s' : St} {w : Value} {l : List (List Value)} {b : Option Nat} (h : OwnB n N s w l b) (k : Keep s s') : OwnB n N s' w l b := h.keep k.1 fun i hi _ => k.2 i hi
theorem OwnB.lt {n N : Nat} {s : St} {w : Value} {l : List (List Value)} {b : Option Nat} (h : OwnB n N s w l b) {i : Nat} (e : b = some i) : N ≤ i ∧ i < s.next := by
  rcases h with ⟨h, _⟩ | ⟨bb, e', _, _, k3, k4, _⟩
  · rw [e] at h; cases h
  · rw [e] at e'; cases e'; exact ⟨k3, k4⟩
theorem app_b {n N b2 : Nat} {s : St} {w : Value} {l : List (List Value)} {x : List Value} {g : Option Nat} {b : Option Nat} (hO : OwnB n N s w l b) (hn : ∀ y ∈ l, y.length = n) (hx : x.length = n) (ho : onesL x = true) (hb2 : s.heap.get b2 = some (.cells x g)) (hN : N ≤ s.next) (hl : l.length ≤ 1000000) :
    ∃ s', appV n w (.slice (some ⟨b2, 0, none⟩) 1 1) s = some (.slice (some ⟨s.next, 0, none⟩) (l.length + 1) (l.length + 1), s') ∧ s'.next = s.next + 1 ∧ (∀ i, i < s.next → b ≠ some i → s'.heap.get i = s.heap.get i) ∧ OwnB n N s' (.slice (some ⟨s.next, 0, none⟩) (l.length + 1) (l.length + 1)) (l ++ [x]) (some s.next) := by
  rcases hO with ⟨rfl, rfl, rfl⟩ | ⟨bb, rfl, rfl, hne, h1, h2, h3⟩
  · refine ⟨_, appV_nil hb2 hx (by rw [onesL_eq]; exact ho), rfl, fun i hi _ => get_pushed_old _ _ _ (by omega), .inr ⟨s.next, rfl, by simp, by simp, hN, Nat.lt_succ_self _, ?_⟩⟩
    rw [get_pushed_new]; simp
  · refine ⟨_, appV_more h3 hb2 hx (by rw [onesL_eq]; exact ho) (flatlen hn) (by omega), rfl, fun i hi hne' => ?_, .inr ⟨s.next, rfl, by simp, by simp, hN, Nat.lt_succ_self _, ?_⟩⟩
    · rw [get_pushed_old _ _ _ (by show i ≠ s.next; omega), get_upded_other _ _ _ _ (fun e => hne' (by rw [e]))]
    · show ((s.upded bb .dead).pushed _).heap.get (s.upded bb .dead).next = _
      rw [get_pushed_new]; simp
end Go.Proofs.Ytnhokodcmeekhaa
namespace Go.Proofs.Ytnhokodcmeekhaa
open Go Kern
/-! Regrets -/
def minusF (x y : Frac) : Frac := ⟨x.o * y.u - y.o * x.u, x.u * y.u⟩
def raisedL (m : Nat) (L H : Nat → Frac) (o : Nat) : Nat → Frac := updF L o (upF m L H o)
def lossF (m : Nat) (L H : Nat → Frac) (w o : Nat) : Frac := minusF (upF m L H o) (lowF m (raisedL m L H o) w)
/-- The regret of a week. -/
def regF (m : Nat) (L H : Nat → Frac) (w : Nat) : Frac := foreF aboveB ⟨0, 1⟩ ((List.range m).map (lossF m L H w))
theorem minus_mid {x y : Frac} (hx : Mid 3600000 30 x) (hy : Mid 6480000000 27000 y) : Mid 291600000000 810000 (minusF x y) := by
  have p1 := mul_bd 3600000 27000 hx.1 (b := y.u) (by have := hy.2; omega)
  have p2 := mul_bd 6480000000 30 hy.1 (b := x.u) (by have := hx.2; omega)
  have p3 := mul_bd 30 27000 (a := x.u) (b := y.u) (by have := hx.2; omega) (by have := hy.2; omega)
  have hp := Int.mul_pos hx.2.1 hy.2.1
  unfold Mid minusF
  simp only []
  omega
set_option maxRecDepth 100000 in
set_option maxHeartbeats 1000000 in
theorem minus_ev (x y : Frac) (s : St) (hx : Mid 3600000 30 x) (hy : Mid 6480000000 27000 y) : Ev TT 82 [x.v, y.v] s fun r s' => r = (minusF x y).v ∧ Keep s s' := by
  have p1 := mul_bd 3600000 27000 hx.1 (b := y.u) (by have := hy.2; omega)
  have p2 := mul_bd 6480000000 30 hy.1 (b := x.u) (by have := hx.2; omega)
  have p3 := mul_bd 30 27000 (a := x.u) (b := y.u) (by have := hx.2; omega) (by have := hy.2; omega)
  unfold minusF Frac.v
  obtain ⟨a, b⟩ := x
  obtain ⟨c, d⟩ := y
  clear hx hy
  simp only [] at p1 p2 p3 ⊢
  generalize hX : a * d = X at *
  generalize hY : c * b = Y at *
  generalize hZ : b * d = Z at *
  refine Ev.intro (fn := Try.f82) rfl (by kernel_rfl) rfl rfl ?_
  apply zz
  refine Cd.ra (h := ?_)
  apply Run.by_eq
  · intro self
    conv => lhs; simp -implicitDefEqProofs (maxSteps := 300000) (disch := omega) [-getElem?_pos, -getElem?_neg]
  try (with_reducible refine Run.ret ?_)
  apply zz
  refine Cd.ra (h := ?_)
  apply Run.by_eq
  · intro self
    conv => lhs; simp -implicitDefEqProofs (maxSteps := 300000) (disch := omega) [-getElem?_pos, -getElem?_neg, hX, hY, hZ]
  try (with_reducible refine Run.ret ?_)
  apply zz
  apply Leave.mk (by first | exact .inl rfl | exact .inr rfl) (by simp only [Fr.marks_put, fr0_marks])
  · conv => lhs; simp -implicitDefEqProofs (disch := omega) [Try.results82]
  exact ⟨rfl, ⟨by (try simp only [pushed_next', upded_next']); omega, fun i hi => by simp -implicitDefEqProofs (disch := omega) []⟩⟩
set_option maxRecDepth 100000 in
set_option maxHeartbeats 4000000 in
theorem raised_ev (n w : Nat) (L H : Nat → Frac) (s : St) (hn : n ≤ 30) (hw : w < n) (hL : ∀ i, i < n → Mid 60000 1 (L i)) (hH : ∀ i, i < n → Mid 60000 1 (H i)) :
    Ev TT 80 [.agg (bcells n L H).toArray, .int .i64 w] s fun r s' => r = .agg (bcells n (raisedL n L H w) H).toArray ∧ Keep s s' := by
  have hmo := fun s => most_ev 60000 1 _ n L H w s (bOk n _ _) hn hw (by decide) (by decide) (by decide) (by decide) (by decide) hL hH
  have hput := put_lo n L H (show w < 30 by omega) (upF n L H w)
  have e : updF L w (upF n L H w) = raisedL n L H w := rfl
  rw [e] at hput
  have hOK := bOk n L H
  have hOK2 := bOk n (raisedL n L H w) H
  have b1 := takeL_len hOK.len
  have b2 := hOK.len
  have b3 := hOK.ones
  have b4 := hOK.same
  have c1 := takeL_len hOK2.len
  have c2 := hOK2.len
  have c3 := hOK2.ones
  have hov := ov_zero c2
  simp only [List.reduceReplicate] at hov
  have hw30 : w < 30 := by omega
  have hw30' : (w : Int) < 30 := by omega
  generalize bcells n L H = BC at *
  generalize bcells n (raisedL n L H w) H = BD at *
  generalize upF n L H w = X at *
  refine Ev.intro (fn := Try.f80) rfl (by kernel_rfl) rfl rfl ?_
  apply zz
  refine Cd.ra (h := ?_)
  apply Run.by_eq
  · intro self
    conv => lhs; simp -implicitDefEqProofs (maxSteps := 300000) (disch := omega) [-getElem?_pos, -getElem?_neg, b2, b3]
  try (with_reducible refine Run.ret ?_)
  apply zz
  refine Cd.ra (h := ?_)
  apply Run.by_eq
  · intro self
    conv => lhs; simp -implicitDefEqProofs (maxSteps := 300000) (disch := omega) [-getElem?_pos, -getElem?_neg, b1, b2, b3]
  try (with_reducible refine Run.ret ?_)
  apply zz
  refine Run.call ((hmo _).mono fun v wy hv => ?_)
  obtain ⟨rfl, y⟩ := hv
  have ya := y.1
  have yb := y.2
  try simp only [pushed_next', upded_next'] at ya yb
  have y0 : wy.heap.get s.next = some (.cells BC none) := by rw [yb _ (by omega)]; simp -implicitDefEqProofs (disch := omega)
  have y1 : wy.heap.get (s.next + 1) = some (.cells (.int .i64 0 :: List.replicate 120 (.int .i64 0)) none) := by rw [yb _ (by omega)]; simp -implicitDefEqProofs (disch := omega)
  apply Run.by_eq
  · intro self
    conv => lhs; simp -implicitDefEqProofs (maxSteps := 300000) (disch := omega) [-getElem?_pos, -getElem?_neg, v_eq, y0, hput, hw30, hw30']
  try (with_reducible refine Run.ret ?_)
  apply zz
  refine Cd.ra (h := ?_)
  apply Run.by_eq
  · intro self
    conv => lhs; simp -implicitDefEqProofs (maxSteps := 300000) (disch := omega) [-getElem?_pos, -getElem?_neg, c1, c2, c3, y1, hov]
  try (with_reducible refine Run.ret ?_)
  apply zz
  apply Leave.mk (by first | exact .inl rfl | exact .inr rfl) (by simp only [Fr.marks_put, fr0_marks, c1, c2, c3])
  · conv => lhs; simp -implicitDefEqProofs (disch := omega) [Try.results80, c1, c2, c3]
  exact ⟨rfl, ⟨by (try simp only [pushed_next', upded_next']); omega, fun i hi => by simp -implicitDefEqProofs (disch := omega) [yb]⟩⟩
@[simp] theorem newObj_135 {f : Fr} {pl0 : Array (Nat × Operand)} : Kern.newObj TT (.buildSlice 135 1 pl0) f = ob (fillL f.eval (placesA 121 pl0.toList) (repeatL zBC 1)) fun c => some (.cells c none) :=
  newObj_buildSlice 135 1 pl0 und_135 size_93 zero_93 rfl
theorem bc_len (n : Nat) (L : Nat → Nat → Frac) (H : Nat → Frac) (k : Nat) : ∀ y ∈ (List.range k).map (fun o => bcells n (L o) H), y.length = 121 := fun y hy => by
  obtain ⟨j, _, rfl⟩ := List.mem_map.1 hy; exact (bOk n (L j) H).len
set_option maxRecDepth 100000 in
set_option maxHeartbeats 4000000 in
theorem regrets_ev (n : Nat) (L H : Nat → Frac) (s : St) (hn : n ≤ 30) (hL : ∀ i, i < n → Mid 60000 1 (L i)) (hH : ∀ i, i < n → Mid 60000 1 (H i)) :
    Ev TT 64 [.agg (bcells n L H).toArray] s fun r s' => Keep s s' ∧ ∃ p v, r = .func (.func 81) #[] #[.pointer (some ⟨p, 0, none⟩)] ∧ s.next ≤ p ∧ p < s'.next ∧ s'.heap.get p = some (.cells [v] none) ∧ SlAt 121 s' v ((List.range n).map fun o => bcells n (raisedL n L H o) H) := by
  have hra := fun w s hw => raised_ev n w L H s hn hw hL hH
  have hOK := bOk n L H
  have b1 := takeL_len hOK.len
  have b2 := hOK.len
  have b3 := hOK.ones
  have b4 := hOK.same
  have hwk := hOK.wk
  generalize hBC : bcells n L H = BC at *
  refine Ev.intro (fn := Try.f64) rfl (by kernel_rfl) rfl rfl ?_
  apply zz
  refine Cd.ra (h := ?_)
  apply Run.by_eq
  · intro self
    conv => lhs; simp -implicitDefEqProofs (maxSteps := 300000) (disch := omega) [-getElem?_pos, -getElem?_neg, b2, b3]
  try (with_reducible refine Run.ret ?_)
  apply zz
  refine Cd.ra (h := ?_)
  apply Run.by_eq
  · intro self
    conv => lhs; simp -implicitDefEqProofs (maxSteps := 300000) (disch := omega) [-getElem?_pos, -getElem?_neg]
  try (with_reducible refine Run.ret ?_)
  apply zz
  refine Cd.ra (h := ?_)
  apply Run.by_eq
  · intro self
    conv => lhs; simp -implicitDefEqProofs (maxSteps := 300000) (disch := omega) [-getElem?_pos, -getElem?_neg, hwk]
  try (with_reducible refine Run.ret ?_)
  apply zz
  refine Cd.inv (fun z f s' => ∃ (k : Nat) (vv : Value), k ≤ n ∧ z = n - k ∧ f.marks = [] ∧ f.get 1 = .pointer (some ⟨s.next, 0, none⟩) ∧ f.get 3 = .pointer (some ⟨s.next + 1, 0, none⟩) ∧ f.get 6 = .int .i64 n ∧ f.get 7 = .int .i64 k ∧ Keep s s' ∧ s.next + 1 < s'.next ∧ s'.heap.get s.next = some (.cells BC none) ∧ s'.heap.get (s.next + 1) = some (.cells [vv] none) ∧ OwnG 121 (s.next + 1 + 1) s' vv ((List.range k).map fun o => bcells n (raisedL n L H o) H)) n ?_ ?_
  · exact ⟨0, .slice none 0 0, by omega, rfl, by simp, by simp, by simp, by simp, by simp, ⟨by (try simp only [pushed_next', upded_next']); omega, fun i hi => by simp -implicitDefEqProofs (disch := omega) []⟩, by simp, by simp -implicitDefEqProofs (disch := omega), by simp -implicitDefEqProofs (disch := omega), .inl ⟨rfl, rfl⟩⟩
  rintro z f s1 ⟨k, vv, hk, rfl, hm, g1, g3, g6, g7, hkp, hnx, hg0, hg1, hO⟩
  have hkpa := hkp.1
  have hkpb := hkp.2
  have hrows := bc_len n (raisedL n L H) H k
  by_cases hlt : k < n
  · have hlt' : (k : Int) < n := by omega
    have hrl : ((List.range k).map fun o => bcells n (raisedL n L H o) H).length = k := by simp
    have hrn : (List.range (k + 1)).map (fun o => bcells n (raisedL n L H o) H) = (List.range k).map (fun o => bcells n (raisedL n L H o) H) ++ [bcells n (raisedL n L H k) H] := by rw [List.range_succ, List.map_append]; rfl
    have hOK2 := bOk n (raisedL n L H k) H
    have c2 := hOK2.len
    have c3 := hOK2.ones
    have c4 := hOK2.same
    have hov := ov_zero c2
    simp only [List.reduceReplicate] at hov
    have hov2 : overL (bcells n (raisedL n L H k) H) zBC = some (bcells n (raisedL n L H k) H) := ov_zero c2
    have c5 := bc_same n (raisedL n L H k) H 4
    have hvs : veq 5 vv vv = true := veq_sl (k := 4) (hO.sl hrows)
    have ho1 : oneV vv = true := by rcases hO with ⟨_, rfl⟩ | ⟨_, rfl, _⟩ <;> rfl
    have hrk := fun s => hra k s hlt
    generalize bcells n (raisedL n L H k) H = BD at *
    generalize (List.range k).map (fun o => bcells n (raisedL n L H o) H) = rows at *
    apply zz
    refine Cd.ra (h := ?_)
    apply Run.by_eq
    · intro self
      conv => lhs; simp -implicitDefEqProofs (maxSteps := 300000) (disch := omega) [-getElem?_pos, -getElem?_neg, g7, g6, hlt']
    try (with_reducible refine Run.ret ?_)
    apply zz
    apply Cd.ite rfl
    · conv => lhs; simp -implicitDefEqProofs (maxSteps := 300000) (disch := omega) [-getElem?_pos, -getElem?_neg]
    all_goals intro c0
    all_goals try (cases c0; done)
    all_goals try simp only [Bool.not_eq_true', Bool.not_eq_false', decide_eq_true_eq, decide_eq_false_iff_not] at c0
    all_goals apply zz
    apply zz
    refine Cd.ra (h := ?_)
    apply Run.by_eq
    · intro self
      conv => lhs; simp -implicitDefEqProofs (maxSteps := 300000) (disch := omega) [-getElem?_pos, -getElem?_neg, g7]
    try (with_reducible refine Run.ret ?_)
    apply zz
    refine Cd.drawn (pl := [(0, 0, false, false), (1, 0, false, false), (2, 0, false, false), (3, 6, true, false), (4, 14, false, true), (5, 31, true, false), (6, 63, true, false)]) (by kernel_rfl) (by conv => lhs; simp only [List.map_cons, List.map_nil]) (by conv => lhs; simp [strip, ordered]) ?_
    apply Run.by_eq
    · intro self
      conv => lhs; simp -implicitDefEqProofs (maxSteps := 300000) (disch := omega) [filter_bt, (show Nat.testBit 6 0 = false from rfl), (show Nat.testBit 6 1 = true from rfl), (show Nat.testBit 6 2 = true from rfl), (show ∀ i, Nat.testBit 31 i = decide (i < 5) from fun i => Nat.testBit_two_pow_sub_one 5 i), (show ∀ i, Nat.testBit 63 i = decide (i < 6) from fun i => Nat.testBit_two_pow_sub_one 6 i), -getElem?_pos, -getElem?_neg, g1, g3, hg0, hg1, b1, b4, hvs]
    try (with_reducible refine Run.ret ?_)
    apply zz
    refine Run.call ((hrk _).mono fun v wy hv => ?_)
    obtain ⟨rfl, y⟩ := hv
    have ya := y.1
    have yb := y.2
    try simp only [pushed_next', upded_next'] at ya yb
    have y0 := (yb _ (by omega)).trans hg0
    have y1 := (yb _ (by omega)).trans hg1
    have kx2 : Keep s1 (wy.pushed (.cells BD none)) := Keep.pushed ⟨ya, yb⟩ _
    obtain ⟨s4, happ, hn4, hk4, hO4⟩ := app_one (n := 121) (b2 := wy.next) (x := BD) (g := none) (hO.keepK kx2) hrows c2 c3 (get_pushed_new _ _) (by (try simp only [pushed_next']); omega) (by omega)
    simp only [pushed_next', hrl] at happ hn4 hO4
    have z1 := (hk4 (s.next + 1) (by omega)).trans ((get_pushed_old _ _ _ (by omega)).trans y1)
    apply Run.by_eq
    · intro self
      conv => lhs; simp -implicitDefEqProofs (maxSteps := 300000) (disch := omega) [-getElem?_pos, -getElem?_neg, g1, g3, y0, y1, b1, b4, hvs, hov, hov2, c2, c3, c4, c5, happ, z1]
    try (with_reducible refine Run.ret ?_)
    apply zz
    refine Cd.ra (h := ?_)
    apply Run.by_eq
    · intro self
      conv => lhs; simp -implicitDefEqProofs (maxSteps := 300000) (disch := omega) [-getElem?_pos, -getElem?_neg, g7]
    try (with_reducible refine Run.ret ?_)
    apply zz
    refine LoopK.nm (n - (k + 1)) (by omega) ⟨k + 1, _, by omega, rfl, by simp [hm], by simp [g1], by simp [g3], by simp [g6], by simp, ⟨by (try simp only [upded_next']); omega, fun i hi => ?_⟩, by (try simp only [upded_next']); omega, ?_, get_upded_same _ _ _, ?_⟩
    · rw [get_upded_other _ _ _ _ (by omega), hk4 i (by omega), get_pushed_old _ _ _ (by omega), yb i (by omega)]; exact hkpb i hi
    · rw [get_upded_other _ _ _ _ (by omega), hk4 _ (by omega), get_pushed_old _ _ _ (by omega)]; exact y0
    · rw [hrn]
      exact hO4.keep (by (try simp only [upded_next']); omega) fun i h1 h2 => get_upded_other _ _ _ _ (by omega)
  · obtain rfl : k = n := by omega
    apply zz
    refine Cd.ra (h := ?_)
    apply Run.by_eq
    · intro self
      conv => lhs; simp -implicitDefEqProofs (maxSteps := 300000) (disch := omega) [-getElem?_pos, -getElem?_neg, g7, g6]
    try (with_reducible refine Run.ret ?_)
    apply zz
    apply Cd.ite rfl
    · conv => lhs; simp -implicitDefEqProofs (maxSteps := 300000) (disch := omega) [-getElem?_pos, -getElem?_neg]
    all_goals intro c0
    all_goals try (cases c0; done)
    all_goals try simp only [Bool.not_eq_true', Bool.not_eq_false', decide_eq_true_eq, decide_eq_false_iff_not] at c0
    all_goals apply zz
    apply zz
    refine Cd.ra (h := ?_)
    apply Run.by_eq
    · intro self
      conv => lhs; simp -implicitDefEqProofs (maxSteps := 300000) (disch := omega) [-getElem?_pos, -getElem?_neg, g3]
    try (with_reducible refine Run.ret ?_)
    apply zz
    apply Leave.mk (by first | exact .inl rfl | exact .inr rfl) (by simp only [Fr.marks_put, fr0_marks, hm])
    · conv => lhs; simp -implicitDefEqProofs (disch := omega) [Try.results64, hm]
    exact ⟨hkp, s.next + 1, vv, rfl, by omega, hnx, hg1, hO.sl hrows⟩
end Go.Proofs.Ytnhokodcmeekhaa
namespace Go.Proofs.Ytnhokodcmeekhaa
open Go Kern
/-! The regret of a week -/
theorem raised_mid {n : Nat} {L H : Nat → Frac} {o : Nat} (hn : n ≤ 30) (ho : o < n) (hL : ∀ i, i < n → Mid 60000 1 (L i)) (hH : ∀ i, i < n → Mid 60000 1 (H i)) : ∀ i, i < n → Mid 3600000 30 (raisedL n L H o i) := fun i hi => by
  unfold raisedL updF
  split
  · exact up_mid hn ho (by decide) (by decide) (by decide) hL hH
  · exact (hL i hi).mono (by decide) (by decide)
theorem loss_mid {n : Nat} {L H : Nat → Frac} {w o : Nat} (hn : n ≤ 30) (hw : w < n) (ho : o < n) (hL : ∀ i, i < n → Mid 60000 1 (L i)) (hH : ∀ i, i < n → Mid 60000 1 (H i)) : Mid 291600000000 810000 (lossF n L H w o) :=
  minus_mid (up_mid hn ho (by decide) (by decide) (by decide) hL hH) (low_mid hn hw (by decide) (by decide) (by decide) (raised_mid hn ho hL hH))
theorem reg_mid {n : Nat} {L H : Nat → Frac} {w : Nat} (hn : n ≤ 30) (hw : w < n) (hL : ∀ i, i < n → Mid 60000 1 (L i)) (hH : ∀ i, i < n → Mid 60000 1 (H i)) : Mid 291600000000 810000 (regF n L H w) ∧ 0 ≤ (regF n L H w).o := by
  have hm : ∀ x ∈ (List.range n).map (lossF n L H w), Mid 291600000000 810000 x := fun x hx => by
    obtain ⟨o, ho, rfl⟩ := List.mem_map.1 hx
    exact loss_mid hn hw (by simpa using ho) hL hH
  have h0 : Mid 291600000000 810000 (⟨0, 1⟩ : Frac) := by unfold Mid; simp only []; omega
  refine ⟨fore_mid h0 hm, ?_⟩
  have := (fore_max _ (⟨0, 1⟩ : Frac) (by decide) fun x hx => (hm x hx).2.1).2.1
  unfold LeF at this
  unfold regF
  simp only [] at this
  omega
set_option maxRecDepth 100000 in
set_option maxHeartbeats 4000000 in
theorem regretOf_ev (n w p : Nat) (L H : Nat → Frac) (v : Value) (s : St) (hn : n ≤ 30) (hw : w < n) (hL : ∀ i, i < n → Mid 60000 1 (L i)) (hH : ∀ i, i < n → Mid 60000 1 (H i)) (hp : p < s.next) (hg : s.heap.get p = some (.cells [v] none)) (hv : SlAt 121 s v ((List.range n).map fun o => bcells n (raisedL n L H o) H)) :
    Ev TT 81 [.int .i64 w, .pointer (some ⟨p, 0, none⟩)] s fun r s' => r = (regF n L H w).v ∧ Keep s s' := by
  obtain ⟨a, c, rfl⟩ := hv.shape
  rw [List.length_map, List.length_range] at hv hg
  have hmids : ∀ x ∈ (List.range n).map (lossF n L H w), Mid 291600000000 810000 x := fun x hx => by
    obtain ⟨o, ho, rfl⟩ := List.mem_map.1 hx
    exact loss_mid hn hw (by simpa using ho) hL hH
  have h0 : Mid 291600000000 810000 (⟨0, 1⟩ : Frac) := by unfold Mid; simp only []; omega
  refine Ev.intro (fn := Try.f81) rfl (by kernel_rfl) rfl rfl ?_
  apply zz
  refine Cd.ra (h := ?_)
  apply Run.by_eq
  · intro self
    conv => lhs; simp -implicitDefEqProofs (maxSteps := 300000) (disch := omega) [-getElem?_pos, -getElem?_neg]
  try (with_reducible refine Run.ret ?_)
  apply zz
  refine Cd.ra (h := ?_)
  apply Run.by_eq
  · intro self
    conv => lhs; simp -implicitDefEqProofs (maxSteps := 300000) (disch := omega) [-getElem?_pos, -getElem?_neg]
  try (with_reducible refine Run.ret ?_)
  apply zz
  refine Cd.ra (h := ?_)
  apply Run.by_eq
  · intro self
    conv => lhs; simp -implicitDefEqProofs (maxSteps := 300000) (disch := omega) [-getElem?_pos, -getElem?_neg, hg]
  try (with_reducible refine Run.ret ?_)
  apply zz
  refine Cd.inv (fun z f s' => ∃ k : Nat, k ≤ n ∧ z = n - k ∧ f.marks = [] ∧ f.get 0 = .int .i64 w ∧ f.get 3 = .pointer (some ⟨s.next, 0, none⟩) ∧ f.get 7 = .slice a n c ∧ f.get 8 = .int .i64 n ∧ f.get 9 = .int .i64 k ∧ Keep s s' ∧ s.next < s'.next ∧ s'.heap.get s.next = some (.cells [.int .i64 0, .int .i64 0] none) ∧ OwnG 2 (s.next + 1) s' (f.get 4) (((List.range k).map (lossF n L H w)).map Frac.cs)) n ?_ ?_
  · exact ⟨0, by omega, rfl, by simp, by simp, by simp, by simp, by simp, by simp, ⟨by (try simp only [pushed_next', upded_next']); omega, fun i hi => by simp -implicitDefEqProofs (disch := omega) []⟩, by simp, by simp -implicitDefEqProofs (disch := omega), .inl ⟨rfl, by simp⟩⟩
  rintro z f s1 ⟨k, hk, rfl, hm, g0, g3, g7, g8, g9, hkp, hnx, hg0, hO⟩
  have hkpa := hkp.1
  have hkpb := hkp.2
  have hrows := cs_len ((List.range k).map (lossF n L H w))
  have hvs : veq 5 (f.get 4) (f.get 4) = true := veq_sl (k := 4) (hO.sl hrows)
  have ho1 : oneV (f.get 4) = true := by rcases hO with ⟨_, e⟩ | ⟨_, e, _⟩ <;> rw [e] <;> rfl
  by_cases hlt : k < n
  · have hlt' : (k : Int) < n := by omega
    have hk30 : k < 30 := by omega
    have hk30' : (k : Int) < 30 := by omega
    have hrl : (((List.range k).map (lossF n L H w)).map Frac.cs).length = k := by simp
    have hrn : ((List.range (k + 1)).map (lossF n L H w)).map Frac.cs = ((List.range k).map (lossF n L H w)).map Frac.cs ++ [(lossF n L H w k).cs] := by rw [List.range_succ, List.map_append, List.map_append]; rfl
    have hat : ((List.range n).map fun o => bcells n (raisedL n L H o) H)[k]? = some (bcells n (raisedL n L H k) H) := by rw [List.getElem?_map, List.getElem?_range hlt]; rfl
    obtain ⟨b, off, o, cs, gg, rfl, hb, ho, hc, ht⟩ := SlAt.at (hv.keep hkp) hat
    have hOK2 := bOk n (raisedL n L H k) H
    have c1 := takeL_len hOK2.len
    have c2 := hOK2.len
    have c3 := hOK2.ones
    have c4 := hOK2.same
    have hov := ov_zero c2
    simp only [List.reduceReplicate] at hov
    have hup : raisedL n L H k k = upF n L H k := if_pos rfl
    have clo := hOK2.lo k hk30
    rw [hup] at clo
    have hle := fun s => least_ev 3600000 30 _ n (raisedL n L H k) H w s hOK2 hn hw (by decide) (by decide) (by decide) (by decide) (by decide) (raised_mid hn hlt hL hH)
    have hmi := fun s => minus_ev (upF n L H k) (lowF n (raisedL n L H k) w) s (up_mid hn hlt (by decide) (by decide) (by decide) hL hH) (low_mid hn hw (by decide) (by decide) (by decide) (raised_mid hn hlt hL hH))
    have hlo : minusF (upF n L H k) (lowF n (raisedL n L H k) w) = lossF n L H w k := rfl
    rw [hlo] at hmi
    generalize bcells n (raisedL n L H k) H = BD at *
    generalize lossF n L H w k = X at *
    generalize ((List.range k).map (lossF n L H w)).map Frac.cs = rows at *
    generalize lowF n (raisedL n L H k) w = Y at *
    generalize upF n L H k = U at *
    apply zz
    refine Cd.ra (h := ?_)
    apply Run.by_eq
    · intro self
      conv => lhs; simp -implicitDefEqProofs (maxSteps := 300000) (disch := omega) [-getElem?_pos, -getElem?_neg, g9, g8, hlt']
    try (with_reducible refine Run.ret ?_)
    apply zz
    apply Cd.ite rfl
    · conv => lhs; simp -implicitDefEqProofs (maxSteps := 300000) (disch := omega) [-getElem?_pos, -getElem?_neg]
    all_goals intro c0
    all_goals try (cases c0; done)
    all_goals try simp only [Bool.not_eq_true', Bool.not_eq_false', decide_eq_true_eq, decide_eq_false_iff_not] at c0
    all_goals apply zz
    apply zz
    refine Cd.ra (h := ?_)
    apply Run.by_eq
    · intro self
      conv => lhs; simp -implicitDefEqProofs (maxSteps := 300000) (disch := omega) [-getElem?_pos, -getElem?_neg, g7, g9, hlt, ho, hc, ht, c1, c2, c3, hov]
    try (with_reducible refine Run.ret ?_)
    apply zz
    refine Cd.drawn (pl := [(0, 0, false, false), (1, 0, false, false), (2, 0, false, false), (3, 6, false, false), (4, 14, false, false), (5, 0, false, false), (6, 0, false, false), (7, 96, true, false), (8, 254, true, false), (9, 510, false, true), (10, 1023, true, false), (11, 2047, false, false)]) (by kernel_rfl) (by conv => lhs; simp only [List.map_cons, List.map_nil]) (by conv => lhs; simp [strip, ordered]) ?_
    apply Run.by_eq
    · intro self
      conv => lhs; simp -implicitDefEqProofs (maxSteps := 300000) (disch := omega) [filter_bt, (show Nat.testBit 96 0 = false from rfl), (show Nat.testBit 96 1 = false from rfl), (show Nat.testBit 96 2 = false from rfl), (show Nat.testBit 96 3 = false from rfl), (show Nat.testBit 96 4 = false from rfl), (show Nat.testBit 96 5 = true from rfl), (show Nat.testBit 96 6 = true from rfl), (show Nat.testBit 254 0 = false from rfl), (show Nat.testBit 254 1 = true from rfl), (show Nat.testBit 254 2 = true from rfl), (show Nat.testBit 254 3 = true from rfl), (show Nat.testBit 254 4 = true from rfl), (show Nat.testBit 254 5 = true from rfl), (show Nat.testBit 254 6 = true from rfl), (show ∀ i, Nat.testBit 1023 i = decide (i < 10) from fun i => Nat.testBit_two_pow_sub_one 10 i), -getElem?_pos, -getElem?_neg, g0, g9, c1, c4, clo, hk30, hk30', hvs]
    try (with_reducible refine Run.ret ?_)
    apply zz
    refine Run.call ((hle _).mono fun v wy hv => ?_)
    obtain ⟨rfl, y⟩ := hv
    have ya := y.1
    have yb := y.2
    try simp only [pushed_next', upded_next'] at ya yb
    have y0 : wy.heap.get s1.next = some (.cells BD none) := by rw [yb _ (by (try simp only [pushed_next', upded_next']); omega)]; simp -implicitDefEqProofs (disch := omega)
    apply Run.by_eq
    · intro self
      conv => lhs; simp -implicitDefEqProofs (maxSteps := 300000) (disch := omega) [-getElem?_pos, -getElem?_neg, g0, g9, y0, c1, c4, clo, hk30, hk30', hvs]
    try (with_reducible refine Run.ret ?_)
    apply zz
    rw [← v_eq]
    refine Run.call ((hmi _).mono fun v wx hv => ?_)
    obtain ⟨rfl, x⟩ := hv
    have xa := x.1
    have xb := x.2
    try simp only [pushed_next', upded_next'] at xa xb
    have x0 := (xb _ (by omega)).trans y0
    have kx : Keep s1 wx := ⟨by (try simp only [pushed_next', upded_next'] at *); omega, fun i hi => by rw [xb i (by omega), yb i (by (try simp only [pushed_next', upded_next']); omega)]; simp -implicitDefEqProofs (disch := omega)⟩
    have kx2 : Keep s1 (wx.pushed (.cells [.int .i64 X.o, .int .i64 X.u] none)) := kx.pushed _
    obtain ⟨s4, happ, hn4, hk4, hO4⟩ := app_one (n := 2) (b2 := wx.next) (x := [.int .i64 X.o, .int .i64 X.u]) (g := none) (hO.keepK kx2) hrows rfl rfl (get_pushed_new _ _) (by have := kx.1; (try simp only [pushed_next']); omega) (by omega)
    simp only [pushed_next', hrl] at happ hn4 hO4
    apply Run.by_eq
    · intro self
      conv => lhs; simp -implicitDefEqProofs (maxSteps := 300000) (disch := omega) [-getElem?_pos, -getElem?_neg, v_eq, g0, g9, x0, c1, c4, clo, hk30, hk30', hvs, happ]
    try (with_reducible refine Run.ret ?_)
    apply zz
    refine Cd.ra (h := ?_)
    apply Run.by_eq
    · intro self
      conv => lhs; simp -implicitDefEqProofs (maxSteps := 300000) (disch := omega) [-getElem?_pos, -getElem?_neg, g9]
    try (with_reducible refine Run.ret ?_)
    apply zz
    refine LoopK.nm (n - (k + 1)) (by omega) ⟨k + 1, by omega, rfl, by simp [hm], by simp [g0], by simp [g3], by simp [g7], by simp [g8], by simp, ⟨by have := kx.1; omega, fun i hi => (hk4 i (by omega)).trans ((kx2.2 i (by omega)).trans (hkpb i hi))⟩, by have := kx.1; omega, (hk4 _ (by omega)).trans ((kx2.2 _ (by omega)).trans hg0), ?_⟩
    rw [hrn]; simpa [Frac.cs] using hO4
  · obtain rfl : k = n := by omega
    have hfr : FrAt s1 (f.get 4) ((List.range k).map (lossF k L H w)) := hO.sl hrows
    have hgr := fun s' (kk : Keep s1 s') => greatest_ev ⟨0, 1⟩ (f.get 4) _ s' (hfr.keep kk) (by simp; omega) fun x hx y hy => (hmids x hx).fits (by
      rcases hy with rfl | hy
      · exact h0
      · exact hmids y hy) (by decide)
    have hreg : foreF aboveB ⟨0, 1⟩ ((List.range k).map (lossF k L H w)) = regF k L H w := rfl
    rw [hreg] at hgr
    apply zz
    refine Cd.ra (h := ?_)
    apply Run.by_eq
    · intro self
      conv => lhs; simp -implicitDefEqProofs (maxSteps := 300000) (disch := omega) [-getElem?_pos, -getElem?_neg, g8, g9]
    try (with_reducible refine Run.ret ?_)
    apply zz
    apply Cd.ite rfl
    · conv => lhs; simp -implicitDefEqProofs (maxSteps := 300000) (disch := omega) [-getElem?_pos, -getElem?_neg]
    all_goals intro c0
    all_goals try (cases c0; done)
    all_goals try simp only [Bool.not_eq_true', Bool.not_eq_false', decide_eq_true_eq, decide_eq_false_iff_not] at c0
    all_goals apply zz
    apply zz
    refine Cd.ra (h := ?_)
    apply Run.by_eq
    · intro self
      conv => lhs; simp -implicitDefEqProofs (maxSteps := 300000) (disch := omega) [-getElem?_pos, -getElem?_neg]
    try (with_reducible refine Run.ret ?_)
    apply zz
    refine Run.call ((whole_ev 0 _).mono fun v wx hv => ?_)
    obtain ⟨rfl, x⟩ := hv
    have xa := x.1
    have xb := x.2
    try simp only [pushed_next', upded_next'] at xa xb
    apply Run.by_eq
    · intro self
      conv => lhs; simp -implicitDefEqProofs (maxSteps := 300000) (disch := omega) [-getElem?_pos, -getElem?_neg]
    try (with_reducible refine Run.ret ?_)
    apply zz
    refine Run.call ((hgr _ ⟨xa, xb⟩).mono fun v wy hv => ?_)
    obtain ⟨rfl, y⟩ := hv
    have ya := y.1
    have yb := y.2
    have y0 := (yb _ (by omega)).trans ((xb _ (by omega)).trans hg0)
    apply Run.by_eq
    · intro self
      conv => lhs; simp -implicitDefEqProofs (maxSteps := 300000) (disch := omega) [-getElem?_pos, -getElem?_neg, v_eq, g3, y0]
    try (with_reducible refine Run.ret ?_)
    apply zz
    apply Leave.mk (by first | exact .inl rfl | exact .inr rfl) (by simp only [Fr.marks_put, fr0_marks, hm, g3])
    · conv => lhs; simp -implicitDefEqProofs (disch := omega) [Try.results81, hm, g3]
    exact ⟨rfl, ⟨by (try simp only [pushed_next', upded_next']); omega, fun i hi => by simp -implicitDefEqProofs (disch := omega) [yb, xb, hkpb]⟩⟩
end Go.Proofs.Ytnhokodcmeekhaa
namespace Go.Proofs.Ytnhokodcmeekhaa
open Go Kern
/-! Regret and Cut -/
def RF (n lo hi : Int) (ss : List SampD) : Nat → Frac := regF n.toNat (LF n lo hi ss) (HF n lo hi ss)
def RegA (n lo hi : Int) (ss : List SampD) (week r e : Int) : Prop :=
  (fieldErr n lo hi ss ≠ 0 ∧ e = fieldErr n lo hi ss ∧ r = 0) ∨
  (fieldErr n lo hi ss = 0 ∧ e = 12 ∧ r = 0 ∧ ∃ i j k, i < n.toNat ∧ j < n.toNat ∧ k < n.toNat ∧ hB lo hi ss i j k = true) ∨
  (fieldErr n lo hi ss = 0 ∧ ((weekB n week = false ∧ e = 5 ∧ r = 0) ∨ (weekB n week = true ∧ e = 0 ∧ r = ceF (RF n lo hi ss week.toNat))) ∧ ∀ i j k, i < n.toNat → j < n.toNat → k < n.toNat → hB lo hi ss i j k = false)
set_option maxRecDepth 100000 in
set_option maxHeartbeats 4000000 in
theorem regret_ev (n lo hi week : Int) (v : Value) (ss : List SampD) (s : St) (hs : SmAt s v ss) (hl : ss.length ≤ 1000000) : Ev TT 29 [fieldV n lo hi v, .int .i64 week] s fun r s' => Keep s s' ∧ ∃ x e, r = .tuple #[.int .i64 x, .int .i64 e] ∧ RegA n lo hi ss week x e := by
  have hck := possible_ev n lo hi v ss
  have hwk := fun s => hasWeek_ev n lo hi week v s
  obtain ⟨a, c, rfl⟩ := hs.shape
  rw [List.length_map] at hs hck hwk ⊢
  unfold fieldV at hck hwk ⊢
  refine Ev.intro (fn := Try.f29) rfl (by kernel_rfl) rfl rfl ?_
  apply zz
  refine Cd.ra (h := ?_)
  apply Run.by_eq
  · intro self
    conv => lhs; simp -implicitDefEqProofs (maxSteps := 300000) (disch := omega) [-getElem?_pos, -getElem?_neg]
  try (with_reducible refine Run.ret ?_)
  apply zz
  refine Cd.ra (h := ?_)
  apply Run.by_eq
  · intro self
    conv => lhs; simp -implicitDefEqProofs (maxSteps := 300000) (disch := omega) [-getElem?_pos, -getElem?_neg]
  try (with_reducible refine Run.ret ?_)
  apply zz
  refine Run.call ((hck _ (hs.keep ⟨by (try simp only [pushed_next', upded_next']); omega, fun i hi => by simp -implicitDefEqProofs (disch := omega) []⟩) hl).mono fun v wy hv => ?_)
  obtain ⟨y, BC, e, rfl, b2, b3, b4, hP⟩ := hv
  have ya := y.1
  have yb := y.2
  have b1 := takeL_len b2
  try simp only [pushed_next', upded_next'] at ya yb
  have hov := ov_zero b2
  simp only [List.reduceReplicate] at hov
  have y0 : wy.heap.get s.next = some (.cells [.int .i64 n, .int .i64 lo, .int .i64 hi, .slice a ss.length c] none) := by rw [yb _ (by omega)]; simp -implicitDefEqProofs (disch := omega)
  have va : veq 4 (Value.slice a ss.length c) (Value.slice a ss.length c) = true := slAt_veq hs 3
  apply Run.by_eq
  · intro self
    conv => lhs; simp -implicitDefEqProofs (maxSteps := 300000) (disch := omega) [-getElem?_pos, -getElem?_neg, b1, b2, b3, hov]
  try (with_reducible refine Run.ret ?_)
  apply zz
  rcases hP with ⟨h1, rfl⟩ | ⟨h1, rfl, hc⟩ | ⟨h1, rfl, rfl, hc⟩
  · apply zz
    refine Cd.ra (h := ?_)
    apply Run.by_eq
    · intro self
      conv => lhs; simp -implicitDefEqProofs (maxSteps := 300000) (disch := omega) [-getElem?_pos, -getElem?_neg, h1]
    try (with_reducible refine Run.ret ?_)
    apply zz
    apply Cd.ite rfl
    · conv => lhs; simp -implicitDefEqProofs (maxSteps := 300000) (disch := omega) [-getElem?_pos, -getElem?_neg]
    all_goals intro c0
    all_goals try (cases c0; done)
    all_goals try simp only [Bool.not_eq_true', Bool.not_eq_false', decide_eq_true_eq, decide_eq_false_iff_not] at c0
    all_goals apply zz
    apply zz
    refine Cd.ra (h := ?_)
    apply Run.by_eq
    · intro self
      conv => lhs; simp -implicitDefEqProofs (maxSteps := 300000) (disch := omega) [-getElem?_pos, -getElem?_neg]
    try (with_reducible refine Run.ret ?_)
    apply zz
    apply Leave.mk (by first | exact .inl rfl | exact .inr rfl) (by simp only [Fr.marks_put, fr0_marks])
    · conv => lhs; simp -implicitDefEqProofs (disch := omega) [Try.results29]
    exact ⟨⟨by (try simp only [pushed_next', upded_next']); omega, fun i hi => by simp -implicitDefEqProofs (disch := omega) [yb]⟩, _, _, rfl, .inl ⟨h1, rfl, rfl⟩⟩
  · apply zz
    refine Cd.ra (h := ?_)
    apply Run.by_eq
    · intro self
      conv => lhs; simp -implicitDefEqProofs (maxSteps := 300000) (disch := omega) [-getElem?_pos, -getElem?_neg]
    try (with_reducible refine Run.ret ?_)
    apply zz
    apply Cd.ite rfl
    · conv => lhs; simp -implicitDefEqProofs (maxSteps := 300000) (disch := omega) [-getElem?_pos, -getElem?_neg]
    all_goals intro c0
    all_goals try (cases c0; done)
    all_goals try simp only [Bool.not_eq_true', Bool.not_eq_false', decide_eq_true_eq, decide_eq_false_iff_not] at c0
    all_goals apply zz
    apply zz
    refine Cd.ra (h := ?_)
    apply Run.by_eq
    · intro self
      conv => lhs; simp -implicitDefEqProofs (maxSteps := 300000) (disch := omega) [-getElem?_pos, -getElem?_neg]
    try (with_reducible refine Run.ret ?_)
    apply zz
    apply Leave.mk (by first | exact .inl rfl | exact .inr rfl) (by simp only [Fr.marks_put, fr0_marks])
    · conv => lhs; simp -implicitDefEqProofs (disch := omega) [Try.results29]
    exact ⟨⟨by (try simp only [pushed_next', upded_next']); omega, fun i hi => by simp -implicitDefEqProofs (disch := omega) [yb]⟩, _, _, rfl, .inr (.inl ⟨h1, rfl, rfl, hc⟩)⟩
  have hok := (fieldErr_ok h1).1
  obtain ⟨m, rfl⟩ : ∃ m : Nat, n = m := ⟨n.toNat, by omega⟩
  simp only [Int.toNat_natCast] at hc b1 b2 b3 b4 hov ⊢
  obtain ⟨hm, hb⟩ := base_ok h1
  have hL : ∀ i, i < m → Mid 60000 1 (LF m lo hi ss i) := fun i hi => (hb i hi).1.mid
  have hH : ∀ i, i < m → Mid 60000 1 (HF m lo hi ss i) := fun i hi => (hb i hi).2.1.mid
  have hrg := fun s => regrets_ev m (LF m lo hi ss) (HF m lo hi ss) s (by omega) hL hH
  have hOf := fun w p v s hw => regretOf_ev m w p (LF m lo hi ss) (HF m lo hi ss) v s (by omega) hw hL hH
  have hmr := fun w (hw : w < m) => reg_mid (n := m) (L := LF m lo hi ss) (H := HF m lo hi ss) (by omega) hw hL hH
  have hRF : ∀ w, regF m (LF m lo hi ss) (HF m lo hi ss) w = RF m lo hi ss w := fun w => rfl
  change ∀ s, Ev TT 64 [.agg (bcells m (bndN m lo hi ss).1 (bndN m lo hi ss).2).toArray] s _ at hrg
  generalize bcells m (bndN m lo hi ss).1 (bndN m lo hi ss).2 = BC at *
  apply zz
  refine Cd.ra (h := ?_)
  apply Run.by_eq
  · intro self
    conv => lhs; simp -implicitDefEqProofs (maxSteps := 300000) (disch := omega) [-getElem?_pos, -getElem?_neg]
  try (with_reducible refine Run.ret ?_)
  apply zz
  apply Cd.ite rfl
  · conv => lhs; simp -implicitDefEqProofs (maxSteps := 300000) (disch := omega) [-getElem?_pos, -getElem?_neg]
  all_goals intro c0
  all_goals try (cases c0; done)
  all_goals try simp only [Bool.not_eq_true', Bool.not_eq_false', decide_eq_true_eq, decide_eq_false_iff_not] at c0
  all_goals apply zz
  apply zz
  refine Cd.ra (h := ?_)
  apply Run.by_eq
  · intro self
    conv => lhs; simp -implicitDefEqProofs (maxSteps := 300000) (disch := omega) [-getElem?_pos, -getElem?_neg, y0, va]
  try (with_reducible refine Run.ret ?_)
  apply zz
  refine Run.call ((hwk _).mono fun v wx hv => ?_)
  obtain ⟨rfl, x⟩ := hv
  have xa := x.1
  have xb := x.2
  try simp only [pushed_next', upded_next'] at xa xb
  have x0 : wx.heap.get wy.next = some (.cells BC none) := by rw [xb _ (by omega)]; simp -implicitDefEqProofs (disch := omega)
  cases hwb : weekB m week with
  | false =>
    apply Run.by_eq
    · intro self
      conv => lhs; simp -implicitDefEqProofs (maxSteps := 300000) (disch := omega) [-getElem?_pos, -getElem?_neg]
    try (with_reducible refine Run.ret ?_)
    apply zz
    apply Cd.ite rfl
    · conv => lhs; simp -implicitDefEqProofs (maxSteps := 300000) (disch := omega) [-getElem?_pos, -getElem?_neg]
    all_goals intro c1
    all_goals try (cases c1; done)
    all_goals try simp only [Bool.not_eq_true', Bool.not_eq_false', decide_eq_true_eq, decide_eq_false_iff_not] at c1
    all_goals apply zz
    apply zz
    refine Cd.ra (h := ?_)
    apply Run.by_eq
    · intro self
      conv => lhs; simp -implicitDefEqProofs (maxSteps := 300000) (disch := omega) [-getElem?_pos, -getElem?_neg]
    try (with_reducible refine Run.ret ?_)
    apply zz
    apply Leave.mk (by first | exact .inl rfl | exact .inr rfl) (by simp only [Fr.marks_put, fr0_marks])
    · conv => lhs; simp -implicitDefEqProofs (disch := omega) [Try.results29]
    exact ⟨⟨by (try simp only [pushed_next', upded_next']); omega, fun i hi => by simp -implicitDefEqProofs (disch := omega) [xb, yb]⟩, _, _, rfl, .inr (.inr ⟨h1, .inl ⟨hwb, rfl, rfl⟩, hc⟩)⟩
  | true =>
    have hw2 := weekB_ok hwb
    obtain ⟨w, rfl⟩ : ∃ w : Nat, week = w := ⟨week.toNat, by omega⟩
    have hwm : w < m := by omega
    have hmw := hmr w hwm
    have hOw := fun p v s => hOf w p v s hwm
    rw [hRF] at hmw
    simp only [hRF] at hOw
    unfold Mid at hmw
    apply Run.by_eq
    · intro self
      conv => lhs; simp -implicitDefEqProofs (maxSteps := 300000) (disch := omega) [-getElem?_pos, -getElem?_neg]
    try (with_reducible refine Run.ret ?_)
    apply zz
    apply Cd.ite rfl
    · conv => lhs; simp -implicitDefEqProofs (maxSteps := 300000) (disch := omega) [-getElem?_pos, -getElem?_neg]
    all_goals intro c1
    all_goals try (cases c1; done)
    all_goals try simp only [Bool.not_eq_true', Bool.not_eq_false', decide_eq_true_eq, decide_eq_false_iff_not] at c1
    all_goals apply zz
    apply zz
    refine Cd.ra (h := ?_)
    apply Run.by_eq
    · intro self
      conv => lhs; simp -implicitDefEqProofs (maxSteps := 300000) (disch := omega) [-getElem?_pos, -getElem?_neg, x0, b1, b2, b3]
    try (with_reducible refine Run.ret ?_)
    apply zz
    refine Run.call ((hrg _).mono fun v wz hv => ?_)
    obtain ⟨z, p, vv, rfl, hp1, hp2, hp3, hp4⟩ := hv
    have za := z.1
    have zb := z.2
    apply Run.by_eq
    · intro self
      conv => lhs; simp -implicitDefEqProofs (maxSteps := 300000) (disch := omega) [-getElem?_pos, -getElem?_neg]
    try (with_reducible refine Run.ret ?_)
    apply zz
    refine Cd.ra (h := ?_)
    apply Run.by_eq
    · intro self
      conv => lhs; simp -implicitDefEqProofs (maxSteps := 300000) (disch := omega) [-getElem?_pos, -getElem?_neg]
    try (with_reducible refine Run.ret ?_)
    apply zz
    refine Run.call ((hOw p vv _ hp2 hp3 hp4).mono fun v wu hv => ?_)
    obtain ⟨rfl, u⟩ := hv
    have ua := u.1
    have ub := u.2
    apply Run.by_eq
    · intro self
      conv => lhs; simp -implicitDefEqProofs (maxSteps := 300000) (disch := omega) [-getElem?_pos, -getElem?_neg]
    try (with_reducible refine Run.ret ?_)
    apply zz
    refine Run.call ((up_ev (RF m lo hi ss w) _ hmw.2 hmw.1.2.1 (by omega) (by omega)).mono fun v wt hv => ?_)
    obtain ⟨rfl, t⟩ := hv
    have ta := t.1
    have tb := t.2
    try simp only [pushed_next', upded_next'] at ta tb
    apply Run.by_eq
    · intro self
      conv => lhs; simp -implicitDefEqProofs (maxSteps := 300000) (disch := omega) [-getElem?_pos, -getElem?_neg]
    try (with_reducible refine Run.ret ?_)
    apply zz
    apply Leave.mk (by first | exact .inl rfl | exact .inr rfl) (by simp only [Fr.marks_put, fr0_marks])
    · conv => lhs; simp -implicitDefEqProofs (disch := omega) [Try.results29]
    exact ⟨⟨by (try simp only [pushed_next', upded_next']); omega, fun i hi => by simp -implicitDefEqProofs (disch := omega) [tb, ub, zb, xb, yb]⟩, _, _, rfl, .inr (.inr ⟨h1, .inr ⟨hwb, rfl, by rw [Int.toNat_natCast]⟩, hc⟩)⟩
def bestI (R : Nat → Frac) : Nat → Nat
  | 0 => 0
  | k + 1 => if aboveB (R (bestI R k)) (R (k + 1)) = true then k + 1 else bestI R k
theorem bestI_le (R : Nat → Frac) : ∀ k, bestI R k ≤ k
  | 0 => Nat.le_refl _
  | k + 1 => by
    unfold bestI
    split
    · exact Nat.le_refl _
    · have := bestI_le R k; omega
set_option maxRecDepth 100000 in
set_option maxHeartbeats 4000000 in
theorem cut_ev (n lo hi : Int) (v : Value) (ss : List SampD) (s : St) (hs : SmAt s v ss) (hl : ss.length ≤ 1000000) : Ev TT 31 [fieldV n lo hi v] s fun r s' => Keep s s' ∧ ∃ w x e, r = .tuple #[.int .i64 w, .int .i64 x, .int .i64 e] ∧ Ans n lo hi ss e (w = 0 ∧ x = 0) (w = (bestI (RF n lo hi ss) (n.toNat - 1) : Nat) ∧ x = ceF (RF n lo hi ss (bestI (RF n lo hi ss) (n.toNat - 1)))) := by
  have hck := possible_ev n lo hi v ss
  obtain ⟨a, c, rfl⟩ := hs.shape
  rw [List.length_map] at hs hck ⊢
  unfold fieldV at hck ⊢
  refine Ev.intro (fn := Try.f31) rfl (by kernel_rfl) rfl rfl ?_
  apply zz
  refine Cd.ra (h := ?_)
  apply Run.by_eq
  · intro self
    conv => lhs; simp -implicitDefEqProofs (maxSteps := 300000) (disch := omega) [-getElem?_pos, -getElem?_neg]
  try (with_reducible refine Run.ret ?_)
  apply zz
  refine Cd.ra (h := ?_)
  apply Run.by_eq
  · intro self
    conv => lhs; simp -implicitDefEqProofs (maxSteps := 300000) (disch := omega) [-getElem?_pos, -getElem?_neg]
  try (with_reducible refine Run.ret ?_)
  apply zz
  refine Run.call ((hck _ (hs.keep ⟨by (try simp only [pushed_next', upded_next']); omega, fun i hi => by simp -implicitDefEqProofs (disch := omega) []⟩) hl).mono fun v wy hv => ?_)
  obtain ⟨y, BC, e, rfl, b2, b3, b4, hP⟩ := hv
  have ya := y.1
  have yb := y.2
  have b1 := takeL_len b2
  try simp only [pushed_next', upded_next'] at ya yb
  have hov := ov_zero b2
  simp only [List.reduceReplicate] at hov
  apply Run.by_eq
  · intro self
    conv => lhs; simp -implicitDefEqProofs (maxSteps := 300000) (disch := omega) [-getElem?_pos, -getElem?_neg, b1, b2, b3, hov]
  try (with_reducible refine Run.ret ?_)
  apply zz
  rcases hP with ⟨h1, rfl⟩ | ⟨h1, rfl, hc⟩ | ⟨h1, rfl, rfl, hc⟩
  · apply zz
    refine Cd.ra (h := ?_)
    apply Run.by_eq
    · intro self
      conv => lhs; simp -implicitDefEqProofs (maxSteps := 300000) (disch := omega) [-getElem?_pos, -getElem?_neg, h1]
    try (with_reducible refine Run.ret ?_)
    apply zz
    apply Cd.ite rfl
    · conv => lhs; simp -implicitDefEqProofs (maxSteps := 300000) (disch := omega) [-getElem?_pos, -getElem?_neg]
    all_goals intro c0
    all_goals try (cases c0; done)
    all_goals try simp only [Bool.not_eq_true', Bool.not_eq_false', decide_eq_true_eq, decide_eq_false_iff_not] at c0
    all_goals apply zz
    apply zz
    refine Cd.ra (h := ?_)
    apply Run.by_eq
    · intro self
      conv => lhs; simp -implicitDefEqProofs (maxSteps := 300000) (disch := omega) [-getElem?_pos, -getElem?_neg]
    try (with_reducible refine Run.ret ?_)
    apply zz
    apply Leave.mk (by first | exact .inl rfl | exact .inr rfl) (by simp only [Fr.marks_put, fr0_marks])
    · conv => lhs; simp -implicitDefEqProofs (disch := omega) [Try.results31]
    exact ⟨⟨by (try simp only [pushed_next', upded_next']); omega, fun i hi => by simp -implicitDefEqProofs (disch := omega) [yb]⟩, _, _, _, rfl, .inl ⟨h1, rfl, rfl, rfl⟩⟩
  · apply zz
    refine Cd.ra (h := ?_)
    apply Run.by_eq
    · intro self
      conv => lhs; simp -implicitDefEqProofs (maxSteps := 300000) (disch := omega) [-getElem?_pos, -getElem?_neg]
    try (with_reducible refine Run.ret ?_)
    apply zz
    apply Cd.ite rfl
    · conv => lhs; simp -implicitDefEqProofs (maxSteps := 300000) (disch := omega) [-getElem?_pos, -getElem?_neg]
    all_goals intro c0
    all_goals try (cases c0; done)
    all_goals try simp only [Bool.not_eq_true', Bool.not_eq_false', decide_eq_true_eq, decide_eq_false_iff_not] at c0
    all_goals apply zz
    apply zz
    refine Cd.ra (h := ?_)
    apply Run.by_eq
    · intro self
      conv => lhs; simp -implicitDefEqProofs (maxSteps := 300000) (disch := omega) [-getElem?_pos, -getElem?_neg]
    try (with_reducible refine Run.ret ?_)
    apply zz
    apply Leave.mk (by first | exact .inl rfl | exact .inr rfl) (by simp only [Fr.marks_put, fr0_marks])
    · conv => lhs; simp -implicitDefEqProofs (disch := omega) [Try.results31]
    exact ⟨⟨by (try simp only [pushed_next', upded_next']); omega, fun i hi => by simp -implicitDefEqProofs (disch := omega) [yb]⟩, _, _, _, rfl, .inr (.inl ⟨h1, rfl, ⟨rfl, rfl⟩, hc⟩)⟩
  have hok := (fieldErr_ok h1).1
  obtain ⟨m, rfl⟩ : ∃ m : Nat, n = m := ⟨n.toNat, by omega⟩
  simp only [Int.toNat_natCast] at hc b1 b2 b3 b4 hov ⊢
  obtain ⟨hm, hb⟩ := base_ok h1
  have hL : ∀ i, i < m → Mid 60000 1 (LF m lo hi ss i) := fun i hi => (hb i hi).1.mid
  have hH : ∀ i, i < m → Mid 60000 1 (HF m lo hi ss i) := fun i hi => (hb i hi).2.1.mid
  have hrg := fun s => regrets_ev m (LF m lo hi ss) (HF m lo hi ss) s (by omega) hL hH
  have hOf := fun w p v s hw => regretOf_ev m w p (LF m lo hi ss) (HF m lo hi ss) v s (by omega) hw hL hH
  have hmr := fun w (hw : w < m) => reg_mid (n := m) (L := LF m lo hi ss) (H := HF m lo hi ss) (by omega) hw hL hH
  have hwk := (bOk m (bndN m lo hi ss).1 (bndN m lo hi ss).2).wk
  have hRF : regF m (LF m lo hi ss) (HF m lo hi ss) = RF m lo hi ss := rfl
  change ∀ s, Ev TT 64 [.agg (bcells m (bndN m lo hi ss).1 (bndN m lo hi ss).2).toArray] s _ at hrg
  rw [hRF] at hmr
  simp only [hRF] at hOf
  generalize hR : RF m lo hi ss = R at *
  generalize bcells m (bndN m lo hi ss).1 (bndN m lo hi ss).2 = BC at *
  apply zz
  refine Cd.ra (h := ?_)
  apply Run.by_eq
  · intro self
    conv => lhs; simp -implicitDefEqProofs (maxSteps := 300000) (disch := omega) [-getElem?_pos, -getElem?_neg]
  try (with_reducible refine Run.ret ?_)
  apply zz
  apply Cd.ite rfl
  · conv => lhs; simp -implicitDefEqProofs (maxSteps := 300000) (disch := omega) [-getElem?_pos, -getElem?_neg]
  all_goals intro c0
  all_goals try (cases c0; done)
  all_goals try simp only [Bool.not_eq_true', Bool.not_eq_false', decide_eq_true_eq, decide_eq_false_iff_not] at c0
  all_goals apply zz
  apply zz
  refine Cd.ra (h := ?_)
  apply Run.by_eq
  · intro self
    conv => lhs; simp -implicitDefEqProofs (maxSteps := 300000) (disch := omega) [-getElem?_pos, -getElem?_neg, b1, b2, b3]
  try (with_reducible refine Run.ret ?_)
  apply zz
  refine Run.call ((hrg _).mono fun v wz hv => ?_)
  obtain ⟨z, p, vv, rfl, hp1, hp2, hp3, hp4⟩ := hv
  have za := z.1
  have zb := z.2
  try simp only [pushed_next', upded_next'] at za zb hp1
  have z0 : wz.heap.get wy.next = some (.cells BC none) := by rw [zb _ (by omega)]; simp -implicitDefEqProofs (disch := omega)
  apply Run.by_eq
  · intro self
    conv => lhs; simp -implicitDefEqProofs (maxSteps := 300000) (disch := omega) [-getElem?_pos, -getElem?_neg]
  try (with_reducible refine Run.ret ?_)
  apply zz
  refine Cd.ra (h := ?_)
  apply Run.by_eq
  · intro self
    conv => lhs; simp -implicitDefEqProofs (maxSteps := 300000) (disch := omega) [-getElem?_pos, -getElem?_neg]
  try (with_reducible refine Run.ret ?_)
  apply zz
  refine Run.call ((hOf 0 p vv _ (by omega) hp2 hp3 hp4).mono fun v wu hv => ?_)
  obtain ⟨rfl, u⟩ := hv
  have ua := u.1
  have ub := u.2
  have u0 := (ub _ (by omega)).trans z0
  apply Run.by_eq
  · intro self
    conv => lhs; simp -implicitDefEqProofs (maxSteps := 300000) (disch := omega) [-getElem?_pos, -getElem?_neg, v_eq]
  try (with_reducible refine Run.ret ?_)
  apply zz
  refine Cd.ra (h := ?_)
  apply Run.by_eq
  · intro self
    conv => lhs; simp -implicitDefEqProofs (maxSteps := 300000) (disch := omega) [-getElem?_pos, -getElem?_neg]
  try (with_reducible refine Run.ret ?_)
  apply zz
  refine Cd.inv (fun z f s' => ∃ k : Nat, k + 1 ≤ m ∧ z = m - (k + 1) ∧ f.marks = [] ∧ f.get 2 = .int .i64 (bestI R k : Nat) ∧ f.get 5 = .pointer (some ⟨wy.next, 0, none⟩) ∧ f.get 6 = .func (.func 81) #[] #[.pointer (some ⟨p, 0, none⟩)] ∧ f.get 7 = .pointer (some ⟨wu.next, 0, none⟩) ∧ f.get 8 = .int .i64 (k + 1 : Nat) ∧ Keep wu s' ∧ wu.next < s'.next ∧ s'.heap.get wu.next = some (.cells [.int .i64 (R (bestI R k)).o, .int .i64 (R (bestI R k)).u] none)) (m - 1) ?_ ?_
  · exact ⟨0, by omega, rfl, by simp, by simp [bestI], by simp, by simp, by simp, by simp, ⟨by (try simp only [pushed_next', upded_next']); omega, fun i hi => by simp -implicitDefEqProofs (disch := omega) []⟩, by simp, by simp -implicitDefEqProofs (disch := omega) [bestI]⟩
  rintro zz0 f s1 ⟨k, hk, rfl, hmk, g2, g5, g6, g7, g8, hkp, hnx, hg⟩
  have hkpa := hkp.1
  have hkpb := hkp.2
  have hg0 := (hkpb _ (by omega)).trans u0
  have hbl := bestI_le R k
  have hmb := hmr (bestI R k) (by omega)
  by_cases hlt : k + 1 < m
  · have hst : bestI R (k + 1) = if aboveB (R (bestI R k)) (R (k + 1)) = true then k + 1 else bestI R k := rfl
    have hmk1 := hmr (k + 1) hlt
    have hOk := fun s' => hOf (k + 1) p vv s' hlt
    have hfit := hmk1.1.fits hmb.1 (by decide)
    generalize hK : k + 1 = k1 at *
    have hlt' : (k1 : Int) < m := by omega
    apply zz
    refine Cd.ra (h := ?_)
    apply Run.by_eq
    · intro self
      conv => lhs; simp -implicitDefEqProofs (maxSteps := 300000) (disch := omega) [-getElem?_pos, -getElem?_neg, g8, g5, hg0, hwk, hlt']
    try (with_reducible refine Run.ret ?_)
    apply zz
    apply Cd.ite rfl
    · conv => lhs; simp -implicitDefEqProofs (maxSteps := 300000) (disch := omega) [-getElem?_pos, -getElem?_neg]
    all_goals intro c1
    all_goals try (cases c1; done)
    all_goals try simp only [Bool.not_eq_true', Bool.not_eq_false', decide_eq_true_eq, decide_eq_false_iff_not] at c1
    all_goals apply zz
    apply zz
    refine Cd.ra (h := ?_)
    apply Run.by_eq
    · intro self
      conv => lhs; simp -implicitDefEqProofs (maxSteps := 300000) (disch := omega) [-getElem?_pos, -getElem?_neg, g6, g8]
    try (with_reducible refine Run.ret ?_)
    apply zz
    refine Run.call ((hOk _ (by omega) ((hkpb _ (by omega)).trans ((ub _ hp2).trans hp3)) (hp4.keep (u.trans hkp))).mono fun v wx hv => ?_)
    obtain ⟨rfl, x⟩ := hv
    have xa := x.1
    have xb := x.2
    have x1 := (xb _ hnx).trans hg
    apply Run.by_eq
    · intro self
      conv => lhs; simp -implicitDefEqProofs (maxSteps := 300000) (disch := omega) [-getElem?_pos, -getElem?_neg, v_eq]
    try (with_reducible refine Run.ret ?_)
    apply zz
    refine Cd.ra (h := ?_)
    apply Run.by_eq
    · intro self
      conv => lhs; simp -implicitDefEqProofs (maxSteps := 300000) (disch := omega) [-getElem?_pos, -getElem?_neg, g7, x1]
    try (with_reducible refine Run.ret ?_)
    apply zz
    rw [← v_eq, ← v_eq]
    refine Run.call ((below_ev (R k1) (R (bestI R k)) _ hfit).mono fun v wt hv => ?_)
    obtain ⟨rfl, t⟩ := hv
    have ta := t.1
    have tb := t.2
    try simp only [pushed_next', upded_next'] at ta tb
    have t1 : wt.heap.get wu.next = some (.cells [.int .i64 (R (bestI R k)).o, .int .i64 (R (bestI R k)).u] none) := by rw [tb _ (by (try simp only [pushed_next', upded_next']); omega)]; simp -implicitDefEqProofs (disch := omega) [x1]
    have t2 : wt.heap.get wx.next = some (.cells [.int .i64 (R k1).o, .int .i64 (R k1).u] none) := by rw [tb _ (by (try simp only [pushed_next', upded_next']); omega)]; simp -implicitDefEqProofs (disch := omega)
    have kt : Keep wu wt := ⟨by (try simp only [pushed_next', upded_next'] at *); omega, fun i hi => by rw [tb i (by (try simp only [pushed_next', upded_next']); omega)]; simp -implicitDefEqProofs (disch := omega) [xb, hkpb]⟩
    have ktn : wx.next + 1 ≤ wt.next := by (try simp only [pushed_next', upded_next'] at *); omega
    cases hab : aboveB (R (bestI R k)) (R k1) with
    | true =>
      rw [hab, if_pos rfl] at hst
      apply Run.by_eq
      · intro self
        conv => lhs; simp -implicitDefEqProofs (maxSteps := 300000) (disch := omega) [-getElem?_pos, -getElem?_neg]
      try (with_reducible refine Run.ret ?_)
      apply zz
      apply Cd.ite rfl
      · conv => lhs; simp -implicitDefEqProofs (maxSteps := 300000) (disch := omega) [-getElem?_pos, -getElem?_neg]
      all_goals intro c2
      all_goals try (cases c2; done)
      all_goals try simp only [Bool.not_eq_true', Bool.not_eq_false', decide_eq_true_eq, decide_eq_false_iff_not] at c2
      all_goals apply zz
      apply zz
      refine Cd.drawn (pl := [(0, 0, false, false), (1, 0, false, false), (2, 1, false, false), (3, 7, true, false)]) (by kernel_rfl) (by conv => lhs; simp only [List.map_cons, List.map_nil]) (by conv => lhs; simp [strip, ordered]) ?_
      apply Run.by_eq
      · intro self
        conv => lhs; simp -implicitDefEqProofs (maxSteps := 300000) (disch := omega) [filter_bt, (show ∀ i, Nat.testBit 7 i = decide (i < 3) from fun i => Nat.testBit_two_pow_sub_one 3 i), -getElem?_pos, -getElem?_neg, g8, g7, t1, t2]
      try (with_reducible refine Run.ret ?_)
      apply zz
      refine Cd.ra (h := ?_)
      apply Run.by_eq
      · intro self
        conv => lhs; simp -implicitDefEqProofs (maxSteps := 300000) (disch := omega) [-getElem?_pos, -getElem?_neg, g8]
      try (with_reducible refine Run.ret ?_)
      apply zz
      refine LoopK.nm (m - (k1 + 1)) (by omega) ⟨k1, by omega, rfl, by simp [hmk], ?_, by simp [g5], by simp [g6], by simp [g7], by simp, ⟨by (try simp only [upded_next']); omega, fun i hi => by rw [get_upded_other _ _ _ _ (by omega)]; exact kt.2 i hi⟩, by (try simp only [upded_next']); omega, ?_⟩
      · rw [hst]; simp
      · rw [hst]; simp -implicitDefEqProofs (disch := omega)
    | false =>
      rw [hab, if_neg (by decide)] at hst
      apply Run.by_eq
      · intro self
        conv => lhs; simp -implicitDefEqProofs (maxSteps := 300000) (disch := omega) [-getElem?_pos, -getElem?_neg]
      try (with_reducible refine Run.ret ?_)
      apply zz
      apply Cd.ite rfl
      · conv => lhs; simp -implicitDefEqProofs (maxSteps := 300000) (disch := omega) [-getElem?_pos, -getElem?_neg]
      all_goals intro c2
      all_goals try (cases c2; done)
      all_goals try simp only [Bool.not_eq_true', Bool.not_eq_false', decide_eq_true_eq, decide_eq_false_iff_not] at c2
      all_goals apply zz
      apply zz
      refine Cd.ra (h := ?_)
      apply Run.by_eq
      · intro self
        conv => lhs; simp -implicitDefEqProofs (maxSteps := 300000) (disch := omega) [-getElem?_pos, -getElem?_neg, g8]
      try (with_reducible refine Run.ret ?_)
      apply zz
      refine LoopK.nm (m - (k1 + 1)) (by omega) ⟨k1, by omega, rfl, by simp [hmk], ?_, by simp [g5], by simp [g6], by simp [g7], by simp, kt, by omega, ?_⟩
      · rw [hst]; simp [g2]
      · rw [hst]; exact t1
  · obtain rfl : m = k + 1 := by omega
    simp only [Nat.add_sub_cancel]
    generalize bestI R k = B at *
    unfold Mid at hmb
    apply zz
    refine Cd.ra (h := ?_)
    apply Run.by_eq
    · intro self
      conv => lhs; simp -implicitDefEqProofs (maxSteps := 300000) (disch := omega) [-getElem?_pos, -getElem?_neg, g8, g5, hg0, hwk]
    try (with_reducible refine Run.ret ?_)
    apply zz
    apply Cd.ite rfl
    · conv => lhs; simp -implicitDefEqProofs (maxSteps := 300000) (disch := omega) [-getElem?_pos, -getElem?_neg]
    all_goals intro c1
    all_goals try (cases c1; done)
    all_goals try simp only [Bool.not_eq_true', Bool.not_eq_false', decide_eq_true_eq, decide_eq_false_iff_not] at c1
    all_goals apply zz
    apply zz
    refine Cd.ra (h := ?_)
    apply Run.by_eq
    · intro self
      conv => lhs; simp -implicitDefEqProofs (maxSteps := 300000) (disch := omega) [-getElem?_pos, -getElem?_neg, g2, g7, hg]
    try (with_reducible refine Run.ret ?_)
    apply zz
    rw [← v_eq]
    refine Run.call ((up_ev (R B) _ hmb.2 hmb.1.2.1 (by omega) (by omega)).mono fun v wt hv => ?_)
    obtain ⟨rfl, t⟩ := hv
    have ta := t.1
    have tb := t.2
    try simp only [pushed_next', upded_next'] at ta tb
    apply Run.by_eq
    · intro self
      conv => lhs; simp -implicitDefEqProofs (maxSteps := 300000) (disch := omega) [-getElem?_pos, -getElem?_neg]
    try (with_reducible refine Run.ret ?_)
    apply zz
    apply Leave.mk (by first | exact .inl rfl | exact .inr rfl) (by simp only [Fr.marks_put, fr0_marks, hmk])
    · conv => lhs; simp -implicitDefEqProofs (disch := omega) [Try.results31, hmk]
    exact ⟨⟨by omega, fun i hi => by rw [tb i (by omega), hkpb i (by omega), ub i (by omega), zb i (by omega)]; simp -implicitDefEqProofs (disch := omega) [yb]⟩, _, _, _, rfl, .inr (.inr ⟨h1, rfl, ⟨rfl, rfl⟩, hc⟩)⟩
end Go.Proofs.Ytnhokodcmeekhaa
namespace Go.Proofs.Ytnhokodcmeekhaa
open Go Kern
/-! The reference's regret -/
def gcB (p w i : Nat) : Bool := (decide (i ≤ p) && decide (p < w)) || (decide (p ≤ i) && decide (w < p))
def givenL (L : Nat → Frac) (p w : Nat) (t : Frac) (k : Nat) : List Frac := ((List.range k).filter (gcB p w)).map fun (i : Nat) => lineF (i : Int) (L i) w t p
def givenF (n : Nat) (L : Nat → Frac) (p w : Nat) (t : Frac) : Frac := if p = w then t else foreF aboveB (lowF n L p) (givenL L p w t n)
end Go.Proofs.Ytnhokodcmeekhaa
namespace Go.Proofs.Ytnhokodcmeekhaa
open Go Kern
/-! The reference's Regret and Cut -/
def rlossF (n : Nat) (L H : Nat → Frac) (p w : Nat) : Frac := minusF (rupF n L H w) (givenF n L p w (rupF n L H w))
def rregF (n : Nat) (L H : Nat → Frac) (p : Nat) : Frac := foreF aboveB ⟨0, 1⟩ ((List.range n).map (rlossF n L H p))
end Go.Proofs.Ytnhokodcmeekhaa
namespace Go.Proofs.Ytnhokodcmeekhaa
open Go Kern
/-! Both regrets are worth the same -/
def Eqv (x y : Frac) : Prop := LeF x y ∧ LeF y x
theorem Eqv.refl (x : Frac) : Eqv x x := ⟨LeF.refl x, LeF.refl x⟩
theorem Eqv.symm {x y : Frac} (h : Eqv x y) : Eqv y x := ⟨h.2, h.1⟩
theorem Eqv.of {x y : Frac} (h : x.o * y.u = y.o * x.u) : Eqv x y := ⟨Int.le_of_eq h, Int.le_of_eq h.symm⟩
theorem line_swap (i w p : Int) (x y : Frac) (h : i ≠ w) : lineF i x w y p = lineF w y i x p := by
  unfold lineF
  by_cases h1 : w < i
  · rw [if_pos h1, if_neg (by omega)]
  · rw [if_neg h1, if_pos (by omega)]
theorem key_lines {Li Lk Lf Hn a b w k i : Int} (hab : a < b) (hbw : b < w) (hwk : w < k) (hiw : i < w) (F1 : Lf * (k - b) + Lk * (b - a) ≤ Hn * (k - a)) (F2 : b < i → Lf * (i - b) + Li * (b - a) ≤ Hn * (i - a)) (F3 : i ≤ b → Li * (k - b) + Lk * (b - i) ≤ Hn * (k - i)) :
    (Li * (k - w) + Lk * (w - i)) * (b - a) ≤ (Lf * (b - w) + Hn * (w - a)) * (k - i) := by
  have f1 : 0 ≤ Hn * (k - a) - (Lf * (k - b) + Lk * (b - a)) := by omega
  by_cases h : b < i
  · have f2 : 0 ≤ Hn * (i - a) - (Lf * (i - b) + Li * (b - a)) := by have := F2 h; omega
    have g1 := Int.mul_nonneg (show 0 ≤ w - i by omega) f1
    have g2 := Int.mul_nonneg (show 0 ≤ k - w by omega) f2
    have e : (Lf * (b - w) + Hn * (w - a)) * (k - i) - (Li * (k - w) + Lk * (w - i)) * (b - a) = (w - i) * (Hn * (k - a) - (Lf * (k - b) + Lk * (b - a))) + (k - w) * (Hn * (i - a) - (Lf * (i - b) + Li * (b - a))) := by grind
    omega
  · have f3 : 0 ≤ Hn * (k - i) - (Li * (k - b) + Lk * (b - i)) := by have := F3 (by omega); omega
    have g1 := Int.mul_nonneg (Int.mul_nonneg (show 0 ≤ w - b by omega) (show 0 ≤ k - i by omega)) f1
    have g3 := Int.mul_nonneg (Int.mul_nonneg (show 0 ≤ b - a by omega) (show 0 ≤ k - w by omega)) f3
    have e : (k - b) * ((Lf * (b - w) + Hn * (w - a)) * (k - i) - (Li * (k - w) + Lk * (w - i)) * (b - a)) = (b - a) * (k - w) * (Hn * (k - i) - (Li * (k - b) + Lk * (b - i))) + (w - b) * (k - i) * (Hn * (k - a) - (Lf * (k - b) + Lk * (b - a))) := by grind
    have h0 : 0 ≤ (k - b) * ((Lf * (b - w) + Hn * (w - a)) * (k - i) - (Li * (k - w) + Lk * (w - i)) * (b - a)) := by omega
    have := Int.nonneg_of_mul_nonneg_right h0 (by omega)
    omega
/-- What no clash says, in numbers. -/
theorem nocl_num {m : Nat} {L H : Nat → Frac} (hW : ∀ w, w < m → (L w).u = 1 ∧ (H w).u = 1) (hall : ∀ i j k, i < m → j < m → k < m → clashB L H i j k = false) {i j k : Nat} (hk : k < m) (hij : i < j) (hjk : j < k) : (L i).o * ((k : Int) - j) + (L k).o * ((j : Int) - i) ≤ (H j).o * ((k : Int) - i) := by
  have h0 := hall i j k (by omega) (by omega) hk
  unfold clashB at h0
  rw [if_neg (by omega), decide_eq_true hij, decide_eq_true hjk, Bool.true_and, Bool.true_and, above_not] at h0
  unfold lineF lineO at h0
  rw [if_neg (by omega)] at h0
  simp only [(hW i (by omega)).1, (hW k hk).1, (hW j (by omega)).2, Int.mul_one, Int.one_mul] at h0
  omega
theorem nocl_one {m : Nat} {L H : Nat → Frac} (hW : ∀ w, w < m → (L w).u = 1 ∧ (H w).u = 1) (hall : ∀ i j k, i < m → j < m → k < m → clashB L H i j k = false) {j : Nat} (hj : j < m) : (L j).o ≤ (H j).o := by
  have h0 := hall j j j hj hj hj
  unfold clashB at h0
  rw [if_pos ⟨rfl, rfl⟩, above_not] at h0
  simp only [(hW j hj).1, (hW j hj).2, Int.mul_one] at h0
  exact h0
/-- No line across a week lies above the greatest sweetness. -/
theorem across_le_up {m w i k : Nat} {L H : Nat → Frac} (hW : ∀ w, w < m → (L w).u = 1 ∧ (H w).u = 1) (hall : ∀ i j k, i < m → j < m → k < m → clashB L H i j k = false) (hi : i < w) (hk : w < k) (hkm : k < m) : LeF (lineF i (L i) k (L k) w) (upF m L H w) := by
  have hline : lineF i (L i) k (L k) w = ⟨(L i).o * ((k : Int) - w) + (L k).o * ((w : Int) - i), (k : Int) - i⟩ := by
    unfold lineF lineO
    rw [if_neg (by omega)]
    simp only [(hW i (by omega)).1, (hW k hkm).1, Int.mul_one, Int.one_mul]
  unfold upF
  rcases foreF_mem (bf := belowB) (H w) ((towardL m w).map fun p => lineF p.1 (L p.1) p.2 (H p.2) w) with e | e
  · rw [e, hline]
    have := nocl_num hW hall hkm hi hk
    unfold LeF
    rw [(hW w (by omega)).2]
    simp only [Int.mul_one]
    exact this
  · obtain ⟨⟨a, b⟩, hp, hx⟩ := List.mem_map.1 e
    rw [← hx, hline]
    have hm := toward_mem.1 hp
    simp only [] at hm ⊢
    obtain ⟨ha, hm | hm⟩ := hm
    · have F1 := nocl_num hW hall hkm hm.1 (show b < k by omega)
      have F2 : (b : Int) < i → (L a).o * ((i : Int) - b) + (L i).o * ((b : Int) - a) ≤ (H b).o * ((i : Int) - a) := fun h => nocl_num hW hall (by omega) hm.1 (by omega)
      have F3 : (i : Int) ≤ b → (L i).o * ((k : Int) - b) + (L k).o * ((b : Int) - i) ≤ (H b).o * ((k : Int) - i) := fun h => by
        by_cases hib : i = b
        · subst hib
          have := nocl_one hW hall (j := i) (by omega)
          have := Int.mul_le_mul_of_nonneg_right this (show (0 : Int) ≤ (k : Int) - i by omega)
          rw [Int.sub_self, Int.mul_zero, Int.add_zero]; exact this
        · exact nocl_num hW hall hkm (by omega) (by omega)
      have hK := key_lines (by omega) (by omega) (by omega) (by omega) F1 F2 F3 (w := w)
      unfold lineF lineO LeF
      rw [if_neg (by omega)]
      simp only [(hW a ha).1, (hW b (by omega)).2, Int.mul_one, Int.one_mul]
      exact hK
    · have F1 : (L a).o * (-(i : Int) - -(b : Int)) + (L i).o * (-(b : Int) - -(a : Int)) ≤ (H b).o * (-(i : Int) - -(a : Int)) := by
        have := nocl_num hW hall ha (show i < b by omega) hm.2
        rw [show -(i : Int) - -(b : Int) = b - i by omega, show -(b : Int) - -(a : Int) = a - b by omega, show -(i : Int) - -(a : Int) = a - i by omega]; omega
      have F2 : -(b : Int) < -(k : Int) → (L a).o * (-(k : Int) - -(b : Int)) + (L k).o * (-(b : Int) - -(a : Int)) ≤ (H b).o * (-(k : Int) - -(a : Int)) := fun h => by
        have := nocl_num hW hall ha (show k < b by omega) hm.2
        rw [show -(k : Int) - -(b : Int) = b - k by omega, show -(b : Int) - -(a : Int) = a - b by omega, show -(k : Int) - -(a : Int) = a - k by omega]; omega
      have F3 : -(k : Int) ≤ -(b : Int) → (L k).o * (-(i : Int) - -(b : Int)) + (L i).o * (-(b : Int) - -(k : Int)) ≤ (H b).o * (-(i : Int) - -(k : Int)) := fun h => by
        rw [show -(i : Int) - -(b : Int) = b - i by omega, show -(b : Int) - -(k : Int) = k - b by omega, show -(i : Int) - -(k : Int) = k - i by omega]
        by_cases hkb : k = b
        · subst hkb
          have := nocl_one hW hall (j := k) (by omega)
          have := Int.mul_le_mul_of_nonneg_right this (show (0 : Int) ≤ (k : Int) - i by omega)
          rw [Int.sub_self, Int.mul_zero, Int.add_zero]; exact this
        · have := nocl_num hW hall hkm (show i < b by omega) (show b < k by omega)
          omega
      have hK := key_lines (by omega) (by omega) (by omega) (by omega) F1 F2 F3 (w := -(w : Int))
      unfold lineF lineO LeF
      rw [if_pos (by omega)]
      simp only [(hW a ha).1, (hW b (by omega)).2, Int.mul_one, Int.one_mul]
      rw [show -(i : Int) - -(w : Int) = w - i by omega, show -(w : Int) - -(k : Int) = k - w by omega, show -(b : Int) - -(a : Int) = a - b by omega, show -(b : Int) - -(w : Int) = w - b by omega, show -(w : Int) - -(a : Int) = a - w by omega, show -(i : Int) - -(k : Int) = k - i by omega] at hK
      rw [Int.add_comm ((L i).o * ((k : Int) - w)), Int.add_comm ((H b).o * ((a : Int) - w))]
      exact hK
end Go.Proofs.Ytnhokodcmeekhaa
namespace Go.Proofs.Ytnhokodcmeekhaa
open Go Kern
theorem fore_le {fs : List Frac} {a b : Frac} (ha : LeF a b) (h : ∀ x ∈ fs, LeF x b) : LeF (foreF aboveB a fs) b := by
  rcases foreF_mem (bf := aboveB) a fs with e | e
  · rw [e]; exact ha
  · exact h _ e
/-- What holds of lows and highs without a clash. -/
structure NoCl (m : Nat) (L H : Nat → Frac) : Prop where
  u : ∀ w, w < m → (L w).u = 1 ∧ (H w).u = 1
  all : ∀ i j k, i < m → j < m → k < m → clashB L H i j k = false
theorem NoCl.pos {m : Nat} {L H : Nat → Frac} (h : NoCl m L H) : (∀ i, i < m → 0 < (L i).u) ∧ ∀ i, i < m → 0 < (H i).u := ⟨fun i hi => by rw [(h.u i hi).1]; decide, fun i hi => by rw [(h.u i hi).2]; decide⟩
theorem NoCl.none {m : Nat} {L H : Nat → Frac} (h : NoCl m L H) : ∀ w, w < m → NoneIn m (clashB L H) w := fun w hw => ⟨h.all w w w hw hw hw, fun i k hi hk hkm => h.all i w k (by omega) hw hkm⟩
end Go.Proofs.Ytnhokodcmeekhaa
namespace Go.Proofs.Ytnhokodcmeekhaa
open Go Kern
/-! The reference's Regret and Cut, as the program's -/
abbrev RR (m : Nat) (lo hi : Int) (ss : List SampD) : Nat → Frac := rregF m (wF (LR lo hi ss)) (wF (HR lo hi ss))
end Go.Proofs.Ytnhokodcmeekhaa
namespace Go.Proofs.Ytnhokodcmeekhaa
open Go Kern
/-! The examples of the chapter -/
def ssF : List SampD := [⟨0, 1000, 20⟩, ⟨2, 1400, 20⟩, ⟨4, 1200, 30⟩]
def ssZ : List SampD := [⟨0, 1000, 20⟩, ⟨2, 900, 10⟩, ⟨4, 1200, 30⟩]
theorem errF : fieldErr 5 0 2000 ssF = 0 := by kernel_rfl
theorem errZ : fieldErr 5 0 2000 ssZ = 0 := by kernel_rfl
theorem noclF : ∀ i j k, i < 5 → j < 5 → k < 5 → hB 0 2000 ssF i j k = false := by
  have h : ((List.range 5).all fun i => (List.range 5).all fun j => (List.range 5).all fun k => !hB 0 2000 ssF i j k) = true := by kernel_rfl
  intro i j k hi hj hk
  have h1 := List.all_eq_true.1 h i (by simpa using hi)
  have h2 := List.all_eq_true.1 h1 j (by simpa using hj)
  have h3 := List.all_eq_true.1 h2 k (by simpa using hk)
  simpa using h3
theorem clZ : hB 0 2000 ssZ 0 2 4 = true := by kernel_rfl
theorem rowsF : (List.range 5).map (knownRow 5 0 2000 ssF) = ([(980, 1020), (1180, 1545), (1380, 1420), (1275, 1640), (1170, 1230)] : List (Int × Int)).map spP := by kernel_rfl
theorem peaksF : wkL 5 (fromB (UF 5 0 2000 ssF) (topF 5 (LF 5 0 2000 ssF))) = [1, 2, 3] := by kernel_rfl
theorem surelyF : wkL 5 (fromB (WF 5 0 2000 ssF) ⟨limI 1300, 1⟩) = [2] := by kernel_rfl
theorem perhapsF : wkL 5 (fromB (UF 5 0 2000 ssF) ⟨limI 1300, 1⟩) = [1, 2, 3] := by kernel_rfl
theorem regF3 : ceF (RF 5 0 2000 ssF 3) = 250 := by kernel_rfl
theorem cutF1 : bestI (RF 5 0 2000 ssF) 4 = 2 := by kernel_rfl
theorem cutF2 : ceF (RF 5 0 2000 ssF 2) = 220 := by kernel_rfl
theorem verZ : verF 5 0 2000 ssZ [0, 2, 4] = 0 := by kernel_rfl
theorem verFF : verF 5 0 2000 ssF [0, 2, 4] = 11 := by kernel_rfl
theorem Ans.F {e : Int} {bad good : Prop} (h : Ans 5 0 2000 ssF e bad good) : e = 0 ∧ good := by
  rcases h with ⟨h, _⟩ | ⟨_, _, _, i, j, k, hi, hj, hk, h⟩ | ⟨_, h, g, _⟩
  · exact absurd errF h
  · rw [noclF i j k hi hj hk] at h; cases h
  · exact ⟨h, g⟩
theorem known_F {w : Value} {e : Int} {s : St} (h : KnownA 5 0 2000 ssF w e s) : e = 0 ∧ SpAt s w [(980, 1020), (1180, 1545), (1380, 1420), (1275, 1640), (1170, 1230)] := by
  rcases h with ⟨h, _⟩ | ⟨_, _, _, i, j, k, hi, hj, hk, h⟩ | ⟨_, h, g, _⟩
  · exact absurd errF h
  · rw [noclF i j k hi hj hk] at h; cases h
  · refine ⟨h, ?_⟩
    have : (List.range (5 : Int).toNat).map (knownRow (5 : Int).toNat 0 2000 ssF) = _ := rowsF
    rw [this] at g; exact g
theorem known_Z {w : Value} {e : Int} {s : St} (h : KnownA 5 0 2000 ssZ w e s) : e = 12 ∧ w = .slice none 0 0 := by
  rcases h with ⟨h, _⟩ | ⟨_, h, g, _⟩ | ⟨_, _, _, h⟩
  · exact absurd errZ h
  · exact ⟨h, g⟩
  · have := h 0 2 4 (by decide) (by decide) (by decide); rw [clZ] at this; cases this
theorem clash_Z {w : Value} {e : Int} {s : St} (h : ClashA (fieldErr 5 0 2000 ssZ) (5 : Int).toNat (hB 0 2000 ssZ) w e s) : e = 0 ∧ Trip 5 (hB 0 2000 ssZ) w s := by
  rcases h with ⟨h, _⟩ | ⟨_, _, _, h⟩ | ⟨_, h, g⟩
  · exact absurd errZ h
  · have := h 0 2 4 (by decide) (by decide) (by decide); rw [clZ] at this; cases this
  · exact ⟨h, g⟩
theorem reg_F {r e : Int} (h : RegA 5 0 2000 ssF 3 r e) : e = 0 ∧ r = 250 := by
  rcases h with ⟨h, _⟩ | ⟨_, _, _, i, j, k, hi, hj, hk, h⟩ | ⟨_, h, _⟩
  · exact absurd errF h
  · rw [noclF i j k hi hj hk] at h; cases h
  · rcases h with ⟨h, _⟩ | ⟨_, h, g⟩
    · cases h
    · exact ⟨h, g.trans regF3⟩
set_option maxRecDepth 100000 in
theorem span_ev (a b : Int) (s : St) : Ev TT 37 [.int .i64 a, .int .i64 b] s fun r s' => r = .agg #[.int .i64 a, .int .i64 b] ∧ Keep s s' := by
  refine Ev.intro (fn := Try.f37) rfl (by kernel_rfl) rfl rfl ?_
  apply zz
  refine Cd.ra (h := ?_)
  apply Run.by_eq
  · intro self
    conv => lhs; simp -implicitDefEqProofs (maxSteps := 300000) (disch := omega) [-getElem?_pos, -getElem?_neg]
  try (with_reducible refine Run.ret ?_)
  apply zz
  refine Cd.ra (h := ?_)
  apply Run.by_eq
  · intro self
    conv => lhs; simp -implicitDefEqProofs (maxSteps := 300000) (disch := omega) [-getElem?_pos, -getElem?_neg]
  try (with_reducible refine Run.ret ?_)
  apply zz
  apply Leave.mk (by first | exact .inl rfl | exact .inr rfl) (by simp only [Fr.marks_put, fr0_marks])
  · conv => lhs; simp -implicitDefEqProofs (disch := omega) [Try.results37]
  exact ⟨rfl, ⟨by (try simp only [pushed_next', upded_next']); omega, fun i hi => by simp -implicitDefEqProofs (disch := omega) []⟩⟩
def csF : List Value := [.int .i64 0, .int .i64 1000, .int .i64 20, .int .i64 2, .int .i64 1400, .int .i64 20, .int .i64 4, .int .i64 1200, .int .i64 30]
def csZ : List Value := [.int .i64 0, .int .i64 1000, .int .i64 20, .int .i64 2, .int .i64 900, .int .i64 10, .int .i64 4, .int .i64 1200, .int .i64 30]
set_option maxRecDepth 100000 in
set_option maxHeartbeats 1000000 in
theorem F_ev (s : St) : Ev TT 38 [] s fun r s' => Keep s s' ∧ ∃ b, r = .agg #[.int .i64 5, .int .i64 0, .int .i64 2000, .slice (some ⟨b, 0, none⟩) 3 3] ∧ s.next ≤ b ∧ b < s'.next ∧ s'.heap.get b = some (.cells csF none) := by
  refine Ev.intro (fn := Try.f38) rfl (by kernel_rfl) rfl rfl ?_
  apply zz
  refine Cd.ra (h := ?_)
  apply Run.by_eq
  · intro self
    conv => lhs; simp -implicitDefEqProofs (maxSteps := 300000) (disch := omega) [-getElem?_pos, -getElem?_neg]
  try (with_reducible refine Run.ret ?_)
  apply zz
  refine Cd.ra (h := ?_)
  apply Run.by_eq
  · intro self
    conv => lhs; simp -implicitDefEqProofs (maxSteps := 300000) (disch := omega) [-getElem?_pos, -getElem?_neg]
  try (with_reducible refine Run.ret ?_)
  apply zz
  refine Run.call ((span_ev 0 2000 _).mono fun v wy hv => ?_)
  obtain ⟨rfl, y⟩ := hv
  have ya := y.1
  have yb := y.2
  try simp only [pushed_next', upded_next'] at ya yb
  have y0 : wy.heap.get s.next = some (.cells [.int .i64 0, .int .i64 0, .int .i64 0, .slice none 0 0] none) := by rw [yb _ (by omega)]; simp -implicitDefEqProofs (disch := omega)
  have hr3 : repeatL [Value.int .i64 0, .int .i64 0, .int .i64 0] 3 = [.int .i64 0, .int .i64 0, .int .i64 0, .int .i64 0, .int .i64 0, .int .i64 0, .int .i64 0, .int .i64 0, .int .i64 0] := rfl
  have hp1 : overL [Value.int .i64 0, .int .i64 1000, .int .i64 20] [.int .i64 0, .int .i64 0, .int .i64 0, .int .i64 0, .int .i64 0, .int .i64 0, .int .i64 0, .int .i64 0, .int .i64 0] = some [.int .i64 0, .int .i64 1000, .int .i64 20, .int .i64 0, .int .i64 0, .int .i64 0, .int .i64 0, .int .i64 0, .int .i64 0] := rfl
  have hp2 : putL 3 [Value.int .i64 2, .int .i64 1400, .int .i64 20] [.int .i64 0, .int .i64 1000, .int .i64 20, .int .i64 0, .int .i64 0, .int .i64 0, .int .i64 0, .int .i64 0, .int .i64 0] = some [.int .i64 0, .int .i64 1000, .int .i64 20, .int .i64 2, .int .i64 1400, .int .i64 20, .int .i64 0, .int .i64 0, .int .i64 0] := rfl
  have hp3 : putL 6 [Value.int .i64 4, .int .i64 1200, .int .i64 30] [.int .i64 0, .int .i64 1000, .int .i64 20, .int .i64 2, .int .i64 1400, .int .i64 20, .int .i64 0, .int .i64 0, .int .i64 0] = some [.int .i64 0, .int .i64 1000, .int .i64 20, .int .i64 2, .int .i64 1400, .int .i64 20, .int .i64 4, .int .i64 1200, .int .i64 30] := rfl
  apply Run.by_eq
  · intro self
    conv => lhs; simp -implicitDefEqProofs (maxSteps := 300000) (disch := omega) [-getElem?_pos, -getElem?_neg, y0, hr3, hp1, hp2, hp3]
  try (with_reducible refine Run.ret ?_)
  apply zz
  apply Leave.mk (by first | exact .inl rfl | exact .inr rfl) (by simp only [Fr.marks_put, fr0_marks])
  · conv => lhs; simp -implicitDefEqProofs (disch := omega) [Try.results38]
  refine ⟨⟨by (try simp only [pushed_next', upded_next']); omega, fun i hi => by simp -implicitDefEqProofs (disch := omega) [yb]⟩, wy.next, rfl, by omega, by simp, ?_⟩
  unfold csF
  simp -implicitDefEqProofs (disch := omega)
theorem smF {s : St} {b : Nat} (h : b < s.next) (hg : s.heap.get b = some (.cells csF none)) : SmAt s (.slice (some ⟨b, 0, none⟩) 3 3) ssF := sl_of_cells (n := 3) (l := ssF.map SampD.cs) h (samp_len _) hg
theorem smZ {s : St} {b : Nat} (h : b < s.next) (hg : s.heap.get b = some (.cells csZ none)) : SmAt s (.slice (some ⟨b, 0, none⟩) 3 3) ssZ := sl_of_cells (n := 3) (l := ssZ.map SampD.cs) h (samp_len _) hg
set_option maxRecDepth 100000 in
set_option maxHeartbeats 1000000 in
theorem Z_ev (s : St) : Ev TT 39 [] s fun r s' => Keep s s' ∧ ∃ b, r = .agg #[.int .i64 5, .int .i64 0, .int .i64 2000, .slice (some ⟨b, 0, none⟩) 3 3] ∧ s.next ≤ b ∧ b < s'.next ∧ s'.heap.get b = some (.cells csZ none) := by
  refine Ev.intro (fn := Try.f39) rfl (by kernel_rfl) rfl rfl ?_
  apply zz
  refine Cd.ra (h := ?_)
  apply Run.by_eq
  · intro self
    conv => lhs; simp -implicitDefEqProofs (maxSteps := 300000) (disch := omega) [-getElem?_pos, -getElem?_neg]
  try (with_reducible refine Run.ret ?_)
  apply zz
  refine Cd.ra (h := ?_)
  apply Run.by_eq
  · intro self
    conv => lhs; simp -implicitDefEqProofs (maxSteps := 300000) (disch := omega) [-getElem?_pos, -getElem?_neg]
  try (with_reducible refine Run.ret ?_)
  apply zz
  refine Run.call ((F_ev _).mono fun v wy hv => ?_)
  obtain ⟨y, b, rfl, hb1, hb2, hb3⟩ := hv
  have ya := y.1
  have yb := y.2
  try simp only [pushed_next', upded_next'] at ya yb hb1
  have y0 : wy.heap.get s.next = some (.cells [.int .i64 0, .int .i64 0, .int .i64 0, .slice none 0 0] none) := by rw [yb _ (by omega)]; simp -implicitDefEqProofs (disch := omega)
  have hb3' : wy.heap.get b = some (.cells [.int .i64 0, .int .i64 1000, .int .i64 20, .int .i64 2, .int .i64 1400, .int .i64 20, .int .i64 4, .int .i64 1200, .int .i64 30] none) := hb3
  have hbn : ¬ b = wy.next := by omega
  have hbs : ¬ b = s.next := by omega
  have hp2 : putL 3 [Value.int .i64 2, .int .i64 900, .int .i64 10] [.int .i64 0, .int .i64 1000, .int .i64 20, .int .i64 2, .int .i64 1400, .int .i64 20, .int .i64 4, .int .i64 1200, .int .i64 30] = some [.int .i64 0, .int .i64 1000, .int .i64 20, .int .i64 2, .int .i64 900, .int .i64 10, .int .i64 4, .int .i64 1200, .int .i64 30] := rfl
  apply Run.by_eq
  · intro self
    conv => lhs; simp -implicitDefEqProofs (maxSteps := 300000) (disch := omega) [-getElem?_pos, -getElem?_neg]
  try (with_reducible refine Run.ret ?_)
  apply zz
  refine Cd.ra (h := ?_)
  apply Run.by_eq
  · intro self
    conv => lhs; simp -implicitDefEqProofs (maxSteps := 300000) (disch := omega) [-getElem?_pos, -getElem?_neg, hb3', hbn, hp2]
  try (with_reducible refine Run.ret ?_)
  apply zz
  refine Cd.ra (h := ?_)
  apply Run.by_eq
  · intro self
    conv => lhs; simp -implicitDefEqProofs (maxSteps := 300000) (disch := omega) [-getElem?_pos, -getElem?_neg, y0, hbn, hbs]
  try (with_reducible refine Run.ret ?_)
  apply zz
  apply Leave.mk (by first | exact .inl rfl | exact .inr rfl) (by simp only [Fr.marks_put, fr0_marks])
  · conv => lhs; simp -implicitDefEqProofs (disch := omega) [Try.results39]
  refine ⟨⟨by (try simp only [pushed_next', upded_next']); omega, fun i hi => by simp -implicitDefEqProofs (disch := omega) [yb]⟩, b, rfl, by omega, by (try simp only [pushed_next', upded_next']); omega, ?_⟩
  unfold csZ
  simp -implicitDefEqProofs (disch := omega)
end Go.Proofs.Ytnhokodcmeekhaa
