/-
  Lists of numbers are searched, and masses added and taken away, as stated. It holds with no condition but those that are written in each theorem.
-/
import Derived.Test.YtifkpaomhnlahaaA2
namespace Go.Proofs.Ytifkpaomhnlahaa
open Go Kern
set_option maxRecDepth 100000 in
theorem is_ev (n lo hi : Int) (s : St) : Ev TT 46 [.int .i64 n, .int .i64 lo, .int .i64 hi] s fun v s' => v = .bool (isB n lo hi) ∧ Keep s s' := by
  refine Ev.intro (fn := Try.f46) rfl (by kernel_rfl) rfl rfl ?_
  with_reducible repeat first|apply Z0|apply Z1|apply Z2|apply Z3|apply Z4|apply Z5|refine Z6 rfl ?_|apply Z7|apply Z8|apply Z9|apply Z10|apply Z11|apply Z12|apply Z13|apply Z14|apply Z15|apply Z16
  with_reducible repeat first|apply Z0|apply Z1|apply Z2|apply Z3|apply Z4|apply Z5|refine Z6 rfl ?_|apply Z7|apply Z8|apply Z9|apply Z10|apply Z11|apply Z12|apply Z13|apply Z14|apply Z15|apply Z16
  refine Cd.reg (by kernel_rfl) (by conv => lhs; simp only [List.map_cons, List.map_nil]) (by conv => lhs; simp only [List.map_cons, List.map_nil, strip]) ?_
  apply Run.by_eq
  · intro self
    conv => lhs; simp -implicitDefEqProofs (maxSteps := 300000) (disch := omega) [-getElem?_pos, -getElem?_neg]
  try (with_reducible refine Run.ret ?_)
  with_reducible repeat first|apply Z0|apply Z1|apply Z2|apply Z3|apply Z4|apply Z5|refine Z6 rfl ?_|apply Z7|apply Z8|apply Z9|apply Z10|apply Z11|apply Z12|apply Z13|apply Z14|apply Z15|apply Z16
  by_cases h : lo ≤ n
  · with_reducible repeat first|apply Z0|apply Z1|apply Z2|apply Z3|apply Z4|apply Z5|refine Z6 rfl ?_|apply Z7|apply Z8|apply Z9|apply Z10|apply Z11|apply Z12|apply Z13|apply Z14|apply Z15|apply Z16
    refine Cd.reg (by kernel_rfl) (by conv => lhs; simp only [List.map_cons, List.map_nil]) (by conv => lhs; simp only [List.map_cons, List.map_nil, strip]) ?_
    apply Run.by_eq
    · intro self
      conv => lhs; simp -implicitDefEqProofs (maxSteps := 300000) (disch := omega) [-getElem?_pos, -getElem?_neg, h]
    try (with_reducible refine Run.ret ?_)
    with_reducible repeat first|apply Z0|apply Z1|apply Z2|apply Z3|apply Z4|apply Z5|refine Z6 rfl ?_|apply Z7|apply Z8|apply Z9|apply Z10|apply Z11|apply Z12|apply Z13|apply Z14|apply Z15|apply Z16
    apply Leave.mk (by first | exact .inl rfl | exact .inr rfl) (by simp only [Fr.marks_put, fr0_marks])
    · conv => lhs; simp -implicitDefEqProofs (disch := omega) [Try.results46]
    exact ⟨by simp [isB, h], Keep.refl _⟩
  · with_reducible repeat first|apply Z0|apply Z1|apply Z2|apply Z3|apply Z4|apply Z5|refine Z6 rfl ?_|apply Z7|apply Z8|apply Z9|apply Z10|apply Z11|apply Z12|apply Z13|apply Z14|apply Z15|apply Z16
    refine Cd.reg (by kernel_rfl) (by conv => lhs; simp only [List.map_cons, List.map_nil]) (by conv => lhs; simp only [List.map_cons, List.map_nil, strip]) ?_
    apply Run.by_eq
    · intro self
      conv => lhs; simp -implicitDefEqProofs (maxSteps := 300000) (disch := omega) [-getElem?_pos, -getElem?_neg, h]
    try (with_reducible refine Run.ret ?_)
    with_reducible repeat first|apply Z0|apply Z1|apply Z2|apply Z3|apply Z4|apply Z5|refine Z6 rfl ?_|apply Z7|apply Z8|apply Z9|apply Z10|apply Z11|apply Z12|apply Z13|apply Z14|apply Z15|apply Z16
    apply Leave.mk (by first | exact .inl rfl | exact .inr rfl) (by simp only [Fr.marks_put, fr0_marks])
    · conv => lhs; simp -implicitDefEqProofs (disch := omega) [Try.results46]
    exact ⟨by simp [isB, h], Keep.refl _⟩
abbrev IntsAt (s : St) (v : Value) (xs : List Int) : Prop := SlAt 1 s v (xs.map fun x => [.int .i64 x])
theorem IntsAt.at {s : St} {a : Option Addr} {m c : Nat} {xs : List Int} (h : IntsAt s (.slice a m c) xs) {k : Nat} {x : Int} (hk : xs[k]? = some x) :
    ∃ b off o cs g, a = some ⟨b, off, none⟩ ∧ b < s.next ∧ s.heap.get b = some o ∧ cellsOf o = some (cs, g) ∧ cs[off + k]? = some (.int .i64 x) := by
  obtain ⟨b, off, o, cs, g, h1, h2, h3, h4, h5⟩ := SlAt.at h (k := k) (e := [.int .i64 x]) (by rw [List.getElem?_map, hk]; rfl)
  refine ⟨b, off, o, cs, g, h1, h2, h3, h4, ?_⟩
  have := takeL_one h5
  rw [List.getElem?_drop, Nat.mul_one] at this
  exact this
def indexI (x : Int) : List Int → Nat → Int
  | [], _ => -1
  | y :: r, i => if x = y then i else indexI x r (i + 1)
theorem indexI_none {x : Int} : ∀ {xs : List Int} (i : Nat), (∀ (j : Nat) (y : Int), xs[j]? = some y → x ≠ y) → indexI x xs i = -1
  | [], _, _ => rfl
  | y :: r, i, h => by
    simp only [indexI, if_neg (h 0 y rfl)]
    exact indexI_none (i + 1) fun j y hj => h (j + 1) y (by simpa using hj)
theorem indexI_some {x : Int} : ∀ {xs : List Int} (i k : Nat), (∀ (j : Nat) (y : Int), j < k → xs[j]? = some y → x ≠ y) → xs[k]? = some x → indexI x xs i = ((i + k : Nat) : Int)
  | [], _, _, _, h => by simp at h
  | y :: r, i, 0, _, h => by simp at h; subst h; simp [indexI]
  | y :: r, i, k + 1, hz, h => by
    simp only [indexI, if_neg (hz 0 y (by omega) rfl)]
    rw [indexI_some (i + 1) k (fun j y hj hy => hz (j + 1) y (by omega) (by simpa using hy)) (by simpa using h)]
    congr 1; omega
theorem indexI_mem {x : Int} : ∀ {xs : List Int} (i : Nat), (0 ≤ indexI x xs i) ↔ x ∈ xs
  | [], _ => by simp [indexI]
  | y :: r, i => by
    by_cases e : x = y
    · subst e; simp [indexI]
    · simp [indexI, if_neg e, indexI_mem (xs := r) (i + 1), e]
set_option maxRecDepth 100000 in
set_option maxHeartbeats 1000000 in
theorem index_ev (x : Int) (v : Value) (xs : List Int) (s : St) (hx : IntsAt s v xs) (hl : xs.length ≤ 1000000) :
    Ev TT 70 [v, .int .i64 x] s fun r s' => r = .int .i64 (indexI x xs 0) ∧ Keep s s' := by
  obtain ⟨a, c, rfl⟩ := hx.shape
  rw [List.length_map] at hx ⊢
  refine Ev.intro (fn := Try.f70) rfl (by kernel_rfl) rfl rfl ?_
  with_reducible repeat first|apply Z0|apply Z1|apply Z2|apply Z3|apply Z4|apply Z5|refine Z6 rfl ?_|apply Z7|apply Z8|apply Z9|apply Z10|apply Z11|apply Z12|apply Z13|apply Z14|apply Z15|apply Z16
  with_reducible repeat first|apply Z0|apply Z1|apply Z2|apply Z3|apply Z4|apply Z5|refine Z6 rfl ?_|apply Z7|apply Z8|apply Z9|apply Z10|apply Z11|apply Z12|apply Z13|apply Z14|apply Z15|apply Z16
  refine Cd.reg (by kernel_rfl) (by conv => lhs; simp only [List.map_cons, List.map_nil]) (by conv => lhs; simp only [List.map_cons, List.map_nil, strip]) ?_
  apply Run.by_eq
  · intro self
    conv => lhs; simp -implicitDefEqProofs (maxSteps := 300000) (disch := omega) [-getElem?_pos, -getElem?_neg]
  try (with_reducible refine Run.ret ?_)
  with_reducible repeat first|apply Z0|apply Z1|apply Z2|apply Z3|apply Z4|apply Z5|refine Z6 rfl ?_|apply Z7|apply Z8|apply Z9|apply Z10|apply Z11|apply Z12|apply Z13|apply Z14|apply Z15|apply Z16
  with_reducible repeat first|apply Z0|apply Z1|apply Z2|apply Z3|apply Z4|apply Z5|refine Z6 rfl ?_|apply Z7|apply Z8|apply Z9|apply Z10|apply Z11|apply Z12|apply Z13|apply Z14|apply Z15|apply Z16
  refine Cd.reg (by kernel_rfl) (by conv => lhs; simp only [List.map_cons, List.map_nil]) (by conv => lhs; simp only [List.map_cons, List.map_nil, strip]) ?_
  apply Run.by_eq
  · intro self
    conv => lhs; simp -implicitDefEqProofs (maxSteps := 300000) (disch := omega) [-getElem?_pos, -getElem?_neg]
  try (with_reducible refine Run.ret ?_)
  with_reducible repeat first|apply Z0|apply Z1|apply Z2|apply Z3|apply Z4|apply Z5|refine Z6 rfl ?_|apply Z7|apply Z8|apply Z9|apply Z10|apply Z11|apply Z12|apply Z13|apply Z14|apply Z15|apply Z16
  refine Cd.inv (fun w f s' => ∃ k : Nat, k ≤ xs.length ∧ w = xs.length - k ∧ f.marks = [] ∧ f.get 8 = .int .i64 k ∧ f.get 7 = .int .i64 xs.length ∧ f.get 0 = .slice a xs.length c ∧ f.get 1 = .int .i64 x ∧ s' = s ∧ (∀ (j : Nat) (y : Int), j < k → xs[j]? = some y → x ≠ y)) xs.length ?_ ?_
  · exact ⟨0, by omega, rfl, by simp, by simp, by simp, by simp, by simp, rfl, fun j g hj => absurd hj (by omega)⟩
  rintro w f s' ⟨k, hk, rfl, hm, h8, h7, h0, h1, rfl, hz⟩
  by_cases hlt : k < xs.length
  · obtain ⟨y, hy⟩ : ∃ y, xs[k]? = some y := ⟨xs[k], by simp [hlt]⟩
    obtain ⟨b, off, o, cs, gg, rfl, hb, ho, hc, ht⟩ := IntsAt.at hx hy
    with_reducible repeat first|apply Z0|apply Z1|apply Z2|apply Z3|apply Z4|apply Z5|refine Z6 rfl ?_|apply Z7|apply Z8|apply Z9|apply Z10|apply Z11|apply Z12|apply Z13|apply Z14|apply Z15|apply Z16
    refine Cd.reg (by kernel_rfl) (by conv => lhs; simp only [List.map_cons, List.map_nil]) (by conv => lhs; simp only [List.map_cons, List.map_nil, strip]) ?_
    apply Run.by_eq
    · intro self
      conv => lhs; simp -implicitDefEqProofs (maxSteps := 300000) (disch := omega) [-getElem?_pos, -getElem?_neg, h8, h7]
    try (with_reducible refine Run.ret ?_)
    with_reducible repeat first|apply Z0|apply Z1|apply Z2|apply Z3|apply Z4|apply Z5|refine Z6 rfl ?_|apply Z7|apply Z8|apply Z9|apply Z10|apply Z11|apply Z12|apply Z13|apply Z14|apply Z15|apply Z16
    with_reducible repeat first|apply Z0|apply Z1|apply Z2|apply Z3|apply Z4|apply Z5|refine Z6 rfl ?_|apply Z7|apply Z8|apply Z9|apply Z10|apply Z11|apply Z12|apply Z13|apply Z14|apply Z15|apply Z16
    apply Cd.ite rfl
    · conv => lhs; simp -implicitDefEqProofs (maxSteps := 300000) (disch := omega) [-getElem?_pos, -getElem?_neg]
    all_goals intro c0
    all_goals try (cases c0; done)
    all_goals try simp only [Bool.not_eq_true', Bool.not_eq_false', decide_eq_true_eq, decide_eq_false_iff_not] at c0
    all_goals with_reducible repeat first|apply Z0|apply Z1|apply Z2|apply Z3|apply Z4|apply Z5|refine Z6 rfl ?_|apply Z7|apply Z8|apply Z9|apply Z10|apply Z11|apply Z12|apply Z13|apply Z14|apply Z15|apply Z16
    · with_reducible repeat first|apply Z0|apply Z1|apply Z2|apply Z3|apply Z4|apply Z5|refine Z6 rfl ?_|apply Z7|apply Z8|apply Z9|apply Z10|apply Z11|apply Z12|apply Z13|apply Z14|apply Z15|apply Z16
      refine Cd.reg (by kernel_rfl) (by conv => lhs; simp only [List.map_cons, List.map_nil]) (by conv => lhs; simp only [List.map_cons, List.map_nil, strip]) ?_
      apply Run.by_eq
      · intro self
        conv => lhs; simp -implicitDefEqProofs (maxSteps := 300000) (disch := omega) [-getElem?_pos, -getElem?_neg, h8]
      try (with_reducible refine Run.ret ?_)
      with_reducible repeat first|apply Z0|apply Z1|apply Z2|apply Z3|apply Z4|apply Z5|refine Z6 rfl ?_|apply Z7|apply Z8|apply Z9|apply Z10|apply Z11|apply Z12|apply Z13|apply Z14|apply Z15|apply Z16
      with_reducible repeat first|apply Z0|apply Z1|apply Z2|apply Z3|apply Z4|apply Z5|refine Z6 rfl ?_|apply Z7|apply Z8|apply Z9|apply Z10|apply Z11|apply Z12|apply Z13|apply Z14|apply Z15|apply Z16
      refine Cd.reg (by kernel_rfl) (by conv => lhs; simp only [List.map_cons, List.map_nil]) (by conv => lhs; simp only [List.map_cons, List.map_nil, strip]) ?_
      apply Run.by_eq
      · intro self
        conv => lhs; simp -implicitDefEqProofs (maxSteps := 300000) (disch := omega) [-getElem?_pos, -getElem?_neg, h1, h0, ho, hc, ht, hlt]
      try (with_reducible refine Run.ret ?_)
      with_reducible repeat first|apply Z0|apply Z1|apply Z2|apply Z3|apply Z4|apply Z5|refine Z6 rfl ?_|apply Z7|apply Z8|apply Z9|apply Z10|apply Z11|apply Z12|apply Z13|apply Z14|apply Z15|apply Z16
      with_reducible repeat first|apply Z0|apply Z1|apply Z2|apply Z3|apply Z4|apply Z5|refine Z6 rfl ?_|apply Z7|apply Z8|apply Z9|apply Z10|apply Z11|apply Z12|apply Z13|apply Z14|apply Z15|apply Z16
      apply Cd.ite rfl
      · conv => lhs; simp -implicitDefEqProofs (maxSteps := 300000) (disch := omega) [-getElem?_pos, -getElem?_neg]
      all_goals intro c2
      all_goals try (cases c2; done)
      all_goals try simp only [Bool.not_eq_true', Bool.not_eq_false', decide_eq_true_eq, decide_eq_false_iff_not] at c2
      all_goals with_reducible repeat first|apply Z0|apply Z1|apply Z2|apply Z3|apply Z4|apply Z5|refine Z6 rfl ?_|apply Z7|apply Z8|apply Z9|apply Z10|apply Z11|apply Z12|apply Z13|apply Z14|apply Z15|apply Z16
      · with_reducible repeat first|apply Z0|apply Z1|apply Z2|apply Z3|apply Z4|apply Z5|refine Z6 rfl ?_|apply Z7|apply Z8|apply Z9|apply Z10|apply Z11|apply Z12|apply Z13|apply Z14|apply Z15|apply Z16
        refine Cd.reg (by kernel_rfl) (by conv => lhs; simp only [List.map_cons, List.map_nil]) (by conv => lhs; simp only [List.map_cons, List.map_nil, strip]) ?_
        apply Run.by_eq
        · intro self
          conv => lhs; simp -implicitDefEqProofs (maxSteps := 300000) (disch := omega) [-getElem?_pos, -getElem?_neg]
        try (with_reducible refine Run.ret ?_)
        with_reducible repeat first|apply Z0|apply Z1|apply Z2|apply Z3|apply Z4|apply Z5|refine Z6 rfl ?_|apply Z7|apply Z8|apply Z9|apply Z10|apply Z11|apply Z12|apply Z13|apply Z14|apply Z15|apply Z16
        apply Leave.mk (by first | exact .inl rfl | exact .inr rfl) (by simp only [Fr.marks_put, fr0_marks, hm])
        · conv => lhs; simp -implicitDefEqProofs (disch := omega) [Try.results70, hm]
        subst c2
        exact ⟨by rw [indexI_some 0 k hz hy]; simp [tupled], Keep.refl _⟩
      · with_reducible repeat first|apply Z0|apply Z1|apply Z2|apply Z3|apply Z4|apply Z5|refine Z6 rfl ?_|apply Z7|apply Z8|apply Z9|apply Z10|apply Z11|apply Z12|apply Z13|apply Z14|apply Z15|apply Z16
        refine Cd.reg (by kernel_rfl) (by conv => lhs; simp only [List.map_cons, List.map_nil]) (by conv => lhs; simp only [List.map_cons, List.map_nil, strip]) ?_
        apply Run.by_eq
        · intro self
          conv => lhs; simp -implicitDefEqProofs (maxSteps := 300000) (disch := omega) [-getElem?_pos, -getElem?_neg, h8]
        try (with_reducible refine Run.ret ?_)
        with_reducible repeat first|apply Z0|apply Z1|apply Z2|apply Z3|apply Z4|apply Z5|refine Z6 rfl ?_|apply Z7|apply Z8|apply Z9|apply Z10|apply Z11|apply Z12|apply Z13|apply Z14|apply Z15|apply Z16
        refine LoopK.nm (xs.length - (k + 1)) (by omega) ⟨k + 1, by omega, rfl, by simp [hm], by simp, by simp [h7], by simp [h0], by simp [h1], rfl, fun j g' hj hg' => ?_⟩
        by_cases e : j = k
        · subst e
          rw [hy] at hg'
          cases hg'
          exact c2
        · exact hz j g' (by omega) hg'
    · simp at c0; omega
  · obtain rfl : k = xs.length := by omega
    with_reducible repeat first|apply Z0|apply Z1|apply Z2|apply Z3|apply Z4|apply Z5|refine Z6 rfl ?_|apply Z7|apply Z8|apply Z9|apply Z10|apply Z11|apply Z12|apply Z13|apply Z14|apply Z15|apply Z16
    refine Cd.reg (by kernel_rfl) (by conv => lhs; simp only [List.map_cons, List.map_nil]) (by conv => lhs; simp only [List.map_cons, List.map_nil, strip]) ?_
    apply Run.by_eq
    · intro self
      conv => lhs; simp -implicitDefEqProofs (maxSteps := 300000) (disch := omega) [-getElem?_pos, -getElem?_neg, h8, h7]
    try (with_reducible refine Run.ret ?_)
    with_reducible repeat first|apply Z0|apply Z1|apply Z2|apply Z3|apply Z4|apply Z5|refine Z6 rfl ?_|apply Z7|apply Z8|apply Z9|apply Z10|apply Z11|apply Z12|apply Z13|apply Z14|apply Z15|apply Z16
    with_reducible repeat first|apply Z0|apply Z1|apply Z2|apply Z3|apply Z4|apply Z5|refine Z6 rfl ?_|apply Z7|apply Z8|apply Z9|apply Z10|apply Z11|apply Z12|apply Z13|apply Z14|apply Z15|apply Z16
    apply Cd.ite rfl
    · conv => lhs; simp -implicitDefEqProofs (maxSteps := 300000) (disch := omega) [-getElem?_pos, -getElem?_neg]
    all_goals intro c0
    all_goals try (cases c0; done)
    all_goals try simp only [Bool.not_eq_true', Bool.not_eq_false', decide_eq_true_eq, decide_eq_false_iff_not] at c0
    all_goals with_reducible repeat first|apply Z0|apply Z1|apply Z2|apply Z3|apply Z4|apply Z5|refine Z6 rfl ?_|apply Z7|apply Z8|apply Z9|apply Z10|apply Z11|apply Z12|apply Z13|apply Z14|apply Z15|apply Z16
    with_reducible repeat first|apply Z0|apply Z1|apply Z2|apply Z3|apply Z4|apply Z5|refine Z6 rfl ?_|apply Z7|apply Z8|apply Z9|apply Z10|apply Z11|apply Z12|apply Z13|apply Z14|apply Z15|apply Z16
    refine Cd.reg (by kernel_rfl) (by conv => lhs; simp only [List.map_cons, List.map_nil]) (by conv => lhs; simp only [List.map_cons, List.map_nil, strip]) ?_
    apply Run.by_eq
    · intro self
      conv => lhs; simp -implicitDefEqProofs (maxSteps := 300000) (disch := omega) [-getElem?_pos, -getElem?_neg]
    try (with_reducible refine Run.ret ?_)
    with_reducible repeat first|apply Z0|apply Z1|apply Z2|apply Z3|apply Z4|apply Z5|refine Z6 rfl ?_|apply Z7|apply Z8|apply Z9|apply Z10|apply Z11|apply Z12|apply Z13|apply Z14|apply Z15|apply Z16
    apply Leave.mk (by first | exact .inl rfl | exact .inr rfl) (by simp only [Fr.marks_put, fr0_marks, hm])
    · conv => lhs; simp -implicitDefEqProofs (disch := omega) [Try.results70, hm]
    exact ⟨by rw [indexI_none 0 fun j y hy => hz j y (List.getElem?_eq_some_iff.1 hy).1 hy]; rfl, Keep.refl _⟩
set_option maxRecDepth 100000 in
theorem contains_ev (x : Int) (v : Value) (xs : List Int) (s : St) (hx : IntsAt s v xs) (hl : xs.length ≤ 1000000) :
    Ev TT 60 [v, .int .i64 x] s fun r s' => r = .bool (decide (x ∈ xs)) ∧ Keep s s' := by
  refine Ev.intro (fn := Try.f60) rfl (by kernel_rfl) rfl rfl ?_
  with_reducible repeat first|apply Z0|apply Z1|apply Z2|apply Z3|apply Z4|apply Z5|refine Z6 rfl ?_|apply Z7|apply Z8|apply Z9|apply Z10|apply Z11|apply Z12|apply Z13|apply Z14|apply Z15|apply Z16
  with_reducible repeat first|apply Z0|apply Z1|apply Z2|apply Z3|apply Z4|apply Z5|refine Z6 rfl ?_|apply Z7|apply Z8|apply Z9|apply Z10|apply Z11|apply Z12|apply Z13|apply Z14|apply Z15|apply Z16
  refine Cd.reg (by kernel_rfl) (by conv => lhs; simp only [List.map_cons, List.map_nil]) (by conv => lhs; simp only [List.map_cons, List.map_nil, strip]) ?_
  apply Run.by_eq
  · intro self
    conv => lhs; simp -implicitDefEqProofs (maxSteps := 300000) (disch := omega) [-getElem?_pos, -getElem?_neg]
  try (with_reducible refine Run.ret ?_)
  with_reducible repeat first|apply Z0|apply Z1|apply Z2|apply Z3|apply Z4|apply Z5|refine Z6 rfl ?_|apply Z7|apply Z8|apply Z9|apply Z10|apply Z11|apply Z12|apply Z13|apply Z14|apply Z15|apply Z16
  with_reducible repeat first|apply Z0|apply Z1|apply Z2|apply Z3|apply Z4|apply Z5|refine Z6 rfl ?_|apply Z7|apply Z8|apply Z9|apply Z10|apply Z11|apply Z12|apply Z13|apply Z14|apply Z15|apply Z16
  refine Cd.reg (by kernel_rfl) (by conv => lhs; simp only [List.map_cons, List.map_nil]) (by conv => lhs; simp only [List.map_cons, List.map_nil, strip]) ?_
  apply Run.by_eq
  · intro self
    conv => lhs; simp -implicitDefEqProofs (maxSteps := 300000) (disch := omega) [-getElem?_pos, -getElem?_neg]
  try (with_reducible refine Run.ret ?_)
  with_reducible repeat first|apply Z0|apply Z1|apply Z2|apply Z3|apply Z4|apply Z5|refine Z6 rfl ?_|apply Z7|apply Z8|apply Z9|apply Z10|apply Z11|apply Z12|apply Z13|apply Z14|apply Z15|apply Z16
  refine Run.call ((index_ev x v xs _ hx hl).mono fun v wk hv => ?_)
  obtain ⟨rfl, k⟩ := hv
  have ka := k.1
  have kb := k.2
  try simp only [pushed_next', upded_next'] at ka kb
  apply Run.by_eq
  · intro self
    conv => lhs; simp -implicitDefEqProofs (maxSteps := 300000) (disch := omega) [-getElem?_pos, -getElem?_neg]
  try (with_reducible refine Run.ret ?_)
  with_reducible repeat first|apply Z0|apply Z1|apply Z2|apply Z3|apply Z4|apply Z5|refine Z6 rfl ?_|apply Z7|apply Z8|apply Z9|apply Z10|apply Z11|apply Z12|apply Z13|apply Z14|apply Z15|apply Z16
  apply Leave.mk (by first | exact .inl rfl | exact .inr rfl) (by simp only [Fr.marks_put, fr0_marks])
  · conv => lhs; simp -implicitDefEqProofs (disch := omega) [Try.results60]
  refine ⟨?_, k⟩
  have := @indexI_mem x xs 0
  simp [tupled, this]
set_option maxRecDepth 100000 in
set_option maxHeartbeats 1000000 in
theorem each_ev (m : Mass) (lo hi : Int) (s : St) : Ev TT 47 [m.v, .int .i64 lo, .int .i64 hi] s fun v s' => v = .bool (eachB m lo hi) ∧ Keep s s' := by
  unfold Mass.v
  refine Ev.intro (fn := Try.f47) rfl (by kernel_rfl) rfl rfl ?_
  with_reducible repeat first|apply Z0|apply Z1|apply Z2|apply Z3|apply Z4|apply Z5|refine Z6 rfl ?_|apply Z7|apply Z8|apply Z9|apply Z10|apply Z11|apply Z12|apply Z13|apply Z14|apply Z15|apply Z16
  with_reducible repeat first|apply Z0|apply Z1|apply Z2|apply Z3|apply Z4|apply Z5|refine Z6 rfl ?_|apply Z7|apply Z8|apply Z9|apply Z10|apply Z11|apply Z12|apply Z13|apply Z14|apply Z15|apply Z16
  refine Cd.reg (by kernel_rfl) (by conv => lhs; simp only [List.map_cons, List.map_nil]) (by conv => lhs; simp only [List.map_cons, List.map_nil, strip]) ?_
  apply Run.by_eq
  · intro self
    conv => lhs; simp -implicitDefEqProofs (maxSteps := 300000) (disch := omega) [-getElem?_pos, -getElem?_neg]
  try (with_reducible refine Run.ret ?_)
  with_reducible repeat first|apply Z0|apply Z1|apply Z2|apply Z3|apply Z4|apply Z5|refine Z6 rfl ?_|apply Z7|apply Z8|apply Z9|apply Z10|apply Z11|apply Z12|apply Z13|apply Z14|apply Z15|apply Z16
  with_reducible repeat first|apply Z0|apply Z1|apply Z2|apply Z3|apply Z4|apply Z5|refine Z6 rfl ?_|apply Z7|apply Z8|apply Z9|apply Z10|apply Z11|apply Z12|apply Z13|apply Z14|apply Z15|apply Z16
  refine Cd.reg (by kernel_rfl) (by conv => lhs; simp only [List.map_cons, List.map_nil]) (by conv => lhs; simp only [List.map_cons, List.map_nil, strip]) ?_
  apply Run.by_eq
  · intro self
    conv => lhs; simp -implicitDefEqProofs (maxSteps := 300000) (disch := omega) [-getElem?_pos, -getElem?_neg]
  try (with_reducible refine Run.ret ?_)
  with_reducible repeat first|apply Z0|apply Z1|apply Z2|apply Z3|apply Z4|apply Z5|refine Z6 rfl ?_|apply Z7|apply Z8|apply Z9|apply Z10|apply Z11|apply Z12|apply Z13|apply Z14|apply Z15|apply Z16
  refine Cd.inv (fun w f s' => ∃ k : Nat, k ≤ 4 ∧ w = 4 - k ∧ f.marks = [] ∧ f.get 7 = .int .i64 k ∧ f.get 3 = .pointer (some ⟨s.next, 0, none⟩) ∧ f.get 1 = .int .i64 lo ∧ f.get 2 = .int .i64 hi ∧ Keep s s' ∧ s.next < s'.next ∧ s'.heap.get s.next = some (.cells [.int .i64 m.a, .int .i64 m.b, .int .i64 m.c, .int .i64 m.d] none) ∧ (∀ j, j < k → lo ≤ m.at j ∧ m.at j ≤ hi)) 4 ?_ ?_
  · exact ⟨0, by omega, rfl, by simp, by simp, by simp, by simp, by simp, (Keep.refl _).pushed _, by simp, by simp, fun j hj => absurd hj (by omega)⟩
  rintro w f s' ⟨k, hk, rfl, hm, h7, h3, h1, h2, hkp, hnx, hget, hall⟩
  have hkpa := hkp.1
  by_cases hk4 : k < 4
  · have hat := m.cs_at hk4
    with_reducible repeat first|apply Z0|apply Z1|apply Z2|apply Z3|apply Z4|apply Z5|refine Z6 rfl ?_|apply Z7|apply Z8|apply Z9|apply Z10|apply Z11|apply Z12|apply Z13|apply Z14|apply Z15|apply Z16
    refine Cd.reg (by kernel_rfl) (by conv => lhs; simp only [List.map_cons, List.map_nil]) (by conv => lhs; simp only [List.map_cons, List.map_nil, strip]) ?_
    apply Run.by_eq
    · intro self
      conv => lhs; simp -implicitDefEqProofs (maxSteps := 300000) (disch := omega) [-getElem?_pos, -getElem?_neg, h7]
    try (with_reducible refine Run.ret ?_)
    with_reducible repeat first|apply Z0|apply Z1|apply Z2|apply Z3|apply Z4|apply Z5|refine Z6 rfl ?_|apply Z7|apply Z8|apply Z9|apply Z10|apply Z11|apply Z12|apply Z13|apply Z14|apply Z15|apply Z16
    with_reducible repeat first|apply Z0|apply Z1|apply Z2|apply Z3|apply Z4|apply Z5|refine Z6 rfl ?_|apply Z7|apply Z8|apply Z9|apply Z10|apply Z11|apply Z12|apply Z13|apply Z14|apply Z15|apply Z16
    apply Cd.ite rfl
    · conv => lhs; simp -implicitDefEqProofs (maxSteps := 300000) (disch := omega) [-getElem?_pos, -getElem?_neg]
    all_goals intro c0
    all_goals try (cases c0; done)
    all_goals try simp only [Bool.not_eq_true', Bool.not_eq_false', decide_eq_true_eq, decide_eq_false_iff_not] at c0
    all_goals with_reducible repeat first|apply Z0|apply Z1|apply Z2|apply Z3|apply Z4|apply Z5|refine Z6 rfl ?_|apply Z7|apply Z8|apply Z9|apply Z10|apply Z11|apply Z12|apply Z13|apply Z14|apply Z15|apply Z16
    · with_reducible repeat first|apply Z0|apply Z1|apply Z2|apply Z3|apply Z4|apply Z5|refine Z6 rfl ?_|apply Z7|apply Z8|apply Z9|apply Z10|apply Z11|apply Z12|apply Z13|apply Z14|apply Z15|apply Z16
      refine Cd.reg (by kernel_rfl) (by conv => lhs; simp only [List.map_cons, List.map_nil]) (by conv => lhs; simp only [List.map_cons, List.map_nil, strip]) ?_
      apply Run.by_eq
      · intro self
        conv => lhs; simp -implicitDefEqProofs (maxSteps := 300000) (disch := omega) [-getElem?_pos, -getElem?_neg, h7, h3, h1, h2, hget, hat]
      try (with_reducible refine Run.ret ?_)
      with_reducible repeat first|apply Z0|apply Z1|apply Z2|apply Z3|apply Z4|apply Z5|refine Z6 rfl ?_|apply Z7|apply Z8|apply Z9|apply Z10|apply Z11|apply Z12|apply Z13|apply Z14|apply Z15|apply Z16
      refine Run.call ((is_ev (m.at k) lo hi _).mono fun v wq hv => ?_)
      obtain ⟨rfl, q⟩ := hv
      have qa := q.1
      have qb := q.2
      try simp only [pushed_next', upded_next'] at qa qb
      apply Run.by_eq
      · intro self
        conv => lhs; simp -implicitDefEqProofs (maxSteps := 300000) (disch := omega) [-getElem?_pos, -getElem?_neg]
      try (with_reducible refine Run.ret ?_)
      with_reducible repeat first|apply Z0|apply Z1|apply Z2|apply Z3|apply Z4|apply Z5|refine Z6 rfl ?_|apply Z7|apply Z8|apply Z9|apply Z10|apply Z11|apply Z12|apply Z13|apply Z14|apply Z15|apply Z16
      with_reducible repeat first|apply Z0|apply Z1|apply Z2|apply Z3|apply Z4|apply Z5|refine Z6 rfl ?_|apply Z7|apply Z8|apply Z9|apply Z10|apply Z11|apply Z12|apply Z13|apply Z14|apply Z15|apply Z16
      apply Cd.ite rfl
      · conv => lhs; simp -implicitDefEqProofs (maxSteps := 300000) (disch := omega) [-getElem?_pos, -getElem?_neg]
      all_goals intro c1
      all_goals try (cases c1; done)
      all_goals try simp only [Bool.not_eq_true', Bool.not_eq_false', decide_eq_true_eq, decide_eq_false_iff_not] at c1
      all_goals with_reducible repeat first|apply Z0|apply Z1|apply Z2|apply Z3|apply Z4|apply Z5|refine Z6 rfl ?_|apply Z7|apply Z8|apply Z9|apply Z10|apply Z11|apply Z12|apply Z13|apply Z14|apply Z15|apply Z16
      · with_reducible repeat first|apply Z0|apply Z1|apply Z2|apply Z3|apply Z4|apply Z5|refine Z6 rfl ?_|apply Z7|apply Z8|apply Z9|apply Z10|apply Z11|apply Z12|apply Z13|apply Z14|apply Z15|apply Z16
        refine Cd.reg (by kernel_rfl) (by conv => lhs; simp only [List.map_cons, List.map_nil]) (by conv => lhs; simp only [List.map_cons, List.map_nil, strip]) ?_
        apply Run.by_eq
        · intro self
          conv => lhs; simp -implicitDefEqProofs (maxSteps := 300000) (disch := omega) [-getElem?_pos, -getElem?_neg]
        try (with_reducible refine Run.ret ?_)
        with_reducible repeat first|apply Z0|apply Z1|apply Z2|apply Z3|apply Z4|apply Z5|refine Z6 rfl ?_|apply Z7|apply Z8|apply Z9|apply Z10|apply Z11|apply Z12|apply Z13|apply Z14|apply Z15|apply Z16
        apply Leave.mk (by first | exact .inl rfl | exact .inr rfl) (by simp only [Fr.marks_put, fr0_marks, hm])
        · conv => lhs; simp -implicitDefEqProofs (disch := omega) [Try.results47, hm]
        refine ⟨?_, hkp.trans q⟩
        rw [eachB_false hk4 (by simp [isB] at c1; omega)]; rfl
      · with_reducible repeat first|apply Z0|apply Z1|apply Z2|apply Z3|apply Z4|apply Z5|refine Z6 rfl ?_|apply Z7|apply Z8|apply Z9|apply Z10|apply Z11|apply Z12|apply Z13|apply Z14|apply Z15|apply Z16
        refine Cd.reg (by kernel_rfl) (by conv => lhs; simp only [List.map_cons, List.map_nil]) (by conv => lhs; simp only [List.map_cons, List.map_nil, strip]) ?_
        apply Run.by_eq
        · intro self
          conv => lhs; simp -implicitDefEqProofs (maxSteps := 300000) (disch := omega) [-getElem?_pos, -getElem?_neg, h7]
        try (with_reducible refine Run.ret ?_)
        with_reducible repeat first|apply Z0|apply Z1|apply Z2|apply Z3|apply Z4|apply Z5|refine Z6 rfl ?_|apply Z7|apply Z8|apply Z9|apply Z10|apply Z11|apply Z12|apply Z13|apply Z14|apply Z15|apply Z16
        refine LoopK.nm (4 - (k + 1)) (by omega) ⟨k + 1, by omega, rfl, by simp [hm], by simp, by simp [h3], by simp [h1], by simp [h2], hkp.trans q, by omega, by rw [qb _ hnx]; exact hget, fun j hj => ?_⟩
        by_cases e : j = k
        · subst e; simp [isB] at c1; omega
        · exact hall j (by omega)
    · simp at c0; omega
  · obtain rfl : k = 4 := by omega
    with_reducible repeat first|apply Z0|apply Z1|apply Z2|apply Z3|apply Z4|apply Z5|refine Z6 rfl ?_|apply Z7|apply Z8|apply Z9|apply Z10|apply Z11|apply Z12|apply Z13|apply Z14|apply Z15|apply Z16
    refine Cd.reg (by kernel_rfl) (by conv => lhs; simp only [List.map_cons, List.map_nil]) (by conv => lhs; simp only [List.map_cons, List.map_nil, strip]) ?_
    apply Run.by_eq
    · intro self
      conv => lhs; simp -implicitDefEqProofs (maxSteps := 300000) (disch := omega) [-getElem?_pos, -getElem?_neg, h7]
    try (with_reducible refine Run.ret ?_)
    with_reducible repeat first|apply Z0|apply Z1|apply Z2|apply Z3|apply Z4|apply Z5|refine Z6 rfl ?_|apply Z7|apply Z8|apply Z9|apply Z10|apply Z11|apply Z12|apply Z13|apply Z14|apply Z15|apply Z16
    with_reducible repeat first|apply Z0|apply Z1|apply Z2|apply Z3|apply Z4|apply Z5|refine Z6 rfl ?_|apply Z7|apply Z8|apply Z9|apply Z10|apply Z11|apply Z12|apply Z13|apply Z14|apply Z15|apply Z16
    apply Cd.ite rfl
    · conv => lhs; simp -implicitDefEqProofs (maxSteps := 300000) (disch := omega) [-getElem?_pos, -getElem?_neg]
    all_goals intro c0
    all_goals try (cases c0; done)
    all_goals try simp only [Bool.not_eq_true', Bool.not_eq_false', decide_eq_true_eq, decide_eq_false_iff_not] at c0
    all_goals with_reducible repeat first|apply Z0|apply Z1|apply Z2|apply Z3|apply Z4|apply Z5|refine Z6 rfl ?_|apply Z7|apply Z8|apply Z9|apply Z10|apply Z11|apply Z12|apply Z13|apply Z14|apply Z15|apply Z16
    with_reducible repeat first|apply Z0|apply Z1|apply Z2|apply Z3|apply Z4|apply Z5|refine Z6 rfl ?_|apply Z7|apply Z8|apply Z9|apply Z10|apply Z11|apply Z12|apply Z13|apply Z14|apply Z15|apply Z16
    refine Cd.reg (by kernel_rfl) (by conv => lhs; simp only [List.map_cons, List.map_nil]) (by conv => lhs; simp only [List.map_cons, List.map_nil, strip]) ?_
    apply Run.by_eq
    · intro self
      conv => lhs; simp -implicitDefEqProofs (maxSteps := 300000) (disch := omega) [-getElem?_pos, -getElem?_neg]
    try (with_reducible refine Run.ret ?_)
    with_reducible repeat first|apply Z0|apply Z1|apply Z2|apply Z3|apply Z4|apply Z5|refine Z6 rfl ?_|apply Z7|apply Z8|apply Z9|apply Z10|apply Z11|apply Z12|apply Z13|apply Z14|apply Z15|apply Z16
    apply Leave.mk (by first | exact .inl rfl | exact .inr rfl) (by simp only [Fr.marks_put, fr0_marks, hm])
    · conv => lhs; simp -implicitDefEqProofs (disch := omega) [Try.results47, hm]
    exact ⟨by rw [eachB_true (fun j hj => hall j hj)]; rfl, hkp⟩
def Mass.add (m p : Mass) : Mass := ⟨m.a + p.a, m.b + p.b, m.c + p.c, m.d + p.d⟩
def Mass.sub (m p : Mass) : Mass := ⟨m.a - p.a, m.b - p.b, m.c - p.c, m.d - p.d⟩
def Mass.le (m : Mass) (B : Int) : Prop := (-B ≤ m.a ∧ m.a ≤ B) ∧ (-B ≤ m.b ∧ m.b ≤ B) ∧ (-B ≤ m.c ∧ m.c ≤ B) ∧ (-B ≤ m.d ∧ m.d ≤ B)
/-- The first k of one and the rest of the other. -/
def mixL (k : Nat) (x y : Mass) : List Value := [.int .i64 (if 0 < k then x.a else y.a), .int .i64 (if 1 < k then x.b else y.b), .int .i64 (if 2 < k then x.c else y.c), .int .i64 (if 3 < k then x.d else y.d)]
set_option maxRecDepth 100000 in
set_option maxHeartbeats 1000000 in
theorem plus_ev (m p : Mass) (s : St) (hb : (m.add p).le 4611686018427387904) : Ev TT 61 [m.v, p.v] s fun v s' => v = (m.add p).v ∧ Keep s s' := by
  obtain ⟨⟨a1, a2⟩, ⟨b1, b2⟩, ⟨c1, c2⟩, d1, d2⟩ := hb
  simp only [Mass.add] at a1 a2 b1 b2 c1 c2 d1 d2
  unfold Mass.v
  refine Ev.intro (fn := Try.f61) rfl (by kernel_rfl) rfl rfl ?_
  with_reducible repeat first|apply Z0|apply Z1|apply Z2|apply Z3|apply Z4|apply Z5|refine Z6 rfl ?_|apply Z7|apply Z8|apply Z9|apply Z10|apply Z11|apply Z12|apply Z13|apply Z14|apply Z15|apply Z16
  with_reducible repeat first|apply Z0|apply Z1|apply Z2|apply Z3|apply Z4|apply Z5|refine Z6 rfl ?_|apply Z7|apply Z8|apply Z9|apply Z10|apply Z11|apply Z12|apply Z13|apply Z14|apply Z15|apply Z16
  refine Cd.reg (by kernel_rfl) (by conv => lhs; simp only [List.map_cons, List.map_nil]) (by conv => lhs; simp only [List.map_cons, List.map_nil, strip]) ?_
  apply Run.by_eq
  · intro self
    conv => lhs; simp -implicitDefEqProofs (maxSteps := 300000) (disch := omega) [-getElem?_pos, -getElem?_neg]
  try (with_reducible refine Run.ret ?_)
  with_reducible repeat first|apply Z0|apply Z1|apply Z2|apply Z3|apply Z4|apply Z5|refine Z6 rfl ?_|apply Z7|apply Z8|apply Z9|apply Z10|apply Z11|apply Z12|apply Z13|apply Z14|apply Z15|apply Z16
  with_reducible repeat first|apply Z0|apply Z1|apply Z2|apply Z3|apply Z4|apply Z5|refine Z6 rfl ?_|apply Z7|apply Z8|apply Z9|apply Z10|apply Z11|apply Z12|apply Z13|apply Z14|apply Z15|apply Z16
  refine Cd.reg (by kernel_rfl) (by conv => lhs; simp only [List.map_cons, List.map_nil]) (by conv => lhs; simp only [List.map_cons, List.map_nil, strip]) ?_
  apply Run.by_eq
  · intro self
    conv => lhs; simp -implicitDefEqProofs (maxSteps := 300000) (disch := omega) [-getElem?_pos, -getElem?_neg]
  try (with_reducible refine Run.ret ?_)
  with_reducible repeat first|apply Z0|apply Z1|apply Z2|apply Z3|apply Z4|apply Z5|refine Z6 rfl ?_|apply Z7|apply Z8|apply Z9|apply Z10|apply Z11|apply Z12|apply Z13|apply Z14|apply Z15|apply Z16
  refine Cd.inv (fun w f s' => ∃ k : Nat, k ≤ 4 ∧ w = 4 - k ∧ f.marks = [] ∧ f.get 8 = .int .i64 k ∧ f.get 7 = .agg [.int .i64 p.a, .int .i64 p.b, .int .i64 p.c, .int .i64 p.d].toArray ∧ f.get 2 = .pointer (some ⟨s.next, 0, none⟩) ∧ f.get 4 = .pointer (some ⟨s.next + 1 + 1, 0, none⟩) ∧ Keep s s' ∧ s.next + 1 + 1 < s'.next ∧ s'.heap.get s.next = some (.cells (mixL k (m.add p) m) none) ∧ s'.heap.get (s.next + 1 + 1) = some (.cells [.int .i64 0, .int .i64 0, .int .i64 0, .int .i64 0] none)) 4 ?_ ?_
  · exact ⟨0, by omega, rfl, by simp, by simp, by simp, by simp, by simp, (((Keep.refl _).pushed _).pushed _).pushed _, by simp, by simp -implicitDefEqProofs (disch := omega) [mixL], by simp⟩
  rintro w f s' ⟨k, hk, rfl, hm, h8, h7, h2, h4, hkp, hnx, hget, hget2⟩
  have hkpa := hkp.1
  have hk5 : k = 0 ∨ k = 1 ∨ k = 2 ∨ k = 3 ∨ k = 4 := by omega
  rcases hk5 with rfl | rfl | rfl | rfl | rfl
  all_goals simp only [mixL, Mass.add, Nat.lt_irrefl, if_false, Nat.reduceLT, if_true] at hget
  · with_reducible repeat first|apply Z0|apply Z1|apply Z2|apply Z3|apply Z4|apply Z5|refine Z6 rfl ?_|apply Z7|apply Z8|apply Z9|apply Z10|apply Z11|apply Z12|apply Z13|apply Z14|apply Z15|apply Z16
    refine Cd.reg (by kernel_rfl) (by conv => lhs; simp only [List.map_cons, List.map_nil]) (by conv => lhs; simp only [List.map_cons, List.map_nil, strip]) ?_
    apply Run.by_eq
    · intro self
      conv => lhs; simp -implicitDefEqProofs (maxSteps := 300000) (disch := omega) [-getElem?_pos, -getElem?_neg, h8]
    try (with_reducible refine Run.ret ?_)
    with_reducible repeat first|apply Z0|apply Z1|apply Z2|apply Z3|apply Z4|apply Z5|refine Z6 rfl ?_|apply Z7|apply Z8|apply Z9|apply Z10|apply Z11|apply Z12|apply Z13|apply Z14|apply Z15|apply Z16
    with_reducible repeat first|apply Z0|apply Z1|apply Z2|apply Z3|apply Z4|apply Z5|refine Z6 rfl ?_|apply Z7|apply Z8|apply Z9|apply Z10|apply Z11|apply Z12|apply Z13|apply Z14|apply Z15|apply Z16
    apply Cd.ite rfl
    · conv => lhs; simp -implicitDefEqProofs (maxSteps := 300000) (disch := omega) [-getElem?_pos, -getElem?_neg]
    all_goals intro c0
    all_goals try (cases c0; done)
    all_goals try simp only [Bool.not_eq_true', Bool.not_eq_false', decide_eq_true_eq, decide_eq_false_iff_not] at c0
    all_goals with_reducible repeat first|apply Z0|apply Z1|apply Z2|apply Z3|apply Z4|apply Z5|refine Z6 rfl ?_|apply Z7|apply Z8|apply Z9|apply Z10|apply Z11|apply Z12|apply Z13|apply Z14|apply Z15|apply Z16
    · with_reducible repeat first|apply Z0|apply Z1|apply Z2|apply Z3|apply Z4|apply Z5|refine Z6 rfl ?_|apply Z7|apply Z8|apply Z9|apply Z10|apply Z11|apply Z12|apply Z13|apply Z14|apply Z15|apply Z16
      refine Cd.reg (by kernel_rfl) (by conv => lhs; simp only [List.map_cons, List.map_nil]) (by conv => lhs; simp only [List.map_cons, List.map_nil, strip]) ?_
      apply Run.by_eq
      · intro self
        conv => lhs; simp -implicitDefEqProofs (maxSteps := 300000) (disch := omega) [-getElem?_pos, -getElem?_neg, h8, h7]
      try (with_reducible refine Run.ret ?_)
      with_reducible repeat first|apply Z0|apply Z1|apply Z2|apply Z3|apply Z4|apply Z5|refine Z6 rfl ?_|apply Z7|apply Z8|apply Z9|apply Z10|apply Z11|apply Z12|apply Z13|apply Z14|apply Z15|apply Z16
      with_reducible repeat first|apply Z0|apply Z1|apply Z2|apply Z3|apply Z4|apply Z5|refine Z6 rfl ?_|apply Z7|apply Z8|apply Z9|apply Z10|apply Z11|apply Z12|apply Z13|apply Z14|apply Z15|apply Z16
      refine Cd.reg (by kernel_rfl) (by conv => lhs; simp only [List.map_cons, List.map_nil]) (by conv => lhs; simp only [List.map_cons, List.map_nil, strip]) ?_
      apply Run.by_eq
      · intro self
        conv => lhs; simp -implicitDefEqProofs (maxSteps := 300000) (disch := omega) [-getElem?_pos, -getElem?_neg, h2, hget]
      try (with_reducible refine Run.ret ?_)
      with_reducible repeat first|apply Z0|apply Z1|apply Z2|apply Z3|apply Z4|apply Z5|refine Z6 rfl ?_|apply Z7|apply Z8|apply Z9|apply Z10|apply Z11|apply Z12|apply Z13|apply Z14|apply Z15|apply Z16
      with_reducible repeat first|apply Z0|apply Z1|apply Z2|apply Z3|apply Z4|apply Z5|refine Z6 rfl ?_|apply Z7|apply Z8|apply Z9|apply Z10|apply Z11|apply Z12|apply Z13|apply Z14|apply Z15|apply Z16
      refine Cd.reg (by kernel_rfl) (by conv => lhs; simp only [List.map_cons, List.map_nil]) (by conv => lhs; simp only [List.map_cons, List.map_nil, strip]) ?_
      apply Run.by_eq
      · intro self
        conv => lhs; simp -implicitDefEqProofs (maxSteps := 300000) (disch := omega) [-getElem?_pos, -getElem?_neg, h8]
      try (with_reducible refine Run.ret ?_)
      with_reducible repeat first|apply Z0|apply Z1|apply Z2|apply Z3|apply Z4|apply Z5|refine Z6 rfl ?_|apply Z7|apply Z8|apply Z9|apply Z10|apply Z11|apply Z12|apply Z13|apply Z14|apply Z15|apply Z16
      refine LoopK.nm (4 - (0 + 1)) (by omega) ⟨0 + 1, by omega, rfl, by simp [hm], by simp, by simp [h7], by simp [h2], by simp [h4], hkp.upded (Nat.le_refl _) _, by simpa using hnx, ?_, ?_⟩
      · simp [mixL, Mass.add]
      · simp -implicitDefEqProofs (disch := omega) [hget2]
  · with_reducible repeat first|apply Z0|apply Z1|apply Z2|apply Z3|apply Z4|apply Z5|refine Z6 rfl ?_|apply Z7|apply Z8|apply Z9|apply Z10|apply Z11|apply Z12|apply Z13|apply Z14|apply Z15|apply Z16
    refine Cd.reg (by kernel_rfl) (by conv => lhs; simp only [List.map_cons, List.map_nil]) (by conv => lhs; simp only [List.map_cons, List.map_nil, strip]) ?_
    apply Run.by_eq
    · intro self
      conv => lhs; simp -implicitDefEqProofs (maxSteps := 300000) (disch := omega) [-getElem?_pos, -getElem?_neg, h8]
    try (with_reducible refine Run.ret ?_)
    with_reducible repeat first|apply Z0|apply Z1|apply Z2|apply Z3|apply Z4|apply Z5|refine Z6 rfl ?_|apply Z7|apply Z8|apply Z9|apply Z10|apply Z11|apply Z12|apply Z13|apply Z14|apply Z15|apply Z16
    with_reducible repeat first|apply Z0|apply Z1|apply Z2|apply Z3|apply Z4|apply Z5|refine Z6 rfl ?_|apply Z7|apply Z8|apply Z9|apply Z10|apply Z11|apply Z12|apply Z13|apply Z14|apply Z15|apply Z16
    apply Cd.ite rfl
    · conv => lhs; simp -implicitDefEqProofs (maxSteps := 300000) (disch := omega) [-getElem?_pos, -getElem?_neg]
    all_goals intro c0
    all_goals try (cases c0; done)
    all_goals try simp only [Bool.not_eq_true', Bool.not_eq_false', decide_eq_true_eq, decide_eq_false_iff_not] at c0
    all_goals with_reducible repeat first|apply Z0|apply Z1|apply Z2|apply Z3|apply Z4|apply Z5|refine Z6 rfl ?_|apply Z7|apply Z8|apply Z9|apply Z10|apply Z11|apply Z12|apply Z13|apply Z14|apply Z15|apply Z16
    · with_reducible repeat first|apply Z0|apply Z1|apply Z2|apply Z3|apply Z4|apply Z5|refine Z6 rfl ?_|apply Z7|apply Z8|apply Z9|apply Z10|apply Z11|apply Z12|apply Z13|apply Z14|apply Z15|apply Z16
      refine Cd.reg (by kernel_rfl) (by conv => lhs; simp only [List.map_cons, List.map_nil]) (by conv => lhs; simp only [List.map_cons, List.map_nil, strip]) ?_
      apply Run.by_eq
      · intro self
        conv => lhs; simp -implicitDefEqProofs (maxSteps := 300000) (disch := omega) [-getElem?_pos, -getElem?_neg, h8, h7]
      try (with_reducible refine Run.ret ?_)
      with_reducible repeat first|apply Z0|apply Z1|apply Z2|apply Z3|apply Z4|apply Z5|refine Z6 rfl ?_|apply Z7|apply Z8|apply Z9|apply Z10|apply Z11|apply Z12|apply Z13|apply Z14|apply Z15|apply Z16
      with_reducible repeat first|apply Z0|apply Z1|apply Z2|apply Z3|apply Z4|apply Z5|refine Z6 rfl ?_|apply Z7|apply Z8|apply Z9|apply Z10|apply Z11|apply Z12|apply Z13|apply Z14|apply Z15|apply Z16
      refine Cd.reg (by kernel_rfl) (by conv => lhs; simp only [List.map_cons, List.map_nil]) (by conv => lhs; simp only [List.map_cons, List.map_nil, strip]) ?_
      apply Run.by_eq
      · intro self
        conv => lhs; simp -implicitDefEqProofs (maxSteps := 300000) (disch := omega) [-getElem?_pos, -getElem?_neg, h2, hget]
      try (with_reducible refine Run.ret ?_)
      with_reducible repeat first|apply Z0|apply Z1|apply Z2|apply Z3|apply Z4|apply Z5|refine Z6 rfl ?_|apply Z7|apply Z8|apply Z9|apply Z10|apply Z11|apply Z12|apply Z13|apply Z14|apply Z15|apply Z16
      with_reducible repeat first|apply Z0|apply Z1|apply Z2|apply Z3|apply Z4|apply Z5|refine Z6 rfl ?_|apply Z7|apply Z8|apply Z9|apply Z10|apply Z11|apply Z12|apply Z13|apply Z14|apply Z15|apply Z16
      refine Cd.reg (by kernel_rfl) (by conv => lhs; simp only [List.map_cons, List.map_nil]) (by conv => lhs; simp only [List.map_cons, List.map_nil, strip]) ?_
      apply Run.by_eq
      · intro self
        conv => lhs; simp -implicitDefEqProofs (maxSteps := 300000) (disch := omega) [-getElem?_pos, -getElem?_neg, h8]
      try (with_reducible refine Run.ret ?_)
      with_reducible repeat first|apply Z0|apply Z1|apply Z2|apply Z3|apply Z4|apply Z5|refine Z6 rfl ?_|apply Z7|apply Z8|apply Z9|apply Z10|apply Z11|apply Z12|apply Z13|apply Z14|apply Z15|apply Z16
      refine LoopK.nm (4 - (1 + 1)) (by omega) ⟨1 + 1, by omega, rfl, by simp [hm], by simp, by simp [h7], by simp [h2], by simp [h4], hkp.upded (Nat.le_refl _) _, by simpa using hnx, ?_, ?_⟩
      · simp [mixL, Mass.add]
      · simp -implicitDefEqProofs (disch := omega) [hget2]
  · with_reducible repeat first|apply Z0|apply Z1|apply Z2|apply Z3|apply Z4|apply Z5|refine Z6 rfl ?_|apply Z7|apply Z8|apply Z9|apply Z10|apply Z11|apply Z12|apply Z13|apply Z14|apply Z15|apply Z16
    refine Cd.reg (by kernel_rfl) (by conv => lhs; simp only [List.map_cons, List.map_nil]) (by conv => lhs; simp only [List.map_cons, List.map_nil, strip]) ?_
    apply Run.by_eq
    · intro self
      conv => lhs; simp -implicitDefEqProofs (maxSteps := 300000) (disch := omega) [-getElem?_pos, -getElem?_neg, h8]
    try (with_reducible refine Run.ret ?_)
    with_reducible repeat first|apply Z0|apply Z1|apply Z2|apply Z3|apply Z4|apply Z5|refine Z6 rfl ?_|apply Z7|apply Z8|apply Z9|apply Z10|apply Z11|apply Z12|apply Z13|apply Z14|apply Z15|apply Z16
    with_reducible repeat first|apply Z0|apply Z1|apply Z2|apply Z3|apply Z4|apply Z5|refine Z6 rfl ?_|apply Z7|apply Z8|apply Z9|apply Z10|apply Z11|apply Z12|apply Z13|apply Z14|apply Z15|apply Z16
    apply Cd.ite rfl
    · conv => lhs; simp -implicitDefEqProofs (maxSteps := 300000) (disch := omega) [-getElem?_pos, -getElem?_neg]
    all_goals intro c0
    all_goals try (cases c0; done)
    all_goals try simp only [Bool.not_eq_true', Bool.not_eq_false', decide_eq_true_eq, decide_eq_false_iff_not] at c0
    all_goals with_reducible repeat first|apply Z0|apply Z1|apply Z2|apply Z3|apply Z4|apply Z5|refine Z6 rfl ?_|apply Z7|apply Z8|apply Z9|apply Z10|apply Z11|apply Z12|apply Z13|apply Z14|apply Z15|apply Z16
    · with_reducible repeat first|apply Z0|apply Z1|apply Z2|apply Z3|apply Z4|apply Z5|refine Z6 rfl ?_|apply Z7|apply Z8|apply Z9|apply Z10|apply Z11|apply Z12|apply Z13|apply Z14|apply Z15|apply Z16
      refine Cd.reg (by kernel_rfl) (by conv => lhs; simp only [List.map_cons, List.map_nil]) (by conv => lhs; simp only [List.map_cons, List.map_nil, strip]) ?_
      apply Run.by_eq
      · intro self
        conv => lhs; simp -implicitDefEqProofs (maxSteps := 300000) (disch := omega) [-getElem?_pos, -getElem?_neg, h8, h7]
      try (with_reducible refine Run.ret ?_)
      with_reducible repeat first|apply Z0|apply Z1|apply Z2|apply Z3|apply Z4|apply Z5|refine Z6 rfl ?_|apply Z7|apply Z8|apply Z9|apply Z10|apply Z11|apply Z12|apply Z13|apply Z14|apply Z15|apply Z16
      with_reducible repeat first|apply Z0|apply Z1|apply Z2|apply Z3|apply Z4|apply Z5|refine Z6 rfl ?_|apply Z7|apply Z8|apply Z9|apply Z10|apply Z11|apply Z12|apply Z13|apply Z14|apply Z15|apply Z16
      refine Cd.reg (by kernel_rfl) (by conv => lhs; simp only [List.map_cons, List.map_nil]) (by conv => lhs; simp only [List.map_cons, List.map_nil, strip]) ?_
      apply Run.by_eq
      · intro self
        conv => lhs; simp -implicitDefEqProofs (maxSteps := 300000) (disch := omega) [-getElem?_pos, -getElem?_neg, h2, hget]
      try (with_reducible refine Run.ret ?_)
      with_reducible repeat first|apply Z0|apply Z1|apply Z2|apply Z3|apply Z4|apply Z5|refine Z6 rfl ?_|apply Z7|apply Z8|apply Z9|apply Z10|apply Z11|apply Z12|apply Z13|apply Z14|apply Z15|apply Z16
      with_reducible repeat first|apply Z0|apply Z1|apply Z2|apply Z3|apply Z4|apply Z5|refine Z6 rfl ?_|apply Z7|apply Z8|apply Z9|apply Z10|apply Z11|apply Z12|apply Z13|apply Z14|apply Z15|apply Z16
      refine Cd.reg (by kernel_rfl) (by conv => lhs; simp only [List.map_cons, List.map_nil]) (by conv => lhs; simp only [List.map_cons, List.map_nil, strip]) ?_
      apply Run.by_eq
      · intro self
        conv => lhs; simp -implicitDefEqProofs (maxSteps := 300000) (disch := omega) [-getElem?_pos, -getElem?_neg, h8]
      try (with_reducible refine Run.ret ?_)
      with_reducible repeat first|apply Z0|apply Z1|apply Z2|apply Z3|apply Z4|apply Z5|refine Z6 rfl ?_|apply Z7|apply Z8|apply Z9|apply Z10|apply Z11|apply Z12|apply Z13|apply Z14|apply Z15|apply Z16
      refine LoopK.nm (4 - (2 + 1)) (by omega) ⟨2 + 1, by omega, rfl, by simp [hm], by simp, by simp [h7], by simp [h2], by simp [h4], hkp.upded (Nat.le_refl _) _, by simpa using hnx, ?_, ?_⟩
      · simp [mixL, Mass.add]
      · simp -implicitDefEqProofs (disch := omega) [hget2]
  · with_reducible repeat first|apply Z0|apply Z1|apply Z2|apply Z3|apply Z4|apply Z5|refine Z6 rfl ?_|apply Z7|apply Z8|apply Z9|apply Z10|apply Z11|apply Z12|apply Z13|apply Z14|apply Z15|apply Z16
    refine Cd.reg (by kernel_rfl) (by conv => lhs; simp only [List.map_cons, List.map_nil]) (by conv => lhs; simp only [List.map_cons, List.map_nil, strip]) ?_
    apply Run.by_eq
    · intro self
      conv => lhs; simp -implicitDefEqProofs (maxSteps := 300000) (disch := omega) [-getElem?_pos, -getElem?_neg, h8]
    try (with_reducible refine Run.ret ?_)
    with_reducible repeat first|apply Z0|apply Z1|apply Z2|apply Z3|apply Z4|apply Z5|refine Z6 rfl ?_|apply Z7|apply Z8|apply Z9|apply Z10|apply Z11|apply Z12|apply Z13|apply Z14|apply Z15|apply Z16
    with_reducible repeat first|apply Z0|apply Z1|apply Z2|apply Z3|apply Z4|apply Z5|refine Z6 rfl ?_|apply Z7|apply Z8|apply Z9|apply Z10|apply Z11|apply Z12|apply Z13|apply Z14|apply Z15|apply Z16
    apply Cd.ite rfl
    · conv => lhs; simp -implicitDefEqProofs (maxSteps := 300000) (disch := omega) [-getElem?_pos, -getElem?_neg]
    all_goals intro c0
    all_goals try (cases c0; done)
    all_goals try simp only [Bool.not_eq_true', Bool.not_eq_false', decide_eq_true_eq, decide_eq_false_iff_not] at c0
    all_goals with_reducible repeat first|apply Z0|apply Z1|apply Z2|apply Z3|apply Z4|apply Z5|refine Z6 rfl ?_|apply Z7|apply Z8|apply Z9|apply Z10|apply Z11|apply Z12|apply Z13|apply Z14|apply Z15|apply Z16
    · with_reducible repeat first|apply Z0|apply Z1|apply Z2|apply Z3|apply Z4|apply Z5|refine Z6 rfl ?_|apply Z7|apply Z8|apply Z9|apply Z10|apply Z11|apply Z12|apply Z13|apply Z14|apply Z15|apply Z16
      refine Cd.reg (by kernel_rfl) (by conv => lhs; simp only [List.map_cons, List.map_nil]) (by conv => lhs; simp only [List.map_cons, List.map_nil, strip]) ?_
      apply Run.by_eq
      · intro self
        conv => lhs; simp -implicitDefEqProofs (maxSteps := 300000) (disch := omega) [-getElem?_pos, -getElem?_neg, h8, h7]
      try (with_reducible refine Run.ret ?_)
      with_reducible repeat first|apply Z0|apply Z1|apply Z2|apply Z3|apply Z4|apply Z5|refine Z6 rfl ?_|apply Z7|apply Z8|apply Z9|apply Z10|apply Z11|apply Z12|apply Z13|apply Z14|apply Z15|apply Z16
      with_reducible repeat first|apply Z0|apply Z1|apply Z2|apply Z3|apply Z4|apply Z5|refine Z6 rfl ?_|apply Z7|apply Z8|apply Z9|apply Z10|apply Z11|apply Z12|apply Z13|apply Z14|apply Z15|apply Z16
      refine Cd.reg (by kernel_rfl) (by conv => lhs; simp only [List.map_cons, List.map_nil]) (by conv => lhs; simp only [List.map_cons, List.map_nil, strip]) ?_
      apply Run.by_eq
      · intro self
        conv => lhs; simp -implicitDefEqProofs (maxSteps := 300000) (disch := omega) [-getElem?_pos, -getElem?_neg, h2, hget]
      try (with_reducible refine Run.ret ?_)
      with_reducible repeat first|apply Z0|apply Z1|apply Z2|apply Z3|apply Z4|apply Z5|refine Z6 rfl ?_|apply Z7|apply Z8|apply Z9|apply Z10|apply Z11|apply Z12|apply Z13|apply Z14|apply Z15|apply Z16
      with_reducible repeat first|apply Z0|apply Z1|apply Z2|apply Z3|apply Z4|apply Z5|refine Z6 rfl ?_|apply Z7|apply Z8|apply Z9|apply Z10|apply Z11|apply Z12|apply Z13|apply Z14|apply Z15|apply Z16
      refine Cd.reg (by kernel_rfl) (by conv => lhs; simp only [List.map_cons, List.map_nil]) (by conv => lhs; simp only [List.map_cons, List.map_nil, strip]) ?_
      apply Run.by_eq
      · intro self
        conv => lhs; simp -implicitDefEqProofs (maxSteps := 300000) (disch := omega) [-getElem?_pos, -getElem?_neg, h8]
      try (with_reducible refine Run.ret ?_)
      with_reducible repeat first|apply Z0|apply Z1|apply Z2|apply Z3|apply Z4|apply Z5|refine Z6 rfl ?_|apply Z7|apply Z8|apply Z9|apply Z10|apply Z11|apply Z12|apply Z13|apply Z14|apply Z15|apply Z16
      refine LoopK.nm (4 - (3 + 1)) (by omega) ⟨3 + 1, by omega, rfl, by simp [hm], by simp, by simp [h7], by simp [h2], by simp [h4], hkp.upded (Nat.le_refl _) _, by simpa using hnx, ?_, ?_⟩
      · simp [mixL, Mass.add]
      · simp -implicitDefEqProofs (disch := omega) [hget2]
  · with_reducible repeat first|apply Z0|apply Z1|apply Z2|apply Z3|apply Z4|apply Z5|refine Z6 rfl ?_|apply Z7|apply Z8|apply Z9|apply Z10|apply Z11|apply Z12|apply Z13|apply Z14|apply Z15|apply Z16
    refine Cd.reg (by kernel_rfl) (by conv => lhs; simp only [List.map_cons, List.map_nil]) (by conv => lhs; simp only [List.map_cons, List.map_nil, strip]) ?_
    apply Run.by_eq
    · intro self
      conv => lhs; simp -implicitDefEqProofs (maxSteps := 300000) (disch := omega) [-getElem?_pos, -getElem?_neg, h8]
    try (with_reducible refine Run.ret ?_)
    with_reducible repeat first|apply Z0|apply Z1|apply Z2|apply Z3|apply Z4|apply Z5|refine Z6 rfl ?_|apply Z7|apply Z8|apply Z9|apply Z10|apply Z11|apply Z12|apply Z13|apply Z14|apply Z15|apply Z16
    with_reducible repeat first|apply Z0|apply Z1|apply Z2|apply Z3|apply Z4|apply Z5|refine Z6 rfl ?_|apply Z7|apply Z8|apply Z9|apply Z10|apply Z11|apply Z12|apply Z13|apply Z14|apply Z15|apply Z16
    apply Cd.ite rfl
    · conv => lhs; simp -implicitDefEqProofs (maxSteps := 300000) (disch := omega) [-getElem?_pos, -getElem?_neg]
    all_goals intro c0
    all_goals try (cases c0; done)
    all_goals try simp only [Bool.not_eq_true', Bool.not_eq_false', decide_eq_true_eq, decide_eq_false_iff_not] at c0
    all_goals with_reducible repeat first|apply Z0|apply Z1|apply Z2|apply Z3|apply Z4|apply Z5|refine Z6 rfl ?_|apply Z7|apply Z8|apply Z9|apply Z10|apply Z11|apply Z12|apply Z13|apply Z14|apply Z15|apply Z16
    with_reducible repeat first|apply Z0|apply Z1|apply Z2|apply Z3|apply Z4|apply Z5|refine Z6 rfl ?_|apply Z7|apply Z8|apply Z9|apply Z10|apply Z11|apply Z12|apply Z13|apply Z14|apply Z15|apply Z16
    refine Cd.reg (by kernel_rfl) (by conv => lhs; simp only [List.map_cons, List.map_nil]) (by conv => lhs; simp only [List.map_cons, List.map_nil, strip]) ?_
    apply Run.by_eq
    · intro self
      conv => lhs; simp -implicitDefEqProofs (maxSteps := 300000) (disch := omega) [-getElem?_pos, -getElem?_neg, h2, hget, h4, hget2]
    try (with_reducible refine Run.ret ?_)
    with_reducible repeat first|apply Z0|apply Z1|apply Z2|apply Z3|apply Z4|apply Z5|refine Z6 rfl ?_|apply Z7|apply Z8|apply Z9|apply Z10|apply Z11|apply Z12|apply Z13|apply Z14|apply Z15|apply Z16
    apply Leave.mk (by first | exact .inl rfl | exact .inr rfl) (by simp only [Fr.marks_put, fr0_marks, hm, h4])
    · conv => lhs; simp -implicitDefEqProofs (disch := omega) [Try.results61, hm, h4]
    exact ⟨rfl, hkp.upded (by omega) _⟩
set_option maxRecDepth 100000 in
set_option maxHeartbeats 1000000 in
theorem minus_ev (m p : Mass) (s : St) (hb : (m.sub p).le 4611686018427387904) : Ev TT 62 [m.v, p.v] s fun v s' => v = (m.sub p).v ∧ Keep s s' := by
  obtain ⟨⟨a1, a2⟩, ⟨b1, b2⟩, ⟨c1, c2⟩, d1, d2⟩ := hb
  simp only [Mass.sub] at a1 a2 b1 b2 c1 c2 d1 d2
  unfold Mass.v
  refine Ev.intro (fn := Try.f62) rfl (by kernel_rfl) rfl rfl ?_
  with_reducible repeat first|apply Z0|apply Z1|apply Z2|apply Z3|apply Z4|apply Z5|refine Z6 rfl ?_|apply Z7|apply Z8|apply Z9|apply Z10|apply Z11|apply Z12|apply Z13|apply Z14|apply Z15|apply Z16
  with_reducible repeat first|apply Z0|apply Z1|apply Z2|apply Z3|apply Z4|apply Z5|refine Z6 rfl ?_|apply Z7|apply Z8|apply Z9|apply Z10|apply Z11|apply Z12|apply Z13|apply Z14|apply Z15|apply Z16
  refine Cd.reg (by kernel_rfl) (by conv => lhs; simp only [List.map_cons, List.map_nil]) (by conv => lhs; simp only [List.map_cons, List.map_nil, strip]) ?_
  apply Run.by_eq
  · intro self
    conv => lhs; simp -implicitDefEqProofs (maxSteps := 300000) (disch := omega) [-getElem?_pos, -getElem?_neg]
  try (with_reducible refine Run.ret ?_)
  with_reducible repeat first|apply Z0|apply Z1|apply Z2|apply Z3|apply Z4|apply Z5|refine Z6 rfl ?_|apply Z7|apply Z8|apply Z9|apply Z10|apply Z11|apply Z12|apply Z13|apply Z14|apply Z15|apply Z16
  with_reducible repeat first|apply Z0|apply Z1|apply Z2|apply Z3|apply Z4|apply Z5|refine Z6 rfl ?_|apply Z7|apply Z8|apply Z9|apply Z10|apply Z11|apply Z12|apply Z13|apply Z14|apply Z15|apply Z16
  refine Cd.reg (by kernel_rfl) (by conv => lhs; simp only [List.map_cons, List.map_nil]) (by conv => lhs; simp only [List.map_cons, List.map_nil, strip]) ?_
  apply Run.by_eq
  · intro self
    conv => lhs; simp -implicitDefEqProofs (maxSteps := 300000) (disch := omega) [-getElem?_pos, -getElem?_neg]
  try (with_reducible refine Run.ret ?_)
  with_reducible repeat first|apply Z0|apply Z1|apply Z2|apply Z3|apply Z4|apply Z5|refine Z6 rfl ?_|apply Z7|apply Z8|apply Z9|apply Z10|apply Z11|apply Z12|apply Z13|apply Z14|apply Z15|apply Z16
  refine Cd.inv (fun w f s' => ∃ k : Nat, k ≤ 4 ∧ w = 4 - k ∧ f.marks = [] ∧ f.get 8 = .int .i64 k ∧ f.get 7 = .agg [.int .i64 p.a, .int .i64 p.b, .int .i64 p.c, .int .i64 p.d].toArray ∧ f.get 2 = .pointer (some ⟨s.next, 0, none⟩) ∧ f.get 4 = .pointer (some ⟨s.next + 1 + 1, 0, none⟩) ∧ Keep s s' ∧ s.next + 1 + 1 < s'.next ∧ s'.heap.get s.next = some (.cells (mixL k (m.sub p) m) none) ∧ s'.heap.get (s.next + 1 + 1) = some (.cells [.int .i64 0, .int .i64 0, .int .i64 0, .int .i64 0] none)) 4 ?_ ?_
  · exact ⟨0, by omega, rfl, by simp, by simp, by simp, by simp, by simp, (((Keep.refl _).pushed _).pushed _).pushed _, by simp, by simp -implicitDefEqProofs (disch := omega) [mixL], by simp⟩
  rintro w f s' ⟨k, hk, rfl, hm, h8, h7, h2, h4, hkp, hnx, hget, hget2⟩
  have hkpa := hkp.1
  have hk5 : k = 0 ∨ k = 1 ∨ k = 2 ∨ k = 3 ∨ k = 4 := by omega
  rcases hk5 with rfl | rfl | rfl | rfl | rfl
  all_goals simp only [mixL, Mass.sub, Nat.lt_irrefl, if_false, Nat.reduceLT, if_true] at hget
  · with_reducible repeat first|apply Z0|apply Z1|apply Z2|apply Z3|apply Z4|apply Z5|refine Z6 rfl ?_|apply Z7|apply Z8|apply Z9|apply Z10|apply Z11|apply Z12|apply Z13|apply Z14|apply Z15|apply Z16
    refine Cd.reg (by kernel_rfl) (by conv => lhs; simp only [List.map_cons, List.map_nil]) (by conv => lhs; simp only [List.map_cons, List.map_nil, strip]) ?_
    apply Run.by_eq
    · intro self
      conv => lhs; simp -implicitDefEqProofs (maxSteps := 300000) (disch := omega) [-getElem?_pos, -getElem?_neg, h8]
    try (with_reducible refine Run.ret ?_)
    with_reducible repeat first|apply Z0|apply Z1|apply Z2|apply Z3|apply Z4|apply Z5|refine Z6 rfl ?_|apply Z7|apply Z8|apply Z9|apply Z10|apply Z11|apply Z12|apply Z13|apply Z14|apply Z15|apply Z16
    with_reducible repeat first|apply Z0|apply Z1|apply Z2|apply Z3|apply Z4|apply Z5|refine Z6 rfl ?_|apply Z7|apply Z8|apply Z9|apply Z10|apply Z11|apply Z12|apply Z13|apply Z14|apply Z15|apply Z16
    apply Cd.ite rfl
    · conv => lhs; simp -implicitDefEqProofs (maxSteps := 300000) (disch := omega) [-getElem?_pos, -getElem?_neg]
    all_goals intro c0
    all_goals try (cases c0; done)
    all_goals try simp only [Bool.not_eq_true', Bool.not_eq_false', decide_eq_true_eq, decide_eq_false_iff_not] at c0
    all_goals with_reducible repeat first|apply Z0|apply Z1|apply Z2|apply Z3|apply Z4|apply Z5|refine Z6 rfl ?_|apply Z7|apply Z8|apply Z9|apply Z10|apply Z11|apply Z12|apply Z13|apply Z14|apply Z15|apply Z16
    · with_reducible repeat first|apply Z0|apply Z1|apply Z2|apply Z3|apply Z4|apply Z5|refine Z6 rfl ?_|apply Z7|apply Z8|apply Z9|apply Z10|apply Z11|apply Z12|apply Z13|apply Z14|apply Z15|apply Z16
      refine Cd.reg (by kernel_rfl) (by conv => lhs; simp only [List.map_cons, List.map_nil]) (by conv => lhs; simp only [List.map_cons, List.map_nil, strip]) ?_
      apply Run.by_eq
      · intro self
        conv => lhs; simp -implicitDefEqProofs (maxSteps := 300000) (disch := omega) [-getElem?_pos, -getElem?_neg, h8, h7]
      try (with_reducible refine Run.ret ?_)
      with_reducible repeat first|apply Z0|apply Z1|apply Z2|apply Z3|apply Z4|apply Z5|refine Z6 rfl ?_|apply Z7|apply Z8|apply Z9|apply Z10|apply Z11|apply Z12|apply Z13|apply Z14|apply Z15|apply Z16
      with_reducible repeat first|apply Z0|apply Z1|apply Z2|apply Z3|apply Z4|apply Z5|refine Z6 rfl ?_|apply Z7|apply Z8|apply Z9|apply Z10|apply Z11|apply Z12|apply Z13|apply Z14|apply Z15|apply Z16
      refine Cd.reg (by kernel_rfl) (by conv => lhs; simp only [List.map_cons, List.map_nil]) (by conv => lhs; simp only [List.map_cons, List.map_nil, strip]) ?_
      apply Run.by_eq
      · intro self
        conv => lhs; simp -implicitDefEqProofs (maxSteps := 300000) (disch := omega) [-getElem?_pos, -getElem?_neg, h2, hget]
      try (with_reducible refine Run.ret ?_)
      with_reducible repeat first|apply Z0|apply Z1|apply Z2|apply Z3|apply Z4|apply Z5|refine Z6 rfl ?_|apply Z7|apply Z8|apply Z9|apply Z10|apply Z11|apply Z12|apply Z13|apply Z14|apply Z15|apply Z16
      with_reducible repeat first|apply Z0|apply Z1|apply Z2|apply Z3|apply Z4|apply Z5|refine Z6 rfl ?_|apply Z7|apply Z8|apply Z9|apply Z10|apply Z11|apply Z12|apply Z13|apply Z14|apply Z15|apply Z16
      refine Cd.reg (by kernel_rfl) (by conv => lhs; simp only [List.map_cons, List.map_nil]) (by conv => lhs; simp only [List.map_cons, List.map_nil, strip]) ?_
      apply Run.by_eq
      · intro self
        conv => lhs; simp -implicitDefEqProofs (maxSteps := 300000) (disch := omega) [-getElem?_pos, -getElem?_neg, h8]
      try (with_reducible refine Run.ret ?_)
      with_reducible repeat first|apply Z0|apply Z1|apply Z2|apply Z3|apply Z4|apply Z5|refine Z6 rfl ?_|apply Z7|apply Z8|apply Z9|apply Z10|apply Z11|apply Z12|apply Z13|apply Z14|apply Z15|apply Z16
      refine LoopK.nm (4 - (0 + 1)) (by omega) ⟨0 + 1, by omega, rfl, by simp [hm], by simp, by simp [h7], by simp [h2], by simp [h4], hkp.upded (Nat.le_refl _) _, by simpa using hnx, ?_, ?_⟩
      · simp [mixL, Mass.sub]
      · simp -implicitDefEqProofs (disch := omega) [hget2]
  · with_reducible repeat first|apply Z0|apply Z1|apply Z2|apply Z3|apply Z4|apply Z5|refine Z6 rfl ?_|apply Z7|apply Z8|apply Z9|apply Z10|apply Z11|apply Z12|apply Z13|apply Z14|apply Z15|apply Z16
    refine Cd.reg (by kernel_rfl) (by conv => lhs; simp only [List.map_cons, List.map_nil]) (by conv => lhs; simp only [List.map_cons, List.map_nil, strip]) ?_
    apply Run.by_eq
    · intro self
      conv => lhs; simp -implicitDefEqProofs (maxSteps := 300000) (disch := omega) [-getElem?_pos, -getElem?_neg, h8]
    try (with_reducible refine Run.ret ?_)
    with_reducible repeat first|apply Z0|apply Z1|apply Z2|apply Z3|apply Z4|apply Z5|refine Z6 rfl ?_|apply Z7|apply Z8|apply Z9|apply Z10|apply Z11|apply Z12|apply Z13|apply Z14|apply Z15|apply Z16
    with_reducible repeat first|apply Z0|apply Z1|apply Z2|apply Z3|apply Z4|apply Z5|refine Z6 rfl ?_|apply Z7|apply Z8|apply Z9|apply Z10|apply Z11|apply Z12|apply Z13|apply Z14|apply Z15|apply Z16
    apply Cd.ite rfl
    · conv => lhs; simp -implicitDefEqProofs (maxSteps := 300000) (disch := omega) [-getElem?_pos, -getElem?_neg]
    all_goals intro c0
    all_goals try (cases c0; done)
    all_goals try simp only [Bool.not_eq_true', Bool.not_eq_false', decide_eq_true_eq, decide_eq_false_iff_not] at c0
    all_goals with_reducible repeat first|apply Z0|apply Z1|apply Z2|apply Z3|apply Z4|apply Z5|refine Z6 rfl ?_|apply Z7|apply Z8|apply Z9|apply Z10|apply Z11|apply Z12|apply Z13|apply Z14|apply Z15|apply Z16
    · with_reducible repeat first|apply Z0|apply Z1|apply Z2|apply Z3|apply Z4|apply Z5|refine Z6 rfl ?_|apply Z7|apply Z8|apply Z9|apply Z10|apply Z11|apply Z12|apply Z13|apply Z14|apply Z15|apply Z16
      refine Cd.reg (by kernel_rfl) (by conv => lhs; simp only [List.map_cons, List.map_nil]) (by conv => lhs; simp only [List.map_cons, List.map_nil, strip]) ?_
      apply Run.by_eq
      · intro self
        conv => lhs; simp -implicitDefEqProofs (maxSteps := 300000) (disch := omega) [-getElem?_pos, -getElem?_neg, h8, h7]
      try (with_reducible refine Run.ret ?_)
      with_reducible repeat first|apply Z0|apply Z1|apply Z2|apply Z3|apply Z4|apply Z5|refine Z6 rfl ?_|apply Z7|apply Z8|apply Z9|apply Z10|apply Z11|apply Z12|apply Z13|apply Z14|apply Z15|apply Z16
      with_reducible repeat first|apply Z0|apply Z1|apply Z2|apply Z3|apply Z4|apply Z5|refine Z6 rfl ?_|apply Z7|apply Z8|apply Z9|apply Z10|apply Z11|apply Z12|apply Z13|apply Z14|apply Z15|apply Z16
      refine Cd.reg (by kernel_rfl) (by conv => lhs; simp only [List.map_cons, List.map_nil]) (by conv => lhs; simp only [List.map_cons, List.map_nil, strip]) ?_
      apply Run.by_eq
      · intro self
        conv => lhs; simp -implicitDefEqProofs (maxSteps := 300000) (disch := omega) [-getElem?_pos, -getElem?_neg, h2, hget]
      try (with_reducible refine Run.ret ?_)
      with_reducible repeat first|apply Z0|apply Z1|apply Z2|apply Z3|apply Z4|apply Z5|refine Z6 rfl ?_|apply Z7|apply Z8|apply Z9|apply Z10|apply Z11|apply Z12|apply Z13|apply Z14|apply Z15|apply Z16
      with_reducible repeat first|apply Z0|apply Z1|apply Z2|apply Z3|apply Z4|apply Z5|refine Z6 rfl ?_|apply Z7|apply Z8|apply Z9|apply Z10|apply Z11|apply Z12|apply Z13|apply Z14|apply Z15|apply Z16
      refine Cd.reg (by kernel_rfl) (by conv => lhs; simp only [List.map_cons, List.map_nil]) (by conv => lhs; simp only [List.map_cons, List.map_nil, strip]) ?_
      apply Run.by_eq
      · intro self
        conv => lhs; simp -implicitDefEqProofs (maxSteps := 300000) (disch := omega) [-getElem?_pos, -getElem?_neg, h8]
      try (with_reducible refine Run.ret ?_)
      with_reducible repeat first|apply Z0|apply Z1|apply Z2|apply Z3|apply Z4|apply Z5|refine Z6 rfl ?_|apply Z7|apply Z8|apply Z9|apply Z10|apply Z11|apply Z12|apply Z13|apply Z14|apply Z15|apply Z16
      refine LoopK.nm (4 - (1 + 1)) (by omega) ⟨1 + 1, by omega, rfl, by simp [hm], by simp, by simp [h7], by simp [h2], by simp [h4], hkp.upded (Nat.le_refl _) _, by simpa using hnx, ?_, ?_⟩
      · simp [mixL, Mass.sub]
      · simp -implicitDefEqProofs (disch := omega) [hget2]
  · with_reducible repeat first|apply Z0|apply Z1|apply Z2|apply Z3|apply Z4|apply Z5|refine Z6 rfl ?_|apply Z7|apply Z8|apply Z9|apply Z10|apply Z11|apply Z12|apply Z13|apply Z14|apply Z15|apply Z16
    refine Cd.reg (by kernel_rfl) (by conv => lhs; simp only [List.map_cons, List.map_nil]) (by conv => lhs; simp only [List.map_cons, List.map_nil, strip]) ?_
    apply Run.by_eq
    · intro self
      conv => lhs; simp -implicitDefEqProofs (maxSteps := 300000) (disch := omega) [-getElem?_pos, -getElem?_neg, h8]
    try (with_reducible refine Run.ret ?_)
    with_reducible repeat first|apply Z0|apply Z1|apply Z2|apply Z3|apply Z4|apply Z5|refine Z6 rfl ?_|apply Z7|apply Z8|apply Z9|apply Z10|apply Z11|apply Z12|apply Z13|apply Z14|apply Z15|apply Z16
    with_reducible repeat first|apply Z0|apply Z1|apply Z2|apply Z3|apply Z4|apply Z5|refine Z6 rfl ?_|apply Z7|apply Z8|apply Z9|apply Z10|apply Z11|apply Z12|apply Z13|apply Z14|apply Z15|apply Z16
    apply Cd.ite rfl
    · conv => lhs; simp -implicitDefEqProofs (maxSteps := 300000) (disch := omega) [-getElem?_pos, -getElem?_neg]
    all_goals intro c0
    all_goals try (cases c0; done)
    all_goals try simp only [Bool.not_eq_true', Bool.not_eq_false', decide_eq_true_eq, decide_eq_false_iff_not] at c0
    all_goals with_reducible repeat first|apply Z0|apply Z1|apply Z2|apply Z3|apply Z4|apply Z5|refine Z6 rfl ?_|apply Z7|apply Z8|apply Z9|apply Z10|apply Z11|apply Z12|apply Z13|apply Z14|apply Z15|apply Z16
    · with_reducible repeat first|apply Z0|apply Z1|apply Z2|apply Z3|apply Z4|apply Z5|refine Z6 rfl ?_|apply Z7|apply Z8|apply Z9|apply Z10|apply Z11|apply Z12|apply Z13|apply Z14|apply Z15|apply Z16
      refine Cd.reg (by kernel_rfl) (by conv => lhs; simp only [List.map_cons, List.map_nil]) (by conv => lhs; simp only [List.map_cons, List.map_nil, strip]) ?_
      apply Run.by_eq
      · intro self
        conv => lhs; simp -implicitDefEqProofs (maxSteps := 300000) (disch := omega) [-getElem?_pos, -getElem?_neg, h8, h7]
      try (with_reducible refine Run.ret ?_)
      with_reducible repeat first|apply Z0|apply Z1|apply Z2|apply Z3|apply Z4|apply Z5|refine Z6 rfl ?_|apply Z7|apply Z8|apply Z9|apply Z10|apply Z11|apply Z12|apply Z13|apply Z14|apply Z15|apply Z16
      with_reducible repeat first|apply Z0|apply Z1|apply Z2|apply Z3|apply Z4|apply Z5|refine Z6 rfl ?_|apply Z7|apply Z8|apply Z9|apply Z10|apply Z11|apply Z12|apply Z13|apply Z14|apply Z15|apply Z16
      refine Cd.reg (by kernel_rfl) (by conv => lhs; simp only [List.map_cons, List.map_nil]) (by conv => lhs; simp only [List.map_cons, List.map_nil, strip]) ?_
      apply Run.by_eq
      · intro self
        conv => lhs; simp -implicitDefEqProofs (maxSteps := 300000) (disch := omega) [-getElem?_pos, -getElem?_neg, h2, hget]
      try (with_reducible refine Run.ret ?_)
      with_reducible repeat first|apply Z0|apply Z1|apply Z2|apply Z3|apply Z4|apply Z5|refine Z6 rfl ?_|apply Z7|apply Z8|apply Z9|apply Z10|apply Z11|apply Z12|apply Z13|apply Z14|apply Z15|apply Z16
      with_reducible repeat first|apply Z0|apply Z1|apply Z2|apply Z3|apply Z4|apply Z5|refine Z6 rfl ?_|apply Z7|apply Z8|apply Z9|apply Z10|apply Z11|apply Z12|apply Z13|apply Z14|apply Z15|apply Z16
      refine Cd.reg (by kernel_rfl) (by conv => lhs; simp only [List.map_cons, List.map_nil]) (by conv => lhs; simp only [List.map_cons, List.map_nil, strip]) ?_
      apply Run.by_eq
      · intro self
        conv => lhs; simp -implicitDefEqProofs (maxSteps := 300000) (disch := omega) [-getElem?_pos, -getElem?_neg, h8]
      try (with_reducible refine Run.ret ?_)
      with_reducible repeat first|apply Z0|apply Z1|apply Z2|apply Z3|apply Z4|apply Z5|refine Z6 rfl ?_|apply Z7|apply Z8|apply Z9|apply Z10|apply Z11|apply Z12|apply Z13|apply Z14|apply Z15|apply Z16
      refine LoopK.nm (4 - (2 + 1)) (by omega) ⟨2 + 1, by omega, rfl, by simp [hm], by simp, by simp [h7], by simp [h2], by simp [h4], hkp.upded (Nat.le_refl _) _, by simpa using hnx, ?_, ?_⟩
      · simp [mixL, Mass.sub]
      · simp -implicitDefEqProofs (disch := omega) [hget2]
  · with_reducible repeat first|apply Z0|apply Z1|apply Z2|apply Z3|apply Z4|apply Z5|refine Z6 rfl ?_|apply Z7|apply Z8|apply Z9|apply Z10|apply Z11|apply Z12|apply Z13|apply Z14|apply Z15|apply Z16
    refine Cd.reg (by kernel_rfl) (by conv => lhs; simp only [List.map_cons, List.map_nil]) (by conv => lhs; simp only [List.map_cons, List.map_nil, strip]) ?_
    apply Run.by_eq
    · intro self
      conv => lhs; simp -implicitDefEqProofs (maxSteps := 300000) (disch := omega) [-getElem?_pos, -getElem?_neg, h8]
    try (with_reducible refine Run.ret ?_)
    with_reducible repeat first|apply Z0|apply Z1|apply Z2|apply Z3|apply Z4|apply Z5|refine Z6 rfl ?_|apply Z7|apply Z8|apply Z9|apply Z10|apply Z11|apply Z12|apply Z13|apply Z14|apply Z15|apply Z16
    with_reducible repeat first|apply Z0|apply Z1|apply Z2|apply Z3|apply Z4|apply Z5|refine Z6 rfl ?_|apply Z7|apply Z8|apply Z9|apply Z10|apply Z11|apply Z12|apply Z13|apply Z14|apply Z15|apply Z16
    apply Cd.ite rfl
    · conv => lhs; simp -implicitDefEqProofs (maxSteps := 300000) (disch := omega) [-getElem?_pos, -getElem?_neg]
    all_goals intro c0
    all_goals try (cases c0; done)
    all_goals try simp only [Bool.not_eq_true', Bool.not_eq_false', decide_eq_true_eq, decide_eq_false_iff_not] at c0
    all_goals with_reducible repeat first|apply Z0|apply Z1|apply Z2|apply Z3|apply Z4|apply Z5|refine Z6 rfl ?_|apply Z7|apply Z8|apply Z9|apply Z10|apply Z11|apply Z12|apply Z13|apply Z14|apply Z15|apply Z16
    · with_reducible repeat first|apply Z0|apply Z1|apply Z2|apply Z3|apply Z4|apply Z5|refine Z6 rfl ?_|apply Z7|apply Z8|apply Z9|apply Z10|apply Z11|apply Z12|apply Z13|apply Z14|apply Z15|apply Z16
      refine Cd.reg (by kernel_rfl) (by conv => lhs; simp only [List.map_cons, List.map_nil]) (by conv => lhs; simp only [List.map_cons, List.map_nil, strip]) ?_
      apply Run.by_eq
      · intro self
        conv => lhs; simp -implicitDefEqProofs (maxSteps := 300000) (disch := omega) [-getElem?_pos, -getElem?_neg, h8, h7]
      try (with_reducible refine Run.ret ?_)
      with_reducible repeat first|apply Z0|apply Z1|apply Z2|apply Z3|apply Z4|apply Z5|refine Z6 rfl ?_|apply Z7|apply Z8|apply Z9|apply Z10|apply Z11|apply Z12|apply Z13|apply Z14|apply Z15|apply Z16
      with_reducible repeat first|apply Z0|apply Z1|apply Z2|apply Z3|apply Z4|apply Z5|refine Z6 rfl ?_|apply Z7|apply Z8|apply Z9|apply Z10|apply Z11|apply Z12|apply Z13|apply Z14|apply Z15|apply Z16
      refine Cd.reg (by kernel_rfl) (by conv => lhs; simp only [List.map_cons, List.map_nil]) (by conv => lhs; simp only [List.map_cons, List.map_nil, strip]) ?_
      apply Run.by_eq
      · intro self
        conv => lhs; simp -implicitDefEqProofs (maxSteps := 300000) (disch := omega) [-getElem?_pos, -getElem?_neg, h2, hget]
      try (with_reducible refine Run.ret ?_)
      with_reducible repeat first|apply Z0|apply Z1|apply Z2|apply Z3|apply Z4|apply Z5|refine Z6 rfl ?_|apply Z7|apply Z8|apply Z9|apply Z10|apply Z11|apply Z12|apply Z13|apply Z14|apply Z15|apply Z16
      with_reducible repeat first|apply Z0|apply Z1|apply Z2|apply Z3|apply Z4|apply Z5|refine Z6 rfl ?_|apply Z7|apply Z8|apply Z9|apply Z10|apply Z11|apply Z12|apply Z13|apply Z14|apply Z15|apply Z16
      refine Cd.reg (by kernel_rfl) (by conv => lhs; simp only [List.map_cons, List.map_nil]) (by conv => lhs; simp only [List.map_cons, List.map_nil, strip]) ?_
      apply Run.by_eq
      · intro self
        conv => lhs; simp -implicitDefEqProofs (maxSteps := 300000) (disch := omega) [-getElem?_pos, -getElem?_neg, h8]
      try (with_reducible refine Run.ret ?_)
      with_reducible repeat first|apply Z0|apply Z1|apply Z2|apply Z3|apply Z4|apply Z5|refine Z6 rfl ?_|apply Z7|apply Z8|apply Z9|apply Z10|apply Z11|apply Z12|apply Z13|apply Z14|apply Z15|apply Z16
      refine LoopK.nm (4 - (3 + 1)) (by omega) ⟨3 + 1, by omega, rfl, by simp [hm], by simp, by simp [h7], by simp [h2], by simp [h4], hkp.upded (Nat.le_refl _) _, by simpa using hnx, ?_, ?_⟩
      · simp [mixL, Mass.sub]
      · simp -implicitDefEqProofs (disch := omega) [hget2]
  · with_reducible repeat first|apply Z0|apply Z1|apply Z2|apply Z3|apply Z4|apply Z5|refine Z6 rfl ?_|apply Z7|apply Z8|apply Z9|apply Z10|apply Z11|apply Z12|apply Z13|apply Z14|apply Z15|apply Z16
    refine Cd.reg (by kernel_rfl) (by conv => lhs; simp only [List.map_cons, List.map_nil]) (by conv => lhs; simp only [List.map_cons, List.map_nil, strip]) ?_
    apply Run.by_eq
    · intro self
      conv => lhs; simp -implicitDefEqProofs (maxSteps := 300000) (disch := omega) [-getElem?_pos, -getElem?_neg, h8]
    try (with_reducible refine Run.ret ?_)
    with_reducible repeat first|apply Z0|apply Z1|apply Z2|apply Z3|apply Z4|apply Z5|refine Z6 rfl ?_|apply Z7|apply Z8|apply Z9|apply Z10|apply Z11|apply Z12|apply Z13|apply Z14|apply Z15|apply Z16
    with_reducible repeat first|apply Z0|apply Z1|apply Z2|apply Z3|apply Z4|apply Z5|refine Z6 rfl ?_|apply Z7|apply Z8|apply Z9|apply Z10|apply Z11|apply Z12|apply Z13|apply Z14|apply Z15|apply Z16
    apply Cd.ite rfl
    · conv => lhs; simp -implicitDefEqProofs (maxSteps := 300000) (disch := omega) [-getElem?_pos, -getElem?_neg]
    all_goals intro c0
    all_goals try (cases c0; done)
    all_goals try simp only [Bool.not_eq_true', Bool.not_eq_false', decide_eq_true_eq, decide_eq_false_iff_not] at c0
    all_goals with_reducible repeat first|apply Z0|apply Z1|apply Z2|apply Z3|apply Z4|apply Z5|refine Z6 rfl ?_|apply Z7|apply Z8|apply Z9|apply Z10|apply Z11|apply Z12|apply Z13|apply Z14|apply Z15|apply Z16
    with_reducible repeat first|apply Z0|apply Z1|apply Z2|apply Z3|apply Z4|apply Z5|refine Z6 rfl ?_|apply Z7|apply Z8|apply Z9|apply Z10|apply Z11|apply Z12|apply Z13|apply Z14|apply Z15|apply Z16
    refine Cd.reg (by kernel_rfl) (by conv => lhs; simp only [List.map_cons, List.map_nil]) (by conv => lhs; simp only [List.map_cons, List.map_nil, strip]) ?_
    apply Run.by_eq
    · intro self
      conv => lhs; simp -implicitDefEqProofs (maxSteps := 300000) (disch := omega) [-getElem?_pos, -getElem?_neg, h2, hget, h4, hget2]
    try (with_reducible refine Run.ret ?_)
    with_reducible repeat first|apply Z0|apply Z1|apply Z2|apply Z3|apply Z4|apply Z5|refine Z6 rfl ?_|apply Z7|apply Z8|apply Z9|apply Z10|apply Z11|apply Z12|apply Z13|apply Z14|apply Z15|apply Z16
    apply Leave.mk (by first | exact .inl rfl | exact .inr rfl) (by simp only [Fr.marks_put, fr0_marks, hm, h4])
    · conv => lhs; simp -implicitDefEqProofs (disch := omega) [Try.results62, hm, h4]
    exact ⟨rfl, hkp.upded (by omega) _⟩
end Go.Proofs.Ytifkpaomhnlahaa
