/-
  . They hold with no condition but those that are written in each theorem.
-/
import Derived.Test.YtnhokodcmeekhaaPU1
import Derived.Test.YtnhokodcmeekhaaPU2
import Derived.Test.YtnhokodcmeekhaaPU3
set_option linter.unusedSimpArgs false
set_option linter.unusedVariables false
namespace Go.Proofs.Ytnhokodcmeekhaa
open Go Kern
/-! The reference's clash -/
@[simp] theorem newObj_41 {f : Fr} {pl0 : Array (Nat × Operand)} : Kern.newObj TT (.buildSlice 41 3 pl0) f = ob (fillL f.eval (placesA 1 pl0.toList) (repeatL [.int .i64 0] 3)) fun c => some (.cells c none) :=
  newObj_buildSlice 41 3 pl0 und_41 size_3 zero_3 rfl
@[simp] theorem three_1 (a : Value) : overL [a] (repeatL [Value.int .i64 0] 3) = some [a, .int .i64 0, .int .i64 0] := rfl
@[simp] theorem three_2 (a b z : Value) : putL 1 [b] [a, z, z] = some [a, b, z] := rfl
@[simp] theorem three_3 (a b c z : Value) : putL 2 [c] [a, b, z] = some [a, b, c] := rfl
/-- Three weeks in a block of their own, of which something is true. -/
def Trip (n : Nat) (C : Nat → Nat → Nat → Bool) (r : Value) (s : St) : Prop :=
  ∃ i j k : Nat, i < n ∧ j < n ∧ k < n ∧ C i j k = true ∧ ∃ b, r = .slice (some ⟨b, 0, none⟩) 3 3 ∧ b < s.next ∧ s.heap.get b = some (.cells [.int .i64 i, .int .i64 j, .int .i64 k] none)
theorem Trip.ints {n : Nat} {C : Nat → Nat → Nat → Bool} {r : Value} {s : St} (h : Trip n C r s) : ∃ i j k : Nat, i < n ∧ j < n ∧ k < n ∧ C i j k = true ∧ IntsAt s r [(i : Int), (j : Int), (k : Int)] ∧ ∃ a, r = .slice (some a) 3 3 := by
  obtain ⟨i, j, k, h1, h2, h3, h4, b, rfl, h5, h6⟩ := h
  exact ⟨i, j, k, h1, h2, h3, h4, ints_of_cells (xs := [(i : Int), (j : Int), (k : Int)]) h5 h6, _, rfl⟩
set_option maxRecDepth 100000 in
set_option maxHeartbeats 4000000 in
theorem rclash_ev (n : Nat) (L H : Nat → Int) (vl vh : Value) (s : St) (hl : IntsAt s vl ((List.range n).map L)) (hh : IntsAt s vh ((List.range n).map H)) (hn : n ≤ 30) (hL : ∀ w, w < n → -60000 ≤ L w ∧ L w ≤ 60000) (hH : ∀ w, w < n → -60000 ≤ H w ∧ H w ≤ 60000) :
    Ev TT 46 [vl, vh] s fun r s' => Keep s s' ∧ ((r = .slice none 0 0 ∧ ∀ i j k, i < n → j < n → k < n → holdsB L H i j k = false) ∨ Trip n (holdsB L H) r s') := by
  have hho := fun (i j k : Nat) (s1 : St) (k1 : Keep s s1) hi hj hk => holds_ev n L H vl vh i j k s1 (hl.keep k1) (hh.keep k1) hn hi hj hk hL hH
  obtain ⟨al, cl, rfl⟩ := hl.shape
  obtain ⟨ah, ch, rfl⟩ := hh.shape
  rw [List.length_map, List.length_map, List.length_range] at hl hh hho ⊢
  rw [List.length_map, List.length_map, List.length_range] at hho ⊢
  have vl := slAt_veq hl 4
  have vh := slAt_veq hh 4
  refine Ev.intro (fn := Try.f46) rfl (by kernel_rfl) rfl rfl ?_
  apply zz
  refine Cd.ra (h := ?_)
  apply Run.by_eq
  · intro self
    conv => lhs; simp -implicitDefEqProofs (maxSteps := 300000) (disch := omega) [-getElem?_pos, -getElem?_neg]
  try (with_reducible refine Run.ret ?_)
  apply zz
  refine Cd.ra (h := ?_)
  apply Run.by_eq
  · intro self
    conv => lhs; simp -implicitDefEqProofs (maxSteps := 300000) (disch := omega) [-getElem?_pos, -getElem?_neg]
  try (with_reducible refine Run.ret ?_)
  apply zz
  refine Cd.ra (h := ?_)
  apply Run.by_eq
  · intro self
    conv => lhs; simp -implicitDefEqProofs (maxSteps := 300000) (disch := omega) [-getElem?_pos, -getElem?_neg]
  try (with_reducible refine Run.ret ?_)
  apply zz
  refine Cd.mono (Q := fun x f1 s1 => (x = Ex.ret ∧ f1.marks = [] ∧ Keep s s1 ∧ Trip n (holdsB L H) (f1.get 4) s1) ∨ (x = Ex.exit 0 ∧ f1.marks = [] ∧ Keep s s1 ∧ ∀ i j k, i < n → j < n → k < n → holdsB L H i j k = false)) (Cd.inv (fun z f s' => ∃ i : Nat, i ≤ n ∧ z = n - i ∧ f.marks = [] ∧ f.get 0 = .slice al n cl ∧ f.get 1 = .slice ah n ch ∧ f.get 5 = .int .i64 n ∧ f.get 6 = .int .i64 i ∧ Keep s s' ∧ ∀ x j k, x < i → j < n → k < n → holdsB L H x j k = false) n ?_ ?_) ?_
  · exact ⟨0, by omega, rfl, by simp, by simp, by simp, by simp, by simp, ⟨by (try simp only [pushed_next', upded_next']); omega, fun i hi => by simp -implicitDefEqProofs (disch := omega) []⟩, fun x j k h => by omega⟩
  · rintro z f s1 ⟨i, hi, rfl, hm, g0, g1, g5, g6, hkp, hz⟩
    by_cases hlt : i < n
    · have hlt' : (i : Int) < n := by omega
      apply zz
      refine Cd.ra (h := ?_)
      apply Run.by_eq
      · intro self
        conv => lhs; simp -implicitDefEqProofs (maxSteps := 300000) (disch := omega) [-getElem?_pos, -getElem?_neg, g6, g5, hlt']
      try (with_reducible refine Run.ret ?_)
      apply zz
      apply Cd.ite rfl
      · conv => lhs; simp -implicitDefEqProofs (maxSteps := 300000) (disch := omega) [-getElem?_pos, -getElem?_neg]
      all_goals intro c3
      all_goals try (cases c3; done)
      all_goals try simp only [Bool.not_eq_true', Bool.not_eq_false', decide_eq_true_eq, decide_eq_false_iff_not] at c3
      all_goals apply zz
      apply zz
      refine Cd.ra (h := ?_)
      apply Run.by_eq
      · intro self
        conv => lhs; simp -implicitDefEqProofs (maxSteps := 300000) (disch := omega) [-getElem?_pos, -getElem?_neg]
      try (with_reducible refine Run.ret ?_)
      apply zz
      refine Cd.mono (Q := fun x f1 s1 => (x = Ex.ret ∧ f1.marks = [] ∧ Keep s s1 ∧ Trip n (holdsB L H) (f1.get 4) s1) ∨ (x = Ex.exit 2 ∧ f1.marks = [] ∧ f1.get 0 = .slice al n cl ∧ f1.get 1 = .slice ah n ch ∧ f1.get 5 = .int .i64 n ∧ f1.get 6 = .int .i64 i ∧ Keep s s1 ∧ ∀ j k, j < n → k < n → holdsB L H i j k = false)) (Cd.inv (fun z f s' => ∃ j : Nat, j ≤ n ∧ z = n - j ∧ f.marks = [] ∧ f.get 0 = .slice al n cl ∧ f.get 1 = .slice ah n ch ∧ f.get 5 = .int .i64 n ∧ f.get 6 = .int .i64 i ∧ f.get 7 = .int .i64 j ∧ Keep s s' ∧ ∀ x k, x < j → k < n → holdsB L H i x k = false) n ?_ ?_) ?_
      · exact ⟨0, by omega, rfl, by simp [hm], by simp [g0], by simp [g1], by simp [g5], by simp [g6], by simp, hkp, fun x k h => by omega⟩
      · clear hm g0 g1 g5 g6 hkp f
        rintro z f s1 ⟨j, hj, rfl, hm, g0, g1, g5, g6, g7, hkp, hz2⟩
        by_cases hlt2 : j < n
        · have hlt2' : (j : Int) < n := by omega
          apply zz
          refine Cd.ra (h := ?_)
          apply Run.by_eq
          · intro self
            conv => lhs; simp -implicitDefEqProofs (maxSteps := 300000) (disch := omega) [-getElem?_pos, -getElem?_neg, g7, g5, hlt2']
          try (with_reducible refine Run.ret ?_)
          apply zz
          apply Cd.ite rfl
          · conv => lhs; simp -implicitDefEqProofs (maxSteps := 300000) (disch := omega) [-getElem?_pos, -getElem?_neg]
          all_goals intro c4
          all_goals try (cases c4; done)
          all_goals try simp only [Bool.not_eq_true', Bool.not_eq_false', decide_eq_true_eq, decide_eq_false_iff_not] at c4
          all_goals apply zz
          apply zz
          refine Cd.ra (h := ?_)
          apply Run.by_eq
          · intro self
            conv => lhs; simp -implicitDefEqProofs (maxSteps := 300000) (disch := omega) [-getElem?_pos, -getElem?_neg]
          try (with_reducible refine Run.ret ?_)
          apply zz
          refine Cd.mono (Q := fun x f1 s1 => (x = Ex.ret ∧ f1.marks = [] ∧ Keep s s1 ∧ Trip n (holdsB L H) (f1.get 4) s1) ∨ (x = Ex.exit 4 ∧ f1.marks = [] ∧ f1.get 0 = .slice al n cl ∧ f1.get 1 = .slice ah n ch ∧ f1.get 5 = .int .i64 n ∧ f1.get 6 = .int .i64 i ∧ f1.get 7 = .int .i64 j ∧ Keep s s1 ∧ ∀ k, k < n → holdsB L H i j k = false)) (Cd.inv (fun z f s' => ∃ k : Nat, k ≤ n ∧ z = n - k ∧ f.marks = [] ∧ f.get 0 = .slice al n cl ∧ f.get 1 = .slice ah n ch ∧ f.get 5 = .int .i64 n ∧ f.get 6 = .int .i64 i ∧ f.get 7 = .int .i64 j ∧ f.get 8 = .int .i64 k ∧ Keep s s' ∧ ∀ x, x < k → holdsB L H i j x = false) n ?_ ?_) ?_
          · exact ⟨0, by omega, rfl, by simp [hm], by simp [g0], by simp [g1], by simp [g5], by simp [g6], by simp [g7], by simp, hkp, fun x h => by omega⟩
          · clear hm g0 g1 g5 g6 g7 hkp f
            rintro z f s1 ⟨k, hk, rfl, hm, g0, g1, g5, g6, g7, g8, hkp, hz3⟩
            have hkpb := hkp.2
            have hkpa := hkp.1
            by_cases hlt3 : k < n
            · have hlt3' : (k : Int) < n := by omega
              apply zz
              refine Cd.ra (h := ?_)
              apply Run.by_eq
              · intro self
                conv => lhs; simp -implicitDefEqProofs (maxSteps := 300000) (disch := omega) [-getElem?_pos, -getElem?_neg, g8, g5, hlt3']
              try (with_reducible refine Run.ret ?_)
              apply zz
              apply Cd.ite rfl
              · conv => lhs; simp -implicitDefEqProofs (maxSteps := 300000) (disch := omega) [-getElem?_pos, -getElem?_neg]
              all_goals intro c5
              all_goals try (cases c5; done)
              all_goals try simp only [Bool.not_eq_true', Bool.not_eq_false', decide_eq_true_eq, decide_eq_false_iff_not] at c5
              all_goals apply zz
              apply zz
              refine Cd.ra (h := ?_)
              apply Run.by_eq
              · intro self
                conv => lhs; simp -implicitDefEqProofs (maxSteps := 300000) (disch := omega) [-getElem?_pos, -getElem?_neg, g0, g1, g6, g7, g8, vl, vh]
              try (with_reducible refine Run.ret ?_)
              apply zz
              refine Run.call ((hho i j k _ hkp hlt hlt2 hlt3).mono fun v wy hv => ?_)
              obtain ⟨rfl, y⟩ := hv
              have ya := y.1
              have yb := y.2
              try simp only [pushed_next', upded_next'] at ya yb
              cases hc : holdsB L H i j k with
              | true =>
                apply Run.by_eq
                · intro self
                  conv => lhs; simp -implicitDefEqProofs (maxSteps := 300000) (disch := omega) [-getElem?_pos, -getElem?_neg]
                try (with_reducible refine Run.ret ?_)
                apply zz
                apply Cd.ite rfl
                · conv => lhs; simp -implicitDefEqProofs (maxSteps := 300000) (disch := omega) [-getElem?_pos, -getElem?_neg]
                all_goals intro c6
                all_goals try (cases c6; done)
                all_goals try simp only [Bool.not_eq_true', Bool.not_eq_false', decide_eq_true_eq, decide_eq_false_iff_not] at c6
                all_goals apply zz
                apply zz
                refine Cd.ra (h := ?_)
                apply Run.by_eq
                · intro self
                  conv => lhs; simp -implicitDefEqProofs (maxSteps := 300000) (disch := omega) [-getElem?_pos, -getElem?_neg, g6, g7, g8]
                try (with_reducible refine Run.ret ?_)
                apply zz
                exact .inl ⟨rfl, by simp [hm], ⟨by (try simp only [pushed_next', upded_next']); omega, fun i hi => by simp -implicitDefEqProofs (disch := omega) [yb, hkpb]⟩, i, j, k, hlt, hlt2, hlt3, hc, wy.next, by simp, by simp, by simp -implicitDefEqProofs (disch := omega)⟩
              | false =>
                apply Run.by_eq
                · intro self
                  conv => lhs; simp -implicitDefEqProofs (maxSteps := 300000) (disch := omega) [-getElem?_pos, -getElem?_neg]
                try (with_reducible refine Run.ret ?_)
                apply zz
                apply Cd.ite rfl
                · conv => lhs; simp -implicitDefEqProofs (maxSteps := 300000) (disch := omega) [-getElem?_pos, -getElem?_neg]
                all_goals intro c6
                all_goals try (cases c6; done)
                all_goals try simp only [Bool.not_eq_true', Bool.not_eq_false', decide_eq_true_eq, decide_eq_false_iff_not] at c6
                all_goals apply zz
                apply zz
                refine Cd.ra (h := ?_)
                apply Run.by_eq
                · intro self
                  conv => lhs; simp -implicitDefEqProofs (maxSteps := 300000) (disch := omega) [-getElem?_pos, -getElem?_neg, g8]
                try (with_reducible refine Run.ret ?_)
                apply zz
                refine LoopK.nm (n - (k + 1)) (by omega) ⟨k + 1, by omega, rfl, by simp [hm], by simp [g0], by simp [g1], by simp [g5], by simp [g6], by simp [g7], by simp, ⟨by (try simp only [pushed_next', upded_next']); omega, fun i hi => by simp -implicitDefEqProofs (disch := omega) [yb, hkpb]⟩, fun x hx => ?_⟩
                by_cases e : x = k
                · subst e; exact hc
                · exact hz3 x (by omega)
            · obtain rfl : k = n := by omega
              apply zz
              refine Cd.ra (h := ?_)
              apply Run.by_eq
              · intro self
                conv => lhs; simp -implicitDefEqProofs (maxSteps := 300000) (disch := omega) [-getElem?_pos, -getElem?_neg, g8, g5]
              try (with_reducible refine Run.ret ?_)
              apply zz
              apply Cd.ite rfl
              · conv => lhs; simp -implicitDefEqProofs (maxSteps := 300000) (disch := omega) [-getElem?_pos, -getElem?_neg]
              all_goals intro c5
              all_goals try (cases c5; done)
              all_goals try simp only [Bool.not_eq_true', Bool.not_eq_false', decide_eq_true_eq, decide_eq_false_iff_not] at c5
              all_goals apply zz
              exact .inr ⟨rfl, by simp [hm], by simp [g0], by simp [g1], by simp [g5], by simp [g6], by simp [g7], hkp, fun k hk => hz3 k hk⟩
          clear hm g0 g1 g5 g6 g7 hkp f
          rintro x f s1 (⟨rfl, hm, hkp, hT⟩ | ⟨rfl, hm, g0, g1, g5, g6, g7, hkp, hz3⟩)
          · exact .inl ⟨rfl, hm, hkp, hT⟩
          apply zz
          refine Cd.ra (h := ?_)
          apply Run.by_eq
          · intro self
            conv => lhs; simp -implicitDefEqProofs (maxSteps := 300000) (disch := omega) [-getElem?_pos, -getElem?_neg, g7]
          try (with_reducible refine Run.ret ?_)
          apply zz
          refine LoopK.nm (n - (j + 1)) (by omega) ⟨j + 1, by omega, rfl, by simp [hm], by simp [g0], by simp [g1], by simp [g5], by simp [g6], by simp, hkp, fun x k hx hk => ?_⟩
          by_cases e : x = j
          · subst e; exact hz3 k hk
          · exact hz2 x k (by omega) hk
        · obtain rfl : j = n := by omega
          apply zz
          refine Cd.ra (h := ?_)
          apply Run.by_eq
          · intro self
            conv => lhs; simp -implicitDefEqProofs (maxSteps := 300000) (disch := omega) [-getElem?_pos, -getElem?_neg, g7, g5]
          try (with_reducible refine Run.ret ?_)
          apply zz
          apply Cd.ite rfl
          · conv => lhs; simp -implicitDefEqProofs (maxSteps := 300000) (disch := omega) [-getElem?_pos, -getElem?_neg]
          all_goals intro c4
          all_goals try (cases c4; done)
          all_goals try simp only [Bool.not_eq_true', Bool.not_eq_false', decide_eq_true_eq, decide_eq_false_iff_not] at c4
          all_goals apply zz
          exact .inr ⟨rfl, by simp [hm], by simp [g0], by simp [g1], by simp [g5], by simp [g6], hkp, fun j k hj hk => hz2 j k hj hk⟩
      clear hm g0 g1 g5 g6 hkp f
      rintro x f s1 (⟨rfl, hm, hkp, hT⟩ | ⟨rfl, hm, g0, g1, g5, g6, hkp, hz2⟩)
      · exact .inl ⟨rfl, hm, hkp, hT⟩
      apply zz
      refine Cd.ra (h := ?_)
      apply Run.by_eq
      · intro self
        conv => lhs; simp -implicitDefEqProofs (maxSteps := 300000) (disch := omega) [-getElem?_pos, -getElem?_neg, g6]
      try (with_reducible refine Run.ret ?_)
      apply zz
      refine LoopK.nm (n - (i + 1)) (by omega) ⟨i + 1, by omega, rfl, by simp [hm], by simp [g0], by simp [g1], by simp [g5], by simp, hkp, fun x j k hx hj hk => ?_⟩
      by_cases e : x = i
      · subst e; exact hz2 j k hj hk
      · exact hz x j k (by omega) hj hk
    · obtain rfl : i = n := by omega
      apply zz
      refine Cd.ra (h := ?_)
      apply Run.by_eq
      · intro self
        conv => lhs; simp -implicitDefEqProofs (maxSteps := 300000) (disch := omega) [-getElem?_pos, -getElem?_neg, g6, g5]
      try (with_reducible refine Run.ret ?_)
      apply zz
      apply Cd.ite rfl
      · conv => lhs; simp -implicitDefEqProofs (maxSteps := 300000) (disch := omega) [-getElem?_pos, -getElem?_neg]
      all_goals intro c3
      all_goals try (cases c3; done)
      all_goals try simp only [Bool.not_eq_true', Bool.not_eq_false', decide_eq_true_eq, decide_eq_false_iff_not] at c3
      all_goals apply zz
      exact .inr ⟨rfl, by simp [hm], hkp, fun i j k hi hj hk => hz i j k hi hj hk⟩
  rintro x f s1 (⟨rfl, hm, hkp, hT⟩ | ⟨rfl, hm, hkp, hz⟩)
  · apply zz
    apply Leave.mk (by first | exact .inl rfl | exact .inr rfl) (by simpa using hm)
    · conv => lhs; simp -implicitDefEqProofs (disch := omega) [Try.results46]
    exact ⟨hkp, .inr hT⟩
  apply zz
  refine Cd.ra (h := ?_)
  apply Run.by_eq
  · intro self
    conv => lhs; simp -implicitDefEqProofs (maxSteps := 300000) (disch := omega) [-getElem?_pos, -getElem?_neg]
  try (with_reducible refine Run.ret ?_)
  apply zz
  apply Leave.mk (by first | exact .inl rfl | exact .inr rfl) (by simp only [Fr.marks_put, fr0_marks, hm])
  · conv => lhs; simp -implicitDefEqProofs (disch := omega) [Try.results46, hm]
  exact ⟨hkp, .inl ⟨rfl, hz⟩⟩
end Go.Proofs.Ytnhokodcmeekhaa
namespace Go.Proofs.Ytnhokodcmeekhaa
open Go Kern
/-! The reference's Clash -/
/-- What Clash answers: weeks and an error. -/
def ClashA (e0 : Int) (n : Nat) (C : Nat → Nat → Nat → Bool) (w : Value) (e : Int) (s : St) : Prop :=
  (e0 ≠ 0 ∧ e = e0 ∧ w = .slice none 0 0) ∨ (e0 = 0 ∧ e = 5 ∧ w = .slice none 0 0 ∧ ∀ i j k, i < n → j < n → k < n → C i j k = false) ∨ (e0 = 0 ∧ e = 0 ∧ Trip n C w s)
end Go.Proofs.Ytnhokodcmeekhaa
namespace Go.Proofs.Ytnhokodcmeekhaa
open Go Kern
/-! Many marks; the closure of across -/
theorem leave_many : ∀ (ms : List Nat) (s : St), ms.Nodup → (∀ m ∈ ms, s.heap.get m = some (.deferred true)) → ∃ s', leaveF ms s = some s' ∧ s'.next = s.next ∧ ∀ i, i ∉ ms → s'.heap.get i = s.heap.get i
  | [], s, _, _ => ⟨s, rfl, rfl, fun _ _ => rfl⟩
  | m :: ms, s, hn, h => by
    obtain ⟨hn1, hn2⟩ := List.nodup_cons.1 hn
    have hg := h m (.head _)
    obtain ⟨s', h1, h2, h3⟩ := leave_many ms (s.upded m .dead) hn2 fun x hx => by
      have hx2 := h x (.tail _ hx)
      have e : x ≠ m := fun e => hn1 (e ▸ hx)
      simp -implicitDefEqProofs [hx2, e]
    refine ⟨s', ?_, h2, fun i hi => ?_⟩
    · show ob (s.heap.get m) (fun o => gd (isLive o) (ob (s.upd m .dead) fun s => leaveF ms s)) = _
      rw [hg]
      show ob (gd (bt (romAt s.heap m) false true) _) _ = _
      rw [romAt_some hg]
      exact h1
    · have hi1 : i ≠ m := fun e => hi (e ▸ .head _)
      rw [h3 i fun h => hi (.tail _ h)]
      simp -implicitDefEqProofs [hi1]
theorem Leave.many {T : Tab} {rs : List ResultVar} {Q : Value → St → Prop} {e : Ex} {f : Fr} {s : St} (he : e = .normal ∨ e = .ret) (hn : f.marks.Nodup) (hm : ∀ m ∈ f.marks, s.heap.get m = some (.deferred true))
    (h : ∀ s', s'.next = s.next → (∀ i, i ∉ f.marks → s'.heap.get i = s.heap.get i) → ∃ vs, resF T f s' rs = some vs ∧ Q (tupled vs) s') : Leave T rs Q e f s := by
  obtain ⟨s', h1, h2, h3⟩ := leave_many f.marks s hn hm
  exact ⟨he, s', h1, h s' h2 h3⟩
set_option maxRecDepth 100000 in
set_option maxHeartbeats 4000000 in
theorem acrossOf_ev (BC : List Value) (n w : Nat) (L H : Nat → Frac) (s : St) (hB : BOk BC n L H) : Ev TT 69 [.agg BC.toArray, .int .i64 w] s fun r s' => r = .func (.func 84) #[] #[.pointer (some ⟨s.next + 1, 0, none⟩), .pointer (some ⟨s.next, 0, none⟩)] ∧ Keep s s' ∧ s.next + 1 < s'.next ∧ s'.heap.get s.next = some (.cells BC none) ∧ s'.heap.get (s.next + 1) = some (.cells [.int .i64 w] none) := by
  have h2 := hB.len
  have h3 := hB.ones
  refine Ev.intro (fn := Try.f69) rfl (by kernel_rfl) rfl rfl ?_
  apply zz
  refine Cd.ra (h := ?_)
  apply Run.by_eq
  · intro self
    conv => lhs; simp -implicitDefEqProofs (maxSteps := 300000) (disch := omega) [-getElem?_pos, -getElem?_neg, h2, h3]
  try (with_reducible refine Run.ret ?_)
  apply zz
  refine Cd.ra (h := ?_)
  apply Run.by_eq
  · intro self
    conv => lhs; simp -implicitDefEqProofs (maxSteps := 300000) (disch := omega) [-getElem?_pos, -getElem?_neg]
  try (with_reducible refine Run.ret ?_)
  apply zz
  apply Leave.mk (by first | exact .inl rfl | exact .inr rfl) (by simp only [Fr.marks_put, fr0_marks])
  · conv => lhs; simp -implicitDefEqProofs (disch := omega) [Try.results69]
  refine ⟨rfl, ⟨by (try simp only [pushed_next', upded_next']); omega, fun i hi => by simp -implicitDefEqProofs (disch := omega) []⟩, by simp, ?_, ?_⟩
  · simp -implicitDefEqProofs (disch := omega)
  · simp -implicitDefEqProofs (disch := omega)
end Go.Proofs.Ytnhokodcmeekhaa
namespace Go.Proofs.Ytnhokodcmeekhaa
open Go Kern
/-! The program's clash -/
theorem veq_yield (k l : Nat) : veq (k + 1) (.func (.yield l) #[] #[]) (.func (.yield l) #[] #[]) = true := by
  simp [veq]
def NoneIn (n : Nat) (C : Nat → Nat → Nat → Bool) (w : Nat) : Prop := C w w w = false ∧ ∀ i k, i < w → w < k → k < n → C i w k = false
def MarksOk (s : St) (f : Fr) (s1 : St) : Prop := f.marks.Nodup ∧ ∀ m ∈ f.marks, s.next + 1 < m ∧ m < s1.next ∧ s1.heap.get m = some (.deferred true)
def Found (n : Nat) (C : Nat → Nat → Nat → Bool) (s : St) (f : Fr) (s1 : St) : Prop :=
  MarksOk s f s1 ∧ f.get 2 = .pointer (some ⟨s.next + 1, 0, none⟩) ∧ Keep s s1 ∧ s.next + 1 < s1.next ∧ ∃ v, s1.heap.get (s.next + 1) = some (.cells [v] none) ∧ Trip n C v s1
set_option maxRecDepth 100000 in
set_option maxHeartbeats 4000000 in
theorem clash_ev (BC : List Value) (n : Nat) (L H : Nat → Frac) (s : St) (hB : BOk BC n L H) (hn : n ≤ 30) (hW : ∀ w, w < n → Whole (L w) ∧ Whole (H w)) :
    Ev TT 55 [.agg BC.toArray] s fun r s' => Keep s s' ∧ ((r = .slice none 0 0 ∧ ∀ w, w < n → NoneIn n (clashB L H) w) ∨ Trip n (clashB L H) r s') := by
  have h2 := hB.len
  have h3 := hB.ones
  have h1 := takeL_len h2
  have hS := hB.same
  have hwk : BC[0]? = some (.int .i64 n) := hB.wk
  refine Ev.intro (fn := Try.f55) rfl (by kernel_rfl) rfl rfl ?_
  apply zz
  refine Cd.ra (h := ?_)
  apply Run.by_eq
  · intro self
    conv => lhs; simp -implicitDefEqProofs (maxSteps := 300000) (disch := omega) [-getElem?_pos, -getElem?_neg, h2, h3]
  try (with_reducible refine Run.ret ?_)
  apply zz
  refine Cd.ra (h := ?_)
  apply Run.by_eq
  · intro self
    conv => lhs; simp -implicitDefEqProofs (maxSteps := 300000) (disch := omega) [-getElem?_pos, -getElem?_neg, hwk]
  try (with_reducible refine Run.ret ?_)
  apply zz
  refine Cd.mono (Q := fun x f1 s1 => (x = Ex.ret ∧ Found n (clashB L H) s f1 s1) ∨ (x = Ex.exit 0 ∧ MarksOk s f1 s1 ∧ f1.get 2 = .pointer (some ⟨s.next + 1, 0, none⟩) ∧ Keep s s1 ∧ s.next + 1 < s1.next ∧ s1.heap.get (s.next + 1) = some (.cells [.slice none 0 0] none) ∧ ∀ w, w < n → NoneIn n (clashB L H) w)) (Cd.inv (fun z f s' => ∃ w : Nat, w ≤ n ∧ z = n - w ∧ MarksOk s f s' ∧ f.get 1 = .pointer (some ⟨s.next, 0, none⟩) ∧ f.get 2 = .pointer (some ⟨s.next + 1, 0, none⟩) ∧ f.get 6 = .int .i64 n ∧ f.get 7 = .int .i64 w ∧ Keep s s' ∧ s.next + 1 < s'.next ∧ s'.heap.get s.next = some (.cells BC none) ∧ s'.heap.get (s.next + 1) = some (.cells [.slice none 0 0] none) ∧ ∀ x, x < w → NoneIn n (clashB L H) x) n ?_ ?_) ?_
  · refine ⟨0, by omega, rfl, ⟨by simp, fun m h => by simp at h⟩, by simp, by simp, by simp, by simp, ⟨by (try simp only [pushed_next', upded_next']); omega, fun i hi => by simp -implicitDefEqProofs (disch := omega) []⟩, by simp, ?_, ?_, fun x h => by omega⟩
    · simp -implicitDefEqProofs (disch := omega)
    · simp -implicitDefEqProofs (disch := omega)
  · rintro z f s1 ⟨w, hw, rfl, hM, g1, g2, g6, g7, hkp, hnx, hb0, hb1, hz⟩
    have hkpa := hkp.1
    have hkpb := hkp.2
    by_cases hlt : w < n
    · have hlt' : (w : Int) < n := by omega
      apply zz
      refine Cd.ra (h := ?_)
      apply Run.by_eq
      · intro self
        conv => lhs; simp -implicitDefEqProofs (maxSteps := 300000) (disch := omega) [-getElem?_pos, -getElem?_neg, g7, g6, hlt']
      try (with_reducible refine Run.ret ?_)
      apply zz
      apply Cd.ite rfl
      · conv => lhs; simp -implicitDefEqProofs (maxSteps := 300000) (disch := omega) [-getElem?_pos, -getElem?_neg]
      all_goals intro c3
      all_goals try (cases c3; done)
      all_goals try simp only [Bool.not_eq_true', Bool.not_eq_false', decide_eq_true_eq, decide_eq_false_iff_not] at c3
      all_goals apply zz
      apply zz
      refine Cd.ra (h := ?_)
      apply Run.by_eq
      · intro self
        conv => lhs; simp -implicitDefEqProofs (maxSteps := 300000) (disch := omega) [-getElem?_pos, -getElem?_neg, g7]
      try (with_reducible refine Run.ret ?_)
      apply zz
      refine Cd.ra (h := ?_)
      apply Run.by_eq
      · intro self
        conv => lhs; simp -implicitDefEqProofs (maxSteps := 300000) (disch := omega) [-getElem?_pos, -getElem?_neg, g1, hb0, h1, hS]
      try (with_reducible refine Run.ret ?_)
      apply zz
      refine Run.call ((clashIn_ev BC n L H w w w _ hB hn hlt hlt hlt hW).mono fun v wy hv => ?_)
      obtain ⟨rfl, y⟩ := hv
      have ya := y.1
      have yb := y.2
      try simp only [pushed_next', upded_next'] at ya yb
      have y0 : wy.heap.get s.next = some (.cells BC none) := by rw [yb s.next (by (try simp only [pushed_next', upded_next']); omega)]; simp -implicitDefEqProofs (disch := omega) [hb0]
      have y1 : wy.heap.get (s.next + 1) = some (.cells [.slice none 0 0] none) := by rw [yb (s.next + 1) (by (try simp only [pushed_next', upded_next']); omega)]; simp -implicitDefEqProofs (disch := omega) [hb1]
      have y3 : wy.heap.get s1.next = some (.cells [.int .i64 w] none) := by rw [yb s1.next (by (try simp only [pushed_next', upded_next']); omega)]; simp -implicitDefEqProofs (disch := omega)
      have yo : ∀ i, i < s1.next → wy.heap.get i = s1.heap.get i := fun i hi => by rw [yb i (by (try simp only [pushed_next', upded_next']); omega)]; simp -implicitDefEqProofs (disch := omega)
      (try simp only [pushed_next', upded_next'] at ya)
      cases hc : clashB L H w w w with
      | true =>
        apply Run.by_eq
        · intro self
          conv => lhs; simp -implicitDefEqProofs (maxSteps := 300000) (disch := omega) [-getElem?_pos, -getElem?_neg, y3]
        try (with_reducible refine Run.ret ?_)
        apply zz
        apply Cd.ite rfl
        · conv => lhs; simp -implicitDefEqProofs (maxSteps := 300000) (disch := omega) [-getElem?_pos, -getElem?_neg]
        all_goals intro c4
        all_goals try (cases c4; done)
        all_goals try simp only [Bool.not_eq_true', Bool.not_eq_false', decide_eq_true_eq, decide_eq_false_iff_not] at c4
        all_goals apply zz
        apply zz
        refine Cd.ra (h := ?_)
        apply Run.by_eq
        · intro self
          conv => lhs; simp -implicitDefEqProofs (maxSteps := 300000) (disch := omega) [-getElem?_pos, -getElem?_neg, y3, g2, y1]
        try (with_reducible refine Run.ret ?_)
        apply zz
        refine .inl ⟨rfl, ⟨by simpa using hM.1, fun m hm => ?_⟩, by simp [g2], ⟨by (try simp only [pushed_next', upded_next']); omega, fun i hi => by simp -implicitDefEqProofs (disch := omega) [yb, hkpb]⟩, by (try simp only [pushed_next', upded_next']); omega, .slice (some ⟨wy.next, 0, none⟩) 3 3, by simp -implicitDefEqProofs (disch := omega), w, w, w, hlt, hlt, hlt, hc, wy.next, rfl, by simp, by simp -implicitDefEqProofs (disch := omega)⟩
        obtain ⟨a1, a2, a3⟩ := hM.2 m (by simpa using hm)
        refine ⟨a1, by (try simp only [pushed_next', upded_next']); omega, ?_⟩
        simp -implicitDefEqProofs (disch := omega) [yo m a2, a3]
      | false =>
        apply Run.by_eq
        · intro self
          conv => lhs; simp -implicitDefEqProofs (maxSteps := 300000) (disch := omega) [-getElem?_pos, -getElem?_neg, y3]
        try (with_reducible refine Run.ret ?_)
        apply zz
        apply Cd.ite rfl
        · conv => lhs; simp -implicitDefEqProofs (maxSteps := 300000) (disch := omega) [-getElem?_pos, -getElem?_neg]
        all_goals intro c4
        all_goals try (cases c4; done)
        all_goals try simp only [Bool.not_eq_true', Bool.not_eq_false', decide_eq_true_eq, decide_eq_false_iff_not] at c4
        all_goals apply zz
        apply zz
        refine Cd.ra (h := ?_)
        apply Run.by_eq
        · intro self
          conv => lhs; simp -implicitDefEqProofs (maxSteps := 300000) (disch := omega) [-getElem?_pos, -getElem?_neg, g1, y0, h1, hS, y3]
        try (with_reducible refine Run.ret ?_)
        apply zz
        refine Run.call ((acrossOf_ev BC n w L H _ hB).mono fun v wu hv => ?_)
        obtain ⟨rfl, u, un, u0, u1⟩ := hv
        have ub := u.2
        have ua := u.1
        apply Run.by_eq
        · intro self
          conv => lhs; simp -implicitDefEqProofs (maxSteps := 300000) (disch := omega) [-getElem?_pos, -getElem?_neg]
        try (with_reducible refine Run.ret ?_)
        apply zz
        refine Cd.rangeJ (gi := 84) (first := #[]) (captured := #[.pointer (some ⟨wy.next + 1, 0, none⟩), .pointer (some ⟨wy.next, 0, none⟩)]) rfl (by simp) ?_
        generalize hR : ALoop.mk true none _ _ _ _ _ = R0
        show Ev TT 84 [.func (.yield (wu.next + 1)) #[] #[], .pointer (some ⟨wy.next + 1, 0, none⟩), .pointer (some ⟨wy.next, 0, none⟩)] _ _
        have x0 := (ub s.next (by omega)).trans y0
        have x1 := (ub (s.next + 1) (by omega)).trans y1
        have x3 := (ub s1.next (by omega)).trans y3
        refine (across_ev n w L H BC (.func (.yield (wu.next + 1)) #[] #[]) (wy.next + 1) wy.next _ (fun i => i = s.next + 1 ∨ i = wu.next + 1)
          (fun s2 => s2.heap.get (wu.next + 1) = some (.loop R0) ∧ s2.heap.get s.next = some (.cells BC none) ∧ s2.heap.get (s.next + 1) = some (.cells [.slice none 0 0] none) ∧ s2.heap.get s1.next = some (.cells [.int .i64 w] none) ∧ wu.next + 1 < s2.next)
          (fun i k => clashB L H i w k = false)
          (fun i k s2 => s2.heap.get (wu.next + 1) = some (.loop ⟨false, some .ret, R0.n, R0.tmps, R0.params, R0.assign, R0.body⟩) ∧ clashB L H i w k = true ∧ wu.next + 1 < s2.next ∧ ∃ b, s2.heap.get (s.next + 1) = some (.cells [.slice (some ⟨b, 0, none⟩) 3 3] none) ∧ b < s2.next ∧ s2.heap.get b = some (.cells [.int .i64 i, .int .i64 w, .int .i64 k] none) ∧ b ≠ wu.next + 1)
          hB hn hlt ?_ ?_ ?_ ?_ ?_ ?_ ?_ ?_ ?_ ?_ ?_).mono fun _ s2 hres => ?_
        · simp only [pushed_next']; omega
        · simp only [pushed_next']; omega
        · simp -implicitDefEqProofs (disch := omega) [u1]
        · simp -implicitDefEqProofs (disch := omega) [u0]
        · rintro i (rfl | rfl) <;> simp only [pushed_next'] <;> omega
        · rintro (h | h) <;> omega
        · rintro (h | h) <;> omega
        · exact veq_yield _ _
        · refine ⟨?_, ?_, ?_, ?_, ?_⟩
          · simp -implicitDefEqProofs (disch := omega)
          · simp -implicitDefEqProofs (disch := omega) [x0]
          · simp -implicitDefEqProofs (disch := omega) [x1]
          · simp -implicitDefEqProofs (disch := omega) [x3]
          · simp
        · rintro sa sb ⟨j0, j1, j2, j3, j4⟩ hn1 hsame
          simp only [pushed_next'] at hsame
          exact ⟨(hsame _ (by omega)).trans j0, (hsame _ (by omega)).trans j1, (hsame _ (by omega)).trans j2, (hsame _ (by omega)).trans j3, by omega⟩
        · rintro i k sa hi hk hkn ⟨j0, j1, j2, j3, j4⟩ hsn hbx
          simp only [pushed_next'] at hsn
          show Evn TT (fun self => exRound self (wu.next + 1) _ sa) _
          subst hR
          refine Evn.roundJ j0 rfl ?_
          show Cd TT true _ _ ((Fr.mk _ []).put (some 22) _) _ _
          dsimp only
          apply zz
          refine Cd.ra (h := ?_)
          apply Run.by_eq
          · intro self
            conv => lhs; simp -implicitDefEqProofs (maxSteps := 300000) (disch := omega) [-getElem?_pos, -getElem?_neg, Fr.get_mk]
          try (with_reducible refine Run.ret ?_)
          apply zz
          have jl : ∀ (c d : AObj), ((sa.pushed c).upded sa.next d).heap.get (wu.next + 1) = sa.heap.get (wu.next + 1) := fun c d => by simp -implicitDefEqProofs (disch := omega)
          refine ⟨rfl, _, (jl _ _).trans j0, rfl, rfl, ?_⟩
          dsimp only
          generalize hLf : ALoop.mk false none _ _ _ _ _ = Lf
          apply zz
          refine Cd.ra (h := ?_)
          apply Run.by_eq
          · intro self
            conv => lhs; simp -implicitDefEqProofs (maxSteps := 300000) (disch := omega) [-getElem?_pos, -getElem?_neg, Fr.get_mk, g1, j1, j3, h1, hS]
          try (with_reducible refine Run.ret ?_)
          apply zz
          refine Run.call ((clashIn_ev BC n L H i w k _ hB hn (by omega) hlt hkn hW).mono fun v wp hv => ?_)
          obtain ⟨rfl, p⟩ := hv
          have pa := p.1
          have pb := p.2
          try simp only [pushed_next', upded_next'] at pa pb
          (try simp only [pushed_next', upded_next'] at pa)
          have hlp : wp.heap.get (wu.next + 1) = some (.loop Lf) := by rw [pb _ (by (try simp only [pushed_next', upded_next']); omega)]; simp -implicitDefEqProofs (disch := omega)
          have p0 : wp.heap.get s.next = some (.cells BC none) := by rw [pb _ (by (try simp only [pushed_next', upded_next']); omega)]; simp -implicitDefEqProofs (disch := omega) [j1]
          have p1 : wp.heap.get (s.next + 1) = some (.cells [.slice none 0 0] none) := by rw [pb _ (by (try simp only [pushed_next', upded_next']); omega)]; simp -implicitDefEqProofs (disch := omega) [j2]
          have p3 : wp.heap.get s1.next = some (.cells [.int .i64 w] none) := by rw [pb _ (by (try simp only [pushed_next', upded_next']); omega)]; simp -implicitDefEqProofs (disch := omega) [j3]
          have p4 : wp.heap.get sa.next = some (.cells [.int .i64 i, .int .i64 (L i).o, .int .i64 (L i).u, .int .i64 k, .int .i64 (L k).o, .int .i64 (L k).u] none) := by rw [pb _ (by (try simp only [pushed_next', upded_next']); omega)]; simp -implicitDefEqProofs (disch := omega)
          have po : ∀ z, z < sa.next → z ≠ wu.next + 1 → wp.heap.get z = sa.heap.get z := fun z h1 h2 => by rw [pb _ (by (try simp only [pushed_next', upded_next']); omega)]; simp -implicitDefEqProofs (disch := omega)
          cases hck : clashB L H i w k with
          | false =>
            apply Run.by_eq
            · intro self
              conv => lhs; simp -implicitDefEqProofs (maxSteps := 300000) (disch := omega) [-getElem?_pos, -getElem?_neg, p0, p3, p4, h1, hS]
            try (with_reducible refine Run.ret ?_)
            apply zz
            apply Cd.ite rfl
            · conv => lhs; simp -implicitDefEqProofs (maxSteps := 300000) (disch := omega) [-getElem?_pos, -getElem?_neg]
            all_goals intro d0
            all_goals try (cases d0; done)
            all_goals try simp only [Bool.not_eq_true', Bool.not_eq_false', decide_eq_true_eq, decide_eq_false_iff_not] at d0
            all_goals apply zz
            refine ⟨Lf, hlp, .inl ⟨rfl, rfl, ?_, ?_, ?_, ?_, ?_⟩, ?_, fun z hz hX => ?_⟩
            · rw [get_upded_same]; subst hLf; rfl
            · simp -implicitDefEqProofs (disch := omega) [p0]
            · simp -implicitDefEqProofs (disch := omega) [p1]
            · simp -implicitDefEqProofs (disch := omega) [p3]
            · simp only [upded_next']; omega
            · simp only [upded_next']; omega
            · have x4 : z ≠ wu.next + 1 := fun e => hX (.inr e)
              simp -implicitDefEqProofs (disch := omega) [po]
          | true =>
            apply Run.by_eq
            · intro self
              conv => lhs; simp -implicitDefEqProofs (maxSteps := 300000) (disch := omega) [-getElem?_pos, -getElem?_neg, p0, p3, p4, h1, hS]
            try (with_reducible refine Run.ret ?_)
            apply zz
            apply Cd.ite rfl
            · conv => lhs; simp -implicitDefEqProofs (maxSteps := 300000) (disch := omega) [-getElem?_pos, -getElem?_neg]
            all_goals intro d0
            all_goals try (cases d0; done)
            all_goals try simp only [Bool.not_eq_true', Bool.not_eq_false', decide_eq_true_eq, decide_eq_false_iff_not] at d0
            all_goals apply zz
            apply zz
            refine Cd.ra (h := ?_)
            apply Run.by_eq
            · intro self
              conv => lhs; simp -implicitDefEqProofs (maxSteps := 300000) (disch := omega) [-getElem?_pos, -getElem?_neg, Fr.get_mk, p3, p4, p1, g2]
            try (with_reducible refine Run.ret ?_)
            apply zz
            refine ⟨Lf, ?_, .inr ⟨rfl, ?_, rfl, ?_, wp.next, ?_, ?_, ?_, ?_⟩, ?_, fun z hz hX => ?_⟩
            · simp -implicitDefEqProofs (disch := omega) [hlp]
            · rw [get_upded_same]; subst hLf; rfl
            · (try simp only [pushed_next', upded_next']); omega
            · simp -implicitDefEqProofs (disch := omega)
            · (try simp only [pushed_next', upded_next']); omega
            · simp -implicitDefEqProofs (disch := omega)
            · omega
            · (try simp only [pushed_next', upded_next']); omega
            · have x4 : z ≠ wu.next + 1 := fun e => hX (.inr e)
              have x5 : z ≠ s.next + 1 := fun e => hX (.inl e)
              simp -implicitDefEqProofs (disch := omega) [po]
        obtain ⟨hJB, r2, r3⟩ := hres
        simp only [pushed_next'] at r2 r3
        have hold : ∀ i, i < wu.next → i ≠ s.next + 1 → s2.heap.get i = wu.heap.get i := fun i hi hi2 => by
          rw [r3 i (by omega) (by omega)]
          simp -implicitDefEqProofs (disch := omega)
        have hdef : s2.heap.get wu.next = some (.deferred true) := by
          rw [r3 _ (by omega) (by omega)]
          simp -implicitDefEqProofs (disch := omega)
        have hmk : ∀ m ∈ f.marks, s.next + 1 < m ∧ m < s1.next ∧ s2.heap.get m = some (.deferred true) := fun m hm => by
          obtain ⟨a1, a2, a3⟩ := hM.2 m hm
          exact ⟨a1, a2, by rw [hold m (by omega) (by omega), ub m (by omega), yo m a2]; exact a3⟩
        have hks : Keep s s2 := ⟨by omega, fun i hi => by rw [hold i (by omega) (by omega), ub i (by omega), yo i (by omega)]; exact hkpb i hi⟩
        have hnd : (wu.next :: f.marks).Nodup := List.nodup_cons.2 ⟨fun h => by have := (hmk _ h).2.1; omega, hM.1⟩
        have hmk2 : ∀ m ∈ wu.next :: f.marks, s.next + 1 < m ∧ m < wu.next + 1 ∧ s2.heap.get m = some (.deferred true) := fun m hm => by
          cases hm with
          | head => exact ⟨by omega, by omega, hdef⟩
          | tail _ hm => obtain ⟨a1, a2, a3⟩ := hmk m hm; exact ⟨a1, by omega, a3⟩
        rcases hJB with ⟨hnc, j0, j1, j2, j3, j4⟩ | ⟨i, k, hi, hk, hkn, b0, hc2, b1, b, b2, b3, b4, b5⟩
        · refine ⟨R0, j0, .inl ⟨by rw [← hR], by rw [← hR], ?_⟩⟩
          apply zz
          refine Cd.ra (h := ?_)
          apply Run.by_eq
          · intro self
            conv => lhs; simp -implicitDefEqProofs (maxSteps := 300000) (disch := omega) [-getElem?_pos, -getElem?_neg, Fr.get_mk, g7]
          try (with_reducible refine Run.ret ?_)
          apply zz
          refine LoopK.nm (n - (w + 1)) (by omega) ⟨w + 1, by omega, rfl, ⟨by simpa [Fr.marks_put] using hnd, fun m hm => ?_⟩, by simp [Fr.get_mk, g1], by simp [Fr.get_mk, g2], by simp [Fr.get_mk, g6], by simp, ⟨by (try simp only [upded_next']); omega, fun i hi => by simp -implicitDefEqProofs (disch := omega) [hks.2]⟩, by (try simp only [upded_next']); omega, by simp -implicitDefEqProofs (disch := omega) [j1], by simp -implicitDefEqProofs (disch := omega) [j2], fun x hx => ?_⟩
          · obtain ⟨a1, a2, a3⟩ := hmk2 m (by simpa [Fr.marks_put] using hm)
            exact ⟨a1, by (try simp only [upded_next']); omega, by simp -implicitDefEqProofs (disch := omega) [a3]⟩
          · by_cases e : x = w
            · subst e; exact ⟨hc, hnc⟩
            · exact hz x (by omega)
        · refine ⟨_, b0, .inr (.inl ⟨rfl, ?_⟩)⟩
          refine .inl ⟨rfl, ⟨by simpa [Fr.marks_put] using hnd, fun m hm => ?_⟩, by simp [Fr.get_mk, g2], ⟨by (try simp only [upded_next']); omega, fun i hi => by simp -implicitDefEqProofs (disch := omega) [hks.2]⟩, by (try simp only [upded_next']); omega, _, by simp -implicitDefEqProofs (disch := omega) [b2], i, w, k, by omega, hlt, hkn, hc2, b, rfl, by (try simp only [upded_next']); omega, by simp -implicitDefEqProofs (disch := omega) [b4]⟩
          obtain ⟨a1, a2, a3⟩ := hmk2 m (by simpa [Fr.marks_put] using hm)
          exact ⟨a1, by (try simp only [upded_next']); omega, by simp -implicitDefEqProofs (disch := omega) [a3]⟩
    · obtain rfl : w = n := by omega
      apply zz
      refine Cd.ra (h := ?_)
      apply Run.by_eq
      · intro self
        conv => lhs; simp -implicitDefEqProofs (maxSteps := 300000) (disch := omega) [-getElem?_pos, -getElem?_neg, g7, g6]
      try (with_reducible refine Run.ret ?_)
      apply zz
      apply Cd.ite rfl
      · conv => lhs; simp -implicitDefEqProofs (maxSteps := 300000) (disch := omega) [-getElem?_pos, -getElem?_neg]
      all_goals intro c3
      all_goals try (cases c3; done)
      all_goals try simp only [Bool.not_eq_true', Bool.not_eq_false', decide_eq_true_eq, decide_eq_false_iff_not] at c3
      all_goals apply zz
      exact .inr ⟨rfl, hM, by simp [g2], hkp, hnx, hb1, hz⟩
  rintro x f s1 (⟨rfl, hM, g2, hkp, hnx, v, hv, hT⟩ | ⟨rfl, hM, g2, hkp, hnx, hv, hz⟩)
  · apply zz
    refine Leave.many (.inr rfl) hM.1 (fun m hm => (hM.2 m hm).2.2) fun s' e1 e2 => ?_
    have hr : s'.heap.get (s.next + 1) = _ := (e2 _ fun h => by have := (hM.2 _ h).1; omega).trans hv
    refine ⟨[v], ?_, ⟨by omega, fun i hi => (e2 i fun h => by have := (hM.2 _ h).1; omega).trans (hkp.2 i hi)⟩, .inr ?_⟩
    · conv => lhs; simp -implicitDefEqProofs (disch := omega) [Try.results55, g2, hr]
    · obtain ⟨i, j, k, t1, t2, t3, t4, b, rfl, t5, t6⟩ := hT
      refine ⟨i, j, k, t1, t2, t3, t4, b, rfl, by omega, (e2 b fun h => ?_).trans t6⟩
      have := (hM.2 _ h).2.2
      rw [t6] at this; cases this
  apply zz
  refine Cd.ra (h := ?_)
  apply Run.by_eq
  · intro self
    conv => lhs; simp -implicitDefEqProofs (maxSteps := 300000) (disch := omega) [-getElem?_pos, -getElem?_neg, g2, hv]
  try (with_reducible refine Run.ret ?_)
  apply zz
  refine Leave.many (.inr rfl) (by simpa [Fr.marks_put] using hM.1) (fun m hm => ?_) fun s' e1 e2 => ?_
  · obtain ⟨a1, a2, a3⟩ := hM.2 m (by simpa [Fr.marks_put] using hm)
    simp -implicitDefEqProofs (disch := omega) [a3]
  have hnm : ∀ i, i ≤ s.next + 1 → i ∉ (f.marks) := fun i hi h => by have := (hM.2 _ h).1; omega
  have hr : s'.heap.get (s.next + 1) = some (.cells [.slice none 0 0] none) := by
    rw [e2 _ (by simpa [Fr.marks_put] using hnm _ (by omega))]
    simp -implicitDefEqProofs (disch := omega)
  refine ⟨[.slice none 0 0], ?_, ⟨by (try simp only [upded_next'] at e1); omega, fun i hi => ?_⟩, .inl ⟨rfl, hz⟩⟩
  · conv => lhs; simp -implicitDefEqProofs (disch := omega) [Try.results55, g2, hr]
  · rw [e2 i (by simpa [Fr.marks_put] using hnm i (by omega))]
    simp -implicitDefEqProofs (disch := omega) [hkp.2]
end Go.Proofs.Ytnhokodcmeekhaa
namespace Go.Proofs.Ytnhokodcmeekhaa
open Go Kern
/-! The program's Clash; both answers -/
theorem Trip.eq {n : Nat} {C D : Nat → Nat → Nat → Bool} {v : Value} {s : St} (h : Trip n C v s) (e : ∀ i j k, i < n → j < n → k < n → C i j k = D i j k) : Trip n D v s := by
  obtain ⟨i, j, k, h1, h2, h3, h4, h5⟩ := h
  exact ⟨i, j, k, h1, h2, h3, (e i j k h1 h2 h3) ▸ h4, h5⟩
theorem none_all {n : Nat} {L H : Nat → Frac} (h : ∀ w, w < n → NoneIn n (clashB L H) w) (i j k : Nat) (hi : i < n) (hj : j < n) (hk : k < n) : clashB L H i j k = false := by
  by_cases e : i = j ∧ j = k
  · obtain ⟨rfl, rfl⟩ := e
    exact (h i hi).1
  · by_cases h1 : i < j
    · by_cases h2 : j < k
      · exact (h j hj).2 i k h1 h2 hk
      · unfold clashB; rw [if_neg e, decide_eq_false h2, Bool.false_and, Bool.and_false]
    · unfold clashB; rw [if_neg e, decide_eq_false h1, Bool.false_and]
set_option maxRecDepth 100000 in
set_option maxHeartbeats 4000000 in
theorem clashTop_ev (n lo hi : Int) (v : Value) (ss : List SampD) (s : St) (hs : SmAt s v ss) (hl : ss.length ≤ 1000000) : Ev TT 20 [fieldV n lo hi v] s fun r s' => Keep s s' ∧ ∃ w e, r = .tuple #[w, .int .i64 e] ∧ ClashA (fieldErr n lo hi ss) n.toNat (holdsB (fun w => (endN lo hi ss w).1) (fun w => (endN lo hi ss w).2)) w e s' := by
  have hck := check_ev n lo hi v ss
  have hbo := fun (m : Nat) (e : n = m) (s : St) (h : SmAt s v ss) hc => boundsOf_ev m lo hi v ss s h hc
  obtain ⟨a, c, rfl⟩ := hs.shape
  rw [List.length_map] at hs hck hbo ⊢
  unfold fieldV at hck hbo ⊢
  refine Ev.intro (fn := Try.f20) rfl (by kernel_rfl) rfl rfl ?_
  apply zz
  refine Cd.ra (h := ?_)
  apply Run.by_eq
  · intro self
    conv => lhs; simp -implicitDefEqProofs (maxSteps := 300000) (disch := omega) [-getElem?_pos, -getElem?_neg]
  try (with_reducible refine Run.ret ?_)
  apply zz
  refine Cd.ra (h := ?_)
  apply Run.by_eq
  · intro self
    conv => lhs; simp -implicitDefEqProofs (maxSteps := 300000) (disch := omega) [-getElem?_pos, -getElem?_neg]
  try (with_reducible refine Run.ret ?_)
  apply zz
  refine Run.call ((hck _ (hs.keep ⟨by (try simp only [pushed_next', upded_next']); omega, fun i hi => by simp -implicitDefEqProofs (disch := omega) []⟩) hl).mono fun v wy hv => ?_)
  obtain ⟨rfl, y⟩ := hv
  have ya := y.1
  have yb := y.2
  try simp only [pushed_next', upded_next'] at ya yb
  apply Run.by_eq
  · intro self
    conv => lhs; simp -implicitDefEqProofs (maxSteps := 300000) (disch := omega) [-getElem?_pos, -getElem?_neg, yb]
  try (with_reducible refine Run.ret ?_)
  apply zz
  by_cases h1 : fieldErr n lo hi ss = 0
  case neg =>
    apply zz
    refine Cd.ra (h := ?_)
    apply Run.by_eq
    · intro self
      conv => lhs; simp -implicitDefEqProofs (maxSteps := 300000) (disch := omega) [-getElem?_pos, -getElem?_neg, h1]
    try (with_reducible refine Run.ret ?_)
    apply zz
    apply Cd.ite rfl
    · conv => lhs; simp -implicitDefEqProofs (maxSteps := 300000) (disch := omega) [-getElem?_pos, -getElem?_neg]
    all_goals intro c0
    all_goals try (cases c0; done)
    all_goals try simp only [Bool.not_eq_true', Bool.not_eq_false', decide_eq_true_eq, decide_eq_false_iff_not] at c0
    all_goals apply zz
    apply zz
    refine Cd.ra (h := ?_)
    apply Run.by_eq
    · intro self
      conv => lhs; simp -implicitDefEqProofs (maxSteps := 300000) (disch := omega) [-getElem?_pos, -getElem?_neg]
    try (with_reducible refine Run.ret ?_)
    apply zz
    apply Leave.mk (by first | exact .inl rfl | exact .inr rfl) (by simp only [Fr.marks_put, fr0_marks])
    · conv => lhs; simp -implicitDefEqProofs (disch := omega) [Try.results20]
    exact ⟨⟨by (try simp only [pushed_next', upded_next']); omega, fun i hi => by simp -implicitDefEqProofs (disch := omega) [yb]⟩, _, _, rfl, .inl ⟨h1, rfl, rfl⟩⟩
  apply zz
  refine Cd.ra (h := ?_)
  apply Run.by_eq
  · intro self
    conv => lhs; simp -implicitDefEqProofs (maxSteps := 300000) (disch := omega) [-getElem?_pos, -getElem?_neg, h1]
  try (with_reducible refine Run.ret ?_)
  apply zz
  apply Cd.ite rfl
  · conv => lhs; simp -implicitDefEqProofs (maxSteps := 300000) (disch := omega) [-getElem?_pos, -getElem?_neg]
  all_goals intro c0
  all_goals try (cases c0; done)
  all_goals try simp only [Bool.not_eq_true', Bool.not_eq_false', decide_eq_true_eq, decide_eq_false_iff_not] at c0
  all_goals apply zz
  obtain ⟨⟨hn1, hn30⟩, hr, _, hss⟩ := fieldErr_ok h1
  obtain ⟨m, rfl⟩ : ∃ m : Nat, n = m := ⟨n.toNat, by omega⟩
  have va : veq 4 (Value.slice a ss.length c) (Value.slice a ss.length c) = true := slAt_veq hs 3
  have hW := fun w hw => (List.take_length (l := ss) ▸ bnd_all (n := m) h1 ss.length w hw : _)
  have hEq : ∀ i j k, i < m → j < m → k < m → clashB (bndN m lo hi ss).1 (bndN m lo hi ss).2 i j k = holdsB (fun w => (endN lo hi ss w).1) (fun w => (endN lo hi ss w).2) i j k := fun i j k => clash_holds (bnd_end h1)
  apply zz
  refine Cd.ra (h := ?_)
  apply Run.by_eq
  · intro self
    conv => lhs; simp -implicitDefEqProofs (maxSteps := 300000) (disch := omega) [-getElem?_pos, -getElem?_neg, yb, va]
  try (with_reducible refine Run.ret ?_)
  apply zz
  refine Run.call ((hbo m rfl _ (hs.keep ⟨by (try simp only [pushed_next', upded_next']); omega, fun i hi => by simp -implicitDefEqProofs (disch := omega) [yb]⟩) h1).mono fun v wz hv => ?_)
  obtain ⟨rfl, z⟩ := hv
  have za := z.1
  have zb := z.2
  try simp only [pushed_next', upded_next'] at za zb
  apply Run.by_eq
  · intro self
    conv => lhs; simp -implicitDefEqProofs (maxSteps := 300000) (disch := omega) [-getElem?_pos, -getElem?_neg, zb, yb]
  try (with_reducible refine Run.ret ?_)
  apply zz
  refine Run.call ((clash_ev _ m _ _ _ (bOk m (bndN m lo hi ss).1 (bndN m lo hi ss).2) (by omega) hW).mono fun v wu hv => ?_)
  obtain ⟨u, hu⟩ := hv
  have ua := u.1
  have ub := u.2
  rcases hu with ⟨rfl, hu⟩ | hT
  · apply Run.by_eq
    · intro self
      conv => lhs; simp -implicitDefEqProofs (maxSteps := 300000) (disch := omega) [-getElem?_pos, -getElem?_neg]
    try (with_reducible refine Run.ret ?_)
    apply zz
    refine Cd.ra (h := ?_)
    apply Run.by_eq
    · intro self
      conv => lhs; simp -implicitDefEqProofs (maxSteps := 300000) (disch := omega) [-getElem?_pos, -getElem?_neg]
    try (with_reducible refine Run.ret ?_)
    apply zz
    apply Cd.ite rfl
    · conv => lhs; simp -implicitDefEqProofs (maxSteps := 300000) (disch := omega) [-getElem?_pos, -getElem?_neg]
    all_goals intro c5
    all_goals try (cases c5; done)
    all_goals try simp only [Bool.not_eq_true', Bool.not_eq_false', decide_eq_true_eq, decide_eq_false_iff_not] at c5
    all_goals apply zz
    apply zz
    refine Cd.ra (h := ?_)
    apply Run.by_eq
    · intro self
      conv => lhs; simp -implicitDefEqProofs (maxSteps := 300000) (disch := omega) [-getElem?_pos, -getElem?_neg]
    try (with_reducible refine Run.ret ?_)
    apply zz
    apply Leave.mk (by first | exact .inl rfl | exact .inr rfl) (by simp only [Fr.marks_put, fr0_marks])
    · conv => lhs; simp -implicitDefEqProofs (disch := omega) [Try.results20]
    exact ⟨⟨by (try simp only [pushed_next', upded_next']); omega, fun i hi => by simp -implicitDefEqProofs (disch := omega) [ub, zb, yb]⟩, _, _, rfl, .inr (.inl ⟨h1, rfl, rfl, fun i j k hi hj hk => by rw [Int.toNat_natCast] at hi hj hk; rw [← hEq i j k hi hj hk]; exact none_all hu i j k hi hj hk⟩)⟩
  · have hT0 := hT
    obtain ⟨i, j, k, _, _, _, _, b, rfl, _⟩ := hT0
    apply Run.by_eq
    · intro self
      conv => lhs; simp -implicitDefEqProofs (maxSteps := 300000) (disch := omega) [-getElem?_pos, -getElem?_neg]
    try (with_reducible refine Run.ret ?_)
    apply zz
    refine Cd.ra (h := ?_)
    apply Run.by_eq
    · intro self
      conv => lhs; simp -implicitDefEqProofs (maxSteps := 300000) (disch := omega) [-getElem?_pos, -getElem?_neg]
    try (with_reducible refine Run.ret ?_)
    apply zz
    apply Cd.ite rfl
    · conv => lhs; simp -implicitDefEqProofs (maxSteps := 300000) (disch := omega) [-getElem?_pos, -getElem?_neg]
    all_goals intro c5
    all_goals try (cases c5; done)
    all_goals try simp only [Bool.not_eq_true', Bool.not_eq_false', decide_eq_true_eq, decide_eq_false_iff_not] at c5
    all_goals apply zz
    apply zz
    refine Cd.ra (h := ?_)
    apply Run.by_eq
    · intro self
      conv => lhs; simp -implicitDefEqProofs (maxSteps := 300000) (disch := omega) [-getElem?_pos, -getElem?_neg]
    try (with_reducible refine Run.ret ?_)
    apply zz
    apply Leave.mk (by first | exact .inl rfl | exact .inr rfl) (by simp only [Fr.marks_put, fr0_marks])
    · conv => lhs; simp -implicitDefEqProofs (disch := omega) [Try.results20]
    exact ⟨⟨by (try simp only [pushed_next', upded_next']); omega, fun i hi => by simp -implicitDefEqProofs (disch := omega) [ub, zb, yb]⟩, _, _, rfl, .inr (.inr ⟨h1, rfl, by rw [Int.toNat_natCast]; exact hT.eq hEq⟩)⟩
end Go.Proofs.Ytnhokodcmeekhaa
namespace Go.Proofs.Ytnhokodcmeekhaa
open Go Kern
/-! Lists of lines, and what the first of many fractions is -/
def LeF (x y : Frac) : Prop := x.o * y.u ≤ y.o * x.u
theorem above_iff (f g : Frac) : aboveB f g = true ↔ g.o * f.u < f.o * g.u := by simp [aboveB]
theorem above_not (f g : Frac) : aboveB f g = false ↔ f.o * g.u ≤ g.o * f.u := by simp [aboveB]
theorem LeF.refl (x : Frac) : LeF x x := Int.le_refl _
theorem LeF.trans {x y z : Frac} (hx : 0 < x.u) (hy : 0 < y.u) (hz : 0 < z.u) (h1 : LeF x y) (h2 : LeF y z) : LeF x z := by
  unfold LeF at *
  have a := Int.mul_le_mul_of_nonneg_right h1 (Int.le_of_lt hz)
  have b := Int.mul_le_mul_of_nonneg_right h2 (Int.le_of_lt hx)
  have c : x.o * z.u * y.u ≤ z.o * x.u * y.u := by
    rw [show x.o * z.u * y.u = x.o * y.u * z.u by rw [Int.mul_right_comm], show z.o * x.u * y.u = z.o * y.u * x.u by rw [Int.mul_right_comm]]
    rw [show y.o * x.u * z.u = y.o * z.u * x.u by rw [Int.mul_right_comm]] at a
    exact Int.le_trans a b
  exact Int.le_of_mul_le_mul_right c hy
/-- The first one of many is one of them, and none is beyond it. -/
theorem fore_max : ∀ (fs : List Frac) (a : Frac), 0 < a.u → (∀ x ∈ fs, 0 < x.u) → 0 < (foreF aboveB a fs).u ∧ LeF a (foreF aboveB a fs) ∧ ∀ x ∈ fs, LeF x (foreF aboveB a fs)
  | [], a, ha, _ => ⟨ha, LeF.refl a, fun x hx => by cases hx⟩
  | y :: r, a, ha, h => by
    have hy := h y (.head _)
    show 0 < (foreF aboveB (if aboveB y a = true then y else a) r).u ∧ LeF a (foreF aboveB (if aboveB y a = true then y else a) r) ∧ ∀ x ∈ y :: r, LeF x (foreF aboveB (if aboveB y a = true then y else a) r)
    by_cases hb : aboveB y a = true
    · rw [if_pos hb]
      obtain ⟨h1, h2, h3⟩ := fore_max r y hy fun x hx => h x (.tail _ hx)
      have hl : LeF a y := by rw [above_iff] at hb; unfold LeF; omega
      refine ⟨h1, hl.trans ha hy h1 h2, fun x hx => ?_⟩
      cases hx with
      | head => exact h2
      | tail _ hx => exact h3 x hx
    · rw [if_neg hb]
      obtain ⟨h1, h2, h3⟩ := fore_max r a ha fun x hx => h x (.tail _ hx)
      have hl : LeF y a := by simp only [Bool.not_eq_true] at hb; rw [above_not] at hb; exact hb
      refine ⟨h1, h2, fun x hx => ?_⟩
      cases hx with
      | head => exact hl.trans hy ha h1 h2
      | tail _ hx => exact h3 x hx
theorem fore_min : ∀ (fs : List Frac) (a : Frac), 0 < a.u → (∀ x ∈ fs, 0 < x.u) → 0 < (foreF belowB a fs).u ∧ LeF (foreF belowB a fs) a ∧ ∀ x ∈ fs, LeF (foreF belowB a fs) x
  | [], a, ha, _ => ⟨ha, LeF.refl a, fun x hx => by cases hx⟩
  | y :: r, a, ha, h => by
    have hy := h y (.head _)
    show 0 < (foreF belowB (if belowB y a = true then y else a) r).u ∧ LeF (foreF belowB (if belowB y a = true then y else a) r) a ∧ ∀ x ∈ y :: r, LeF (foreF belowB (if belowB y a = true then y else a) r) x
    by_cases hb : belowB y a = true
    · rw [if_pos hb]
      obtain ⟨h1, h2, h3⟩ := fore_min r y hy fun x hx => h x (.tail _ hx)
      have hl : LeF y a := by unfold belowB at hb; rw [above_iff] at hb; unfold LeF; omega
      refine ⟨h1, h2.trans h1 hy ha hl, fun x hx => ?_⟩
      cases hx with
      | head => exact h2
      | tail _ hx => exact h3 x hx
    · rw [if_neg hb]
      obtain ⟨h1, h2, h3⟩ := fore_min r a ha fun x hx => h x (.tail _ hx)
      have hl : LeF a y := by simp only [Bool.not_eq_true] at hb; unfold belowB at hb; rw [above_not] at hb; exact hb
      refine ⟨h1, h2, fun x hx => ?_⟩
      cases hx with
      | head => exact h2.trans h1 ha hy hl
      | tail _ hx => exact h3 x hx
theorem fore_pos {bf : Frac → Frac → Bool} {fs : List Frac} {a : Frac} (ha : 0 < a.u) (h : ∀ x ∈ fs, 0 < x.u) : 0 < (foreF bf a fs).u := by
  rcases foreF_mem (bf := bf) a fs with e | e
  · rw [e]; exact ha
  · exact h _ e
/-- Least ones of lists with the same members are worth the same. -/
theorem fore_min_eqv {fs gs : List Frac} {a : Frac} (ha : 0 < a.u) (hf : ∀ x ∈ fs, 0 < x.u) (h : ∀ x, x ∈ fs ↔ x ∈ gs) : LeF (foreF belowB a fs) (foreF belowB a gs) ∧ LeF (foreF belowB a gs) (foreF belowB a fs) := by
  have hg : ∀ x ∈ gs, 0 < x.u := fun x hx => hf x ((h x).2 hx)
  obtain ⟨_, f1, f2⟩ := fore_min fs a ha hf
  obtain ⟨_, g1, g2⟩ := fore_min gs a ha hg
  constructor
  · rcases foreF_mem (bf := belowB) a gs with e | e
    · rw [e]; exact f1
    · exact f2 _ ((h _).2 e)
  · rcases foreF_mem (bf := belowB) a fs with e | e
    · rw [e]; exact g1
    · exact g2 _ ((h _).1 e)
/-- The pairs of weeks across a week. -/
def acrossL (n w : Nat) : List (Nat × Nat) := (List.range w).flatMap fun i => (List.range (n - (w + 1))).map fun d => (i, w + 1 + d)
theorem across_mem {n w : Nat} {p : Nat × Nat} : p ∈ acrossL n w ↔ p.1 < w ∧ w < p.2 ∧ p.2 < n := by
  obtain ⟨i, k⟩ := p
  unfold acrossL
  simp only [List.mem_flatMap, List.mem_range, List.mem_map, Prod.mk.injEq]
  constructor
  · rintro ⟨a, ha, d, hd, rfl, rfl⟩; omega
  · rintro ⟨h1, h2, h3⟩; exact ⟨i, h1, k - (w + 1), by omega, rfl, by omega⟩
def towardF (n w far : Nat) : List (Nat × Nat) := if far < w then (List.range (w - (far + 1))).map fun d => (far, far + 1 + d) else (List.range (far - (w + 1))).map fun d => (far, far - 1 - d)
/-- The pairs of weeks toward a week: far and near. -/
def towardL (n w : Nat) : List (Nat × Nat) := (List.range n).flatMap fun far => towardF n w far
def rtowardL (n w : Nat) : List (Nat × Nat) := (List.range n).flatMap fun i => (List.range (max i w - (min i w + 1))).map fun d => (i, min i w + 1 + d)
theorem toward_mem {n w : Nat} {p : Nat × Nat} : p ∈ towardL n w ↔ p.1 < n ∧ ((p.1 < p.2 ∧ p.2 < w) ∨ (w < p.2 ∧ p.2 < p.1)) := by
  obtain ⟨i, k⟩ := p
  unfold towardL towardF
  simp only [List.mem_flatMap, List.mem_range]
  constructor
  · rintro ⟨a, ha, h⟩
    split at h
    · simp only [List.mem_range, List.mem_map, Prod.mk.injEq] at h
      obtain ⟨d, hd, rfl, rfl⟩ := h; omega
    · simp only [List.mem_range, List.mem_map, Prod.mk.injEq] at h
      obtain ⟨d, hd, rfl, rfl⟩ := h; omega
  · rintro ⟨h1, h2⟩
    refine ⟨i, h1, ?_⟩
    split
    · simp only [List.mem_range, List.mem_map, Prod.mk.injEq]
      exact ⟨k - (i + 1), by omega, trivial, by omega⟩
    · simp only [List.mem_range, List.mem_map, Prod.mk.injEq]
      exact ⟨i - 1 - k, by omega, trivial, by omega⟩
theorem rtoward_mem {n w : Nat} {p : Nat × Nat} : p ∈ rtowardL n w ↔ p.1 < n ∧ ((p.1 < p.2 ∧ p.2 < w) ∨ (w < p.2 ∧ p.2 < p.1)) := by
  obtain ⟨i, k⟩ := p
  unfold rtowardL
  simp only [List.mem_flatMap, List.mem_range, List.mem_map, Prod.mk.injEq]
  constructor
  · rintro ⟨a, ha, d, hd, rfl, rfl⟩; omega
  · rintro ⟨h1, h2⟩; exact ⟨i, h1, k - (min i w + 1), by omega, rfl, by omega⟩
/-- The least sweetness of a week. -/
def lowF (n : Nat) (L : Nat → Frac) (w : Nat) : Frac := foreF aboveB (L w) ((acrossL n w).map fun p => lineF p.1 (L p.1) p.2 (L p.2) w)
/-- The greatest one. -/
def upF (n : Nat) (L H : Nat → Frac) (w : Nat) : Frac := foreF belowB (H w) ((towardL n w).map fun p => lineF p.1 (L p.1) p.2 (H p.2) w)
def rupF (n : Nat) (L H : Nat → Frac) (w : Nat) : Frac := foreF belowB (H w) ((rtowardL n w).map fun p => lineF p.1 (L p.1) p.2 (H p.2) w)
theorem line_pos {a b w : Int} {x y : Frac} (hx : 0 < x.u) (hy : 0 < y.u) (h : a ≠ b) : 0 < (lineF a x b y w).u := by
  unfold lineF lineO
  split
  · exact Int.mul_pos (Int.mul_pos hy hx) (by omega)
  · exact Int.mul_pos (Int.mul_pos hx hy) (by omega)
theorem up_lines_pos {n w : Nat} {L H : Nat → Frac} (hL : ∀ w, w < n → 0 < (L w).u) (hH : ∀ w, w < n → 0 < (H w).u) (hw : w < n) : ∀ x ∈ (towardL n w).map (fun p => lineF p.1 (L p.1) p.2 (H p.2) w), 0 < x.u := fun x hx => by
  obtain ⟨p, hp, rfl⟩ := List.mem_map.1 hx
  have := toward_mem.1 hp
  exact line_pos (hL _ (by omega)) (hH _ (by omega)) (by omega)
theorem up_pos {n w : Nat} {L H : Nat → Frac} (hL : ∀ w, w < n → 0 < (L w).u) (hH : ∀ w, w < n → 0 < (H w).u) (hw : w < n) : 0 < (upF n L H w).u := fore_pos (hH w hw) (up_lines_pos hL hH hw)
theorem rup_pos {n w : Nat} {L H : Nat → Frac} (hL : ∀ w, w < n → 0 < (L w).u) (hH : ∀ w, w < n → 0 < (H w).u) (hw : w < n) : 0 < (rupF n L H w).u := by
  refine fore_pos (hH w hw) fun x hx => ?_
  obtain ⟨p, hp, rfl⟩ := List.mem_map.1 hx
  have := rtoward_mem.1 hp
  exact line_pos (hL _ (by omega)) (hH _ (by omega)) (by omega)
theorem up_eqv {n w : Nat} {L H : Nat → Frac} (hL : ∀ w, w < n → 0 < (L w).u) (hH : ∀ w, w < n → 0 < (H w).u) (hw : w < n) : (upF n L H w).o * (rupF n L H w).u = (rupF n L H w).o * (upF n L H w).u := by
  have := fore_min_eqv (a := H w) (hH w hw) (up_lines_pos hL hH hw) (gs := (rtowardL n w).map fun p => lineF p.1 (L p.1) p.2 (H p.2) w) fun x => by
    simp only [List.mem_map]
    constructor
    · rintro ⟨p, hp, rfl⟩; exact ⟨p, rtoward_mem.2 (toward_mem.1 hp), rfl⟩
    · rintro ⟨p, hp, rfl⟩; exact ⟨p, toward_mem.2 (rtoward_mem.1 hp), rfl⟩
  exact Int.le_antisymm this.1 this.2
/-- Rounded down, and up. -/
def flF (x : Frac) : Int := x.o / x.u
def ceF (x : Frac) : Int := -((-x.o) / x.u)
theorem fl_eqv {x y : Frac} (hx : 0 < x.u) (hy : 0 < y.u) (h : x.o * y.u = y.o * x.u) : flF x = flF y := by
  have key : ∀ {x y : Frac}, 0 < x.u → 0 < y.u → x.o * y.u = y.o * x.u → x.o / x.u ≤ y.o / y.u := fun {x y} hx hy h => by
    rw [Int.le_ediv_iff_mul_le hy]
    have h1 : x.o / x.u * x.u ≤ x.o := Int.ediv_mul_le _ (by omega)
    have h2 := Int.mul_le_mul_of_nonneg_right h1 (Int.le_of_lt hy)
    rw [h, Int.mul_right_comm] at h2
    exact Int.le_of_mul_le_mul_right h2 hx
  exact Int.le_antisymm (key hx hy h) (key hy hx h.symm)
theorem ce_eqv {x y : Frac} (hx : 0 < x.u) (hy : 0 < y.u) (h : x.o * y.u = y.o * x.u) : ceF x = ceF y := by
  unfold ceF
  congr 1
  exact fl_eqv (x := ⟨-x.o, x.u⟩) (y := ⟨-y.o, y.u⟩) hx hy (by simp only [Int.neg_mul, h])
theorem ce_up {x : Frac} (hx : 0 < x.u) : (x.o + x.u - 1) / x.u = ceF x := by
  unfold ceF
  apply Int.le_antisymm
  · have h1 : (-x.o) / x.u * x.u ≤ -x.o := Int.ediv_mul_le _ (by omega)
    have h2 : (x.o + x.u - 1) / x.u < -((-x.o) / x.u) + 1 := by
      rw [Int.ediv_lt_iff_lt_mul hx, Int.add_mul, Int.neg_mul]; omega
    omega
  · rw [Int.le_ediv_iff_mul_le hx, Int.neg_mul]
    have h1 : -x.o < ((-x.o) / x.u + 1) * x.u := Int.lt_ediv_add_one_mul_self _ hx
    rw [Int.add_mul] at h1
    omega
theorem flat_prefix {α : Type} {n i d : Nat} {x : α} (F : Nat → List α) (hi : i < n) (hd : (F i)[d]? = some x) : ((List.range i).flatMap F ++ (F i).take d) ++ [x] <+: (List.range n).flatMap F := by
  obtain ⟨m, rfl⟩ : ∃ m, n = i + 1 + m := ⟨n - (i + 1), by omega⟩
  have h1 : List.range (i + 1 + m) = List.range (i + 1) ++ (List.range m).map (i + 1 + ·) := List.range_add
  rw [h1, List.flatMap_append, List.range_succ, List.flatMap_append]
  have h2 : (F i) = (F i).take d ++ (x :: (F i).drop (d + 1)) := by
    have hd' := (List.getElem?_eq_some_iff.1 hd)
    obtain ⟨hlt, he⟩ := hd'
    conv => lhs; rw [← List.take_append_drop d (F i), List.drop_eq_getElem_cons hlt, he]
  refine ⟨(F i).drop (d + 1) ++ ((List.range m).map (i + 1 + ·)).flatMap F, ?_⟩
  simp only [List.flatMap_cons, List.flatMap_nil, List.append_nil, List.append_assoc]
  congr 1
  conv => rhs; rw [h2]
  simp
/-- Without a clash the greatest sweetness is no less than the low. -/
theorem up_ge {n w : Nat} {L H : Nat → Frac} (hW : ∀ w, w < n → (L w).u = 1 ∧ (H w).u = 1) (hw : w < n) (hc : ∀ w, w < n → NoneIn n (clashB L H) w) : LeF (L w) (upF n L H w) := by
  have hall := none_all hc
  unfold upF
  rcases foreF_mem (bf := belowB) (H w) ((towardL n w).map fun p => lineF p.1 (L p.1) p.2 (H p.2) w) with e | e
  · rw [e]
    have := (hc w hw).1
    unfold clashB at this
    rw [if_pos ⟨rfl, rfl⟩, above_not] at this
    exact this
  · obtain ⟨⟨i, k⟩, hp, hx⟩ := List.mem_map.1 e
    rw [← hx]
    have hm := toward_mem.1 hp
    simp only [] at hm ⊢
    obtain ⟨hi, hm | hm⟩ := hm
    · have h0 := hall i k w (by omega) (by omega) (by omega)
      unfold clashB at h0
      rw [if_neg (by omega), decide_eq_true hm.1, decide_eq_true hm.2, Bool.true_and, Bool.true_and, above_not] at h0
      unfold lineF lineO at h0 ⊢
      rw [if_neg (by omega)] at h0
      rw [if_neg (by omega)]
      unfold LeF
      simp only [(hW i hi).1, (hW w hw).1, (hW k (by omega)).2, Int.mul_one, Int.one_mul] at h0 ⊢
      have e1 : (L i).o * ((w : Int) - k) = -((L i).o * ((k : Int) - w)) := by rw [← Int.mul_neg]; congr 1; omega
      omega
    · have h0 := hall w k i (by omega) (by omega) (by omega)
      unfold clashB at h0
      rw [if_neg (by omega), decide_eq_true hm.1, decide_eq_true hm.2, Bool.true_and, Bool.true_and, above_not] at h0
      unfold lineF lineO at h0 ⊢
      rw [if_neg (by omega)] at h0
      rw [if_pos (by omega)]
      unfold LeF
      simp only [(hW i hi).1, (hW w hw).1, (hW k (by omega)).2, Int.mul_one, Int.one_mul] at h0 ⊢
      have e1 : (L i).o * ((w : Int) - k) = -((L i).o * ((k : Int) - w)) := by rw [← Int.mul_neg]; congr 1; omega
      omega
theorem low_ge {n w : Nat} {L : Nat → Frac} (hL : ∀ w, w < n → 0 < (L w).u) (hw : w < n) : LeF (L w) (lowF n L w) := by
  refine (fore_max _ _ (hL w hw) fun x hx => ?_).2.1
  obtain ⟨p, hp, rfl⟩ := List.mem_map.1 hx
  have := across_mem.1 hp
  exact line_pos (hL _ (by omega)) (hL _ (by omega)) (by omega)
theorem le_nonneg {x y : Frac} (hx : 0 ≤ x.o) (hxu : 0 < x.u) (hy : 0 < y.u) (h : LeF x y) : 0 ≤ y.o := by
  unfold LeF at h
  have h1 : 0 ≤ x.o * y.u := Int.mul_nonneg hx (by omega)
  exact Int.nonneg_of_mul_nonneg_left (by omega) hxu
/-! Bounds for numbers -/
/-- A fraction whose products with its like fit. -/
def Mid (A B : Int) (x : Frac) : Prop := (-A ≤ x.o ∧ x.o ≤ A) ∧ 0 < x.u ∧ x.u ≤ B
theorem Mid.fits {A B : Int} {x y : Frac} (hx : Mid A B x) (hy : Mid A B y) (h : A * B ≤ 4611686018427387904) : Fits x y := by
  have h1 := mul_bd A B hx.1 (b := y.u) (by have := hy.2; omega)
  have h2 := mul_bd A B hy.1 (b := x.u) (by have := hx.2; omega)
  unfold Fits; omega
theorem Mid.mono {A B A' B' : Int} {x : Frac} (h : Mid A B x) (h1 : A ≤ A') (h2 : B ≤ B') : Mid A' B' x := by
  unfold Mid at *; omega
theorem Mid.small {A B : Int} {x : Frac} (h : Mid A B x) (h1 : A ≤ 30000000000) (h2 : B ≤ 30000) : Small x := by
  unfold Mid at h; unfold Small; omega
theorem Whole.mid {x : Frac} (h : Whole x) : Mid 60000 1 x := by
  obtain ⟨h1, h2, h3⟩ := h; unfold Mid; omega
theorem lineO_mid {A B : Int} {a b w : Int} {x y : Frac} (hx : Mid A B x) (hy : Mid A B y) (ha : 0 ≤ a ∧ a < 30) (hb : 0 ≤ b ∧ b < 30) (hw : 0 ≤ w ∧ w < 30) (hab : a < b) : Mid (60 * (A * B)) (30 * (B * B)) (lineO a x b y w) := by
  have p1 := mul_bd A B hx.1 (b := y.u) (by have := hy.2; omega)
  have p2 := mul_bd A B hy.1 (b := x.u) (by have := hx.2; omega)
  have p3 := mul_bd B B (a := x.u) (b := y.u) (by have := hx.2; omega) (by have := hy.2; omega)
  have q1 := mul_bd (A * B) 30 p1 (b := b - w) (by omega)
  have q2 := mul_bd (A * B) 30 p2 (b := w - a) (by omega)
  have q3 := mul_bd (B * B) 30 p3 (b := b - a) (by omega)
  have hp : 0 < x.u * y.u * (b - a) := Int.mul_pos (Int.mul_pos hx.2.1 hy.2.1) (by omega)
  unfold Mid lineO
  simp only []
  generalize x.o * y.u * (b - w) = t1 at *
  generalize y.o * x.u * (w - a) = t2 at *
  generalize x.u * y.u * (b - a) = t3 at *
  omega
theorem lineF_mid {A B : Int} {a b w : Int} {x y : Frac} (hx : Mid A B x) (hy : Mid A B y) (ha : 0 ≤ a ∧ a < 30) (hb : 0 ≤ b ∧ b < 30) (hw : 0 ≤ w ∧ w < 30) (hab : a ≠ b) : Mid (60 * (A * B)) (30 * (B * B)) (lineF a x b y w) := by
  unfold lineF
  split
  · exact lineO_mid hy hx hb ha hw (by omega)
  · exact lineO_mid hx hy ha hb hw (by omega)
theorem fore_mid {A B : Int} {bf : Frac → Frac → Bool} {a : Frac} {fs : List Frac} (ha : Mid A B a) (h : ∀ x ∈ fs, Mid A B x) : Mid A B (foreF bf a fs) := by
  rcases foreF_mem (bf := bf) a fs with e | e
  · rw [e]; exact ha
  · exact h _ e
end Go.Proofs.Ytnhokodcmeekhaa
namespace Go.Proofs.Ytnhokodcmeekhaa
open Go Kern
/-! Lines that are yielded to their end -/
abbrev lnV (L R : Nat → Frac) (p : Nat × Nat) : Value := .agg #[.int .i64 (p.1 : Nat), .int .i64 (L p.1).o, .int .i64 (L p.1).u, .int .i64 (p.2 : Nat), .int .i64 (R p.2).o, .int .i64 (R p.2).u]
/-- A function yields these lines, in order. -/
def Iter (gi : FuncId) (cap : List Value) (b0 : Nat) (K : St → Prop) (items : List (Nat × Nat)) (L R : Nat → Frac) : Prop :=
  ∀ (yv : Value) (s : St) (X : Nat → Prop) (J : List (Nat × Nat) → St → Prop), b0 ≤ s.next → K s → veq 5 yv yv = true → (∀ i, X i → b0 ≤ i) → J [] s → (∀ l s1 s2, J l s1 → Keep s1 s2 → J l s2) →
    (∀ l p s1, (l ++ [p]) <+: items → J l s1 → s.next ≤ s1.next → Evn TT (fun self => callV self yv [lnV L R p] s1) fun q => q.1 = .bool true ∧ J (l ++ [p]) q.2 ∧ s1.next ≤ q.2.next ∧ ∀ x, x < s.next → ¬ X x → q.2.heap.get x = s1.heap.get x) →
    Ev TT gi (yv :: cap) s fun _ s' => J items s' ∧ s.next ≤ s'.next ∧ ∀ x, x < s.next → ¬ X x → s'.heap.get x = s.heap.get x
set_option maxRecDepth 100000 in
set_option maxHeartbeats 4000000 in
theorem across_iter (n w : Nat) (L H : Nat → Frac) (BC : List Value) (pw pb b0 : Nat) (hB : BOk BC n L H) (hn : n ≤ 30) (hw : w < n) (hpw : pw < b0) (hpb : pb < b0) :
    Iter 84 [.pointer (some ⟨pw, 0, none⟩), .pointer (some ⟨pb, 0, none⟩)] b0 (fun s => s.heap.get pw = some (.cells [.int .i64 w] none) ∧ s.heap.get pb = some (.cells BC none)) (acrossL n w) L L := by
  rintro yv s X J hb0 ⟨hgw, hgb⟩ hyv hX hJ0 hJs hyield
  have hXw : ¬ X pw := fun h => by have := hX _ h; omega
  have hXb : ¬ X pb := fun h => by have := hX _ h; omega
  have h1 := takeL_len hB.len
  have hS := hB.same
  have hwk : BC[0]? = some (.int .i64 n) := hB.wk
  obtain ⟨F, hG⟩ : ∃ F : Nat → List (Nat × Nat), F = fun i => (List.range (n - (w + 1))).map fun d => (i, w + 1 + d) := ⟨_, rfl⟩
  have hF : ∀ i, F i = (List.range (n - (w + 1))).map fun d => (i, w + 1 + d) := fun _ => by rw [hG]
  unfold acrossL at hyield ⊢
  rw [← hG] at hyield ⊢
  refine Ev.intro (fn := Try.f84) rfl (by kernel_rfl) rfl rfl ?_
  apply zz
  refine Cd.ra (h := ?_)
  apply Run.by_eq
  · intro self
    conv => lhs; simp -implicitDefEqProofs (maxSteps := 300000) (disch := omega) [-getElem?_pos, -getElem?_neg, hgw]
  try (with_reducible refine Run.ret ?_)
  apply zz
  refine Cd.inv (fun z f s' => ∃ i : Nat, i ≤ w ∧ z = w - i ∧ f.marks = [] ∧ f.get 0 = yv ∧ f.get 1 = .pointer (some ⟨pw, 0, none⟩) ∧ f.get 2 = .pointer (some ⟨pb, 0, none⟩) ∧ f.get 6 = .int .i64 w ∧ f.get 7 = .int .i64 i ∧ J ((List.range i).flatMap F) s' ∧ s.next ≤ s'.next ∧ (∀ x, x < s.next → ¬ X x → s'.heap.get x = s.heap.get x)) w ?_ ?_
  · exact ⟨0, by omega, rfl, by simp, by simp, by simp, by simp, by simp, by simp, by simpa using hJ0, Nat.le_refl _, fun x _ _ => rfl⟩
  rintro z f s1 ⟨i, hi, rfl, hm, g0, g1, g2, g6, g7, hJ, hnx, hold⟩
  have hw1 := (hold pw (by omega) hXw).trans hgw
  by_cases hlt : i < w
  · apply zz
    refine Cd.ra (h := ?_)
    apply Run.by_eq
    · intro self
      conv => lhs; simp -implicitDefEqProofs (maxSteps := 300000) (disch := omega) [-getElem?_pos, -getElem?_neg, g7, g6]
    try (with_reducible refine Run.ret ?_)
    apply zz
    apply Cd.ite rfl
    · conv => lhs; simp -implicitDefEqProofs (maxSteps := 300000) (disch := omega) [-getElem?_pos, -getElem?_neg]
    all_goals intro c0
    all_goals try (cases c0; done)
    all_goals try simp only [Bool.not_eq_true', Bool.not_eq_false', decide_eq_true_eq, decide_eq_false_iff_not] at c0
    all_goals apply zz
    · apply zz
      refine Cd.ra (h := ?_)
      apply Run.by_eq
      · intro self
        conv => lhs; simp -implicitDefEqProofs (maxSteps := 300000) (disch := omega) [-getElem?_pos, -getElem?_neg, g7]
      try (with_reducible refine Run.ret ?_)
      apply zz
      refine Cd.ra (h := ?_)
      apply Run.by_eq
      · intro self
        conv => lhs; simp -implicitDefEqProofs (maxSteps := 300000) (disch := omega) [-getElem?_pos, -getElem?_neg, g1, hw1]
      try (with_reducible refine Run.ret ?_)
      apply zz
      refine Cd.mono (Q := fun x f2 s2 => x = Ex.exit 2 ∧ f2.marks = [] ∧ f2.get 0 = yv ∧ f2.get 1 = .pointer (some ⟨pw, 0, none⟩) ∧ f2.get 2 = .pointer (some ⟨pb, 0, none⟩) ∧ f2.get 6 = .int .i64 w ∧ f2.get 7 = .int .i64 i ∧ J ((List.range i).flatMap F ++ F i) s2 ∧ s.next ≤ s2.next ∧ (∀ x, x < s.next → ¬ X x → s2.heap.get x = s.heap.get x)) (Cd.inv (fun z f2 s2 => ∃ d : Nat, w + 1 + d ≤ n ∧ z = n - (w + 1 + d) ∧ f2.marks = [] ∧ f2.get 0 = yv ∧ f2.get 1 = .pointer (some ⟨pw, 0, none⟩) ∧ f2.get 2 = .pointer (some ⟨pb, 0, none⟩) ∧ f2.get 4 = .int .i64 i ∧ f2.get 5 = .int .i64 (w + 1 + d : Nat) ∧ f2.get 6 = .int .i64 w ∧ f2.get 7 = .int .i64 i ∧ J ((List.range i).flatMap F ++ (F i).take d) s2 ∧ s.next ≤ s2.next ∧ (∀ x, x < s.next → ¬ X x → s2.heap.get x = s.heap.get x)) (n - (w + 1)) ?_ ?_) ?_
      · exact ⟨0, by omega, rfl, by simp [hm], by simp [g0], by simp [g1], by simp [g2], by simp, by simp, by simp [g6], by simp [g7], by simpa using hJ, hnx, hold⟩
      · clear hJ hnx hold hm g0 g1 g2 g6 g7 hw1
        rintro z f2 s2 ⟨d, hk2, rfl, hm, g0, g1, g2, g4, g5, g6, g7, hJ, hnx, hold⟩
        have hb1 := (hold pb (by omega) hXb).trans hgb
        by_cases hlk : w + 1 + d < n
        · have hd : (F i)[d]? = some (i, w + 1 + d) := by rw [hF, List.getElem?_map, List.getElem?_range (by omega)]; rfl
          have hpre := flat_prefix F hlt hd
          have htk : (F i).take (d + 1) = (F i).take d ++ [(i, w + 1 + d)] := by rw [List.take_add_one, hd]; rfl
          apply zz
          refine Cd.ra (h := ?_)
          apply Run.by_eq
          · intro self
            conv => lhs; simp -implicitDefEqProofs (maxSteps := 300000) (disch := omega) [-getElem?_pos, -getElem?_neg, g5, g2, hb1, hwk]
          try (with_reducible refine Run.ret ?_)
          apply zz
          apply Cd.ite rfl
          · conv => lhs; simp -implicitDefEqProofs (maxSteps := 300000) (disch := omega) [-getElem?_pos, -getElem?_neg]
          all_goals intro c1
          all_goals try (cases c1; done)
          all_goals try simp only [Bool.not_eq_true', Bool.not_eq_false', decide_eq_true_eq, decide_eq_false_iff_not] at c1
          all_goals apply zz
          · apply zz
            refine Cd.drawn (pl := [(0, 0, false, false), (1, 0, false, false), (2, 0, false, false), (4, 0, false, false), (5, 0, false, false), (3, 6, true, false), (6, 62, true, false), (7, 126, false, false), (8, 255, true, false), (9, 511, false, false)]) (by kernel_rfl) (by conv => lhs; simp only [List.map_cons, List.map_nil]) (by conv => lhs; simp [strip, ordered]) ?_
            apply Run.by_eq
            · intro self
              conv => lhs; simp -implicitDefEqProofs (maxSteps := 300000) (disch := omega) [filter_bt, (show Nat.testBit 6 0 = false from rfl), (show Nat.testBit 6 1 = true from rfl), (show Nat.testBit 6 2 = true from rfl), (show Nat.testBit 6 4 = false from rfl), (show Nat.testBit 6 5 = false from rfl), (show Nat.testBit 62 0 = false from rfl), (show Nat.testBit 62 1 = true from rfl), (show Nat.testBit 62 2 = true from rfl), (show Nat.testBit 62 4 = true from rfl), (show Nat.testBit 62 5 = true from rfl), (show ∀ i, Nat.testBit 255 i = decide (i < 8) from fun i => Nat.testBit_two_pow_sub_one 8 i), -getElem?_pos, -getElem?_neg, g0, g2, g4, g5, hb1, h1, hS, hyv]
            try (with_reducible refine Run.ret ?_)
            apply zz
            refine Run.call ((lowPoint_ev BC n L H i _ hB (by omega)).mono fun v wy hv => ?_)
            obtain ⟨rfl, y⟩ := hv
            have ya := y.1
            have yb := y.2
            try simp only [pushed_next', upded_next'] at ya yb
            have y0 := (yb pb (by omega)).trans hb1
            apply Run.by_eq
            · intro self
              conv => lhs; simp -implicitDefEqProofs (maxSteps := 300000) (disch := omega) [-getElem?_pos, -getElem?_neg, g0, g2, g4, g5, y0, h1, hS, hyv]
            try (with_reducible refine Run.ret ?_)
            apply zz
            refine Run.call ((lowPoint_ev BC n L H (w + 1 + d) _ hB (by omega)).mono fun v wu hv => ?_)
            obtain ⟨rfl, u⟩ := hv
            have ua := u.1
            have ub := u.2
            try simp only [pushed_next', upded_next'] at ua ub
            have u0 := (ub pb (by omega)).trans y0
            apply Run.by_eq
            · intro self
              conv => lhs; simp -implicitDefEqProofs (maxSteps := 300000) (disch := omega) [-getElem?_pos, -getElem?_neg, g0, g2, g4, g5, u0, h1, hS, hyv]
            try (with_reducible refine Run.ret ?_)
            apply zz
            refine Run.callV ((hyield _ (i, w + 1 + d) wu hpre (hJs _ s2 wu hJ ⟨by omega, fun x hx => (ub x (by omega)).trans (yb x (by omega))⟩) (by omega)).mono fun p hp => ?_)
            obtain ⟨hp1, hp2, hp3, hp4⟩ := hp
            have hold2 : ∀ x, x < s.next → ¬ X x → p.2.heap.get x = s.heap.get x := fun x hx hxx => (hp4 x hx hxx).trans ((ub x (by omega)).trans ((yb x (by omega)).trans (hold x hx hxx)))
            obtain ⟨pv, ps⟩ := p
            simp only [] at hp1 hp2 hp3 hold2 ⊢
            subst hp1
            apply Run.by_eq
            · intro self
              conv => lhs; simp -implicitDefEqProofs (maxSteps := 300000) (disch := omega) [-getElem?_pos, -getElem?_neg]
            try (with_reducible refine Run.ret ?_)
            apply zz
            apply Cd.ite rfl
            · conv => lhs; simp -implicitDefEqProofs (maxSteps := 300000) (disch := omega) [-getElem?_pos, -getElem?_neg]
            all_goals intro c2
            all_goals try (cases c2; done)
            all_goals try simp only [Bool.not_eq_true', Bool.not_eq_false', decide_eq_true_eq, decide_eq_false_iff_not] at c2
            all_goals apply zz
            apply zz
            refine Cd.ra (h := ?_)
            apply Run.by_eq
            · intro self
              conv => lhs; simp -implicitDefEqProofs (maxSteps := 300000) (disch := omega) [-getElem?_pos, -getElem?_neg, g5]
            try (with_reducible refine Run.ret ?_)
            apply zz
            refine LoopK.nm (n - (w + 1 + (d + 1))) (by omega) ⟨d + 1, by omega, rfl, by simp [hm], by simp [g0], by simp [g1], by simp [g2], by simp [g4], by simp; omega, by simp [g6], by simp [g7], ?_, by omega, hold2⟩
            rw [htk, ← List.append_assoc]; exact hp2
          · omega
        · obtain rfl : n = w + 1 + d := by omega
          have hall : (F i).take d = F i := by rw [hF]; apply List.take_of_length_le; simp
          rw [hall] at hJ
          apply zz
          refine Cd.ra (h := ?_)
          apply Run.by_eq
          · intro self
            conv => lhs; simp -implicitDefEqProofs (maxSteps := 300000) (disch := omega) [-getElem?_pos, -getElem?_neg, g5, g2, hb1, hwk]
          try (with_reducible refine Run.ret ?_)
          apply zz
          apply Cd.ite rfl
          · conv => lhs; simp -implicitDefEqProofs (maxSteps := 300000) (disch := omega) [-getElem?_pos, -getElem?_neg]
          all_goals intro c1
          all_goals try (cases c1; done)
          all_goals try simp only [Bool.not_eq_true', Bool.not_eq_false', decide_eq_true_eq, decide_eq_false_iff_not] at c1
          all_goals apply zz
          exact ⟨rfl, by simp [hm], by simp [g0], by simp [g1], by simp [g2], by simp [g6], by simp [g7], hJ, hnx, hold⟩
      rintro x f2 s2 ⟨rfl, hm, g0, g1, g2, g6, g7, hJ, hnx, hold⟩
      apply zz
      refine Cd.ra (h := ?_)
      apply Run.by_eq
      · intro self
        conv => lhs; simp -implicitDefEqProofs (maxSteps := 300000) (disch := omega) [-getElem?_pos, -getElem?_neg, g7]
      try (with_reducible refine Run.ret ?_)
      apply zz
      refine LoopK.nm (w - (i + 1)) (by omega) ⟨i + 1, by omega, rfl, by simp [hm], by simp [g0], by simp [g1], by simp [g2], by simp [g6], by simp, ?_, hnx, hold⟩
      rw [List.range_succ, List.flatMap_append]; simpa using hJ
    · omega
  · obtain rfl : i = w := by omega
    apply zz
    refine Cd.ra (h := ?_)
    apply Run.by_eq
    · intro self
      conv => lhs; simp -implicitDefEqProofs (maxSteps := 300000) (disch := omega) [-getElem?_pos, -getElem?_neg, g7, g6]
    try (with_reducible refine Run.ret ?_)
    apply zz
    apply Cd.ite rfl
    · conv => lhs; simp -implicitDefEqProofs (maxSteps := 300000) (disch := omega) [-getElem?_pos, -getElem?_neg]
    all_goals intro c0
    all_goals try (cases c0; done)
    all_goals try simp only [Bool.not_eq_true', Bool.not_eq_false', decide_eq_true_eq, decide_eq_false_iff_not] at c0
    all_goals apply zz
    apply Leave.mk (by first | exact .inl rfl | exact .inr rfl) (by simp only [Fr.marks_put, fr0_marks, hm])
    · conv => lhs; simp -implicitDefEqProofs (disch := omega) [Try.results84, hm]
    exact ⟨hJ, hnx, hold⟩
end Go.Proofs.Ytnhokodcmeekhaa
namespace Go.Proofs.Ytnhokodcmeekhaa
open Go Kern
/-! One more row behind the rows that are gathered -/
theorem flatlen {n : Nat} : ∀ {l : List (List Value)}, (∀ y ∈ l, y.length = n) → l.flatten.length = l.length * n
  | [], _ => by simp
  | y :: r, h => by
    rw [List.flatten_cons, List.length_append, h y (.head _), flatlen fun z hz => h z (.tail _ hz), List.length_cons, Nat.add_mul]; omega
theorem app_one {n N b2 : Nat} {s : St} {w : Value} {l : List (List Value)} {x : List Value} {g : Option Nat} (hO : OwnG n N s w l) (hn : ∀ y ∈ l, y.length = n) (hx : x.length = n) (ho : onesL x = true) (hb2 : s.heap.get b2 = some (.cells x g)) (hN : N ≤ s.next) (hl : l.length ≤ 1000000) :
    ∃ s', appV n w (.slice (some ⟨b2, 0, none⟩) 1 1) s = some (.slice (some ⟨s.next, 0, none⟩) (l.length + 1) (l.length + 1), s') ∧ s'.next = s.next + 1 ∧ (∀ i, i < N → s'.heap.get i = s.heap.get i) ∧ OwnG n N s' (.slice (some ⟨s.next, 0, none⟩) (l.length + 1) (l.length + 1)) (l ++ [x]) := by
  rcases hO with ⟨rfl, rfl⟩ | ⟨b, rfl, hne, h1, h2, h3⟩
  · refine ⟨_, appV_nil hb2 hx (by rw [onesL_eq]; exact ho), rfl, fun i hi => get_pushed_old _ _ _ (by omega), .inr ⟨s.next, by simp, by simp, hN, Nat.lt_succ_self _, ?_⟩⟩
    rw [get_pushed_new]; simp
  · refine ⟨_, appV_more h3 hb2 hx (by rw [onesL_eq]; exact ho) (flatlen hn) (by omega), rfl, fun i hi => ?_, .inr ⟨s.next, by simp, by simp, hN, Nat.lt_succ_self _, ?_⟩⟩
    · rw [get_pushed_old _ _ _ (by show i ≠ s.next; omega), get_upded_other _ _ _ _ (by omega)]
    · show ((s.upded b .dead).pushed _).heap.get (s.upded b .dead).next = _
      rw [get_pushed_new]; simp
/-! Comparing, and the lines toward a week -/
set_option maxRecDepth 100000 in
theorem isNaN_ev (x : Int) (s : St) : Ev TT 88 [.int .i64 x] s fun r s' => r = .bool false ∧ Keep s s' := by
  refine Ev.intro (fn := Try.f88) rfl (by kernel_rfl) rfl rfl ?_
  apply zz
  refine Cd.ra (h := ?_)
  apply Run.by_eq
  · intro self
    conv => lhs; simp -implicitDefEqProofs (maxSteps := 300000) (disch := omega) [-getElem?_pos, -getElem?_neg]
  try (with_reducible refine Run.ret ?_)
  apply zz
  refine Cd.ra (h := ?_)
  apply Run.by_eq
  · intro self
    conv => lhs; simp -implicitDefEqProofs (maxSteps := 300000) (disch := omega) [-getElem?_pos, -getElem?_neg]
  try (with_reducible refine Run.ret ?_)
  apply zz
  apply Leave.mk (by first | exact .inl rfl | exact .inr rfl) (by simp only [Fr.marks_put, fr0_marks])
  · conv => lhs; simp -implicitDefEqProofs (disch := omega) [Try.results88]
  exact ⟨rfl, ⟨by (try simp only [pushed_next', upded_next']); omega, fun i hi => by simp -implicitDefEqProofs (disch := omega) []⟩⟩
def cmpI (x y : Int) : Int := if x < y then -1 else if y < x then 1 else 0
set_option maxRecDepth 100000 in
theorem compare_ev (x y : Int) (s : St) : Ev TT 86 [.int .i64 x, .int .i64 y] s fun r s' => r = .int .i64 (cmpI x y) ∧ Keep s s' := by
  unfold cmpI
  refine Ev.intro (fn := Try.f86) rfl (by kernel_rfl) rfl rfl ?_
  apply zz
  refine Cd.ra (h := ?_)
  apply Run.by_eq
  · intro self
    conv => lhs; simp -implicitDefEqProofs (maxSteps := 300000) (disch := omega) [-getElem?_pos, -getElem?_neg]
  try (with_reducible refine Run.ret ?_)
  apply zz
  refine Cd.ra (h := ?_)
  apply Run.by_eq
  · intro self
    conv => lhs; simp -implicitDefEqProofs (maxSteps := 300000) (disch := omega) [-getElem?_pos, -getElem?_neg]
  try (with_reducible refine Run.ret ?_)
  apply zz
  refine Run.call ((isNaN_ev x _).mono fun v wa hv => ?_)
  obtain ⟨rfl, a⟩ := hv
  have aa := a.1
  have ab := a.2
  try simp only [pushed_next', upded_next'] at aa ab
  apply Run.by_eq
  · intro self
    conv => lhs; simp -implicitDefEqProofs (maxSteps := 300000) (disch := omega) [-getElem?_pos, -getElem?_neg]
  try (with_reducible refine Run.ret ?_)
  apply zz
  refine Cd.ra (h := ?_)
  apply Run.by_eq
  · intro self
    conv => lhs; simp -implicitDefEqProofs (maxSteps := 300000) (disch := omega) [-getElem?_pos, -getElem?_neg]
  try (with_reducible refine Run.ret ?_)
  apply zz
  refine Run.call ((isNaN_ev y _).mono fun v wb hv => ?_)
  obtain ⟨rfl, b⟩ := hv
  have ba := b.1
  have bb := b.2
  try simp only [pushed_next', upded_next'] at ba bb
  apply Run.by_eq
  · intro self
    conv => lhs; simp -implicitDefEqProofs (maxSteps := 300000) (disch := omega) [-getElem?_pos, -getElem?_neg]
  try (with_reducible refine Run.ret ?_)
  apply zz
  refine Cd.ra (h := ?_)
  apply Run.by_eq
  · intro self
    conv => lhs; simp -implicitDefEqProofs (maxSteps := 300000) (disch := omega) [-getElem?_pos, -getElem?_neg]
  try (with_reducible refine Run.ret ?_)
  apply zz
  apply Cd.ite rfl
  · conv => lhs; simp -implicitDefEqProofs (maxSteps := 300000) (disch := omega) [-getElem?_pos, -getElem?_neg]
  all_goals intro c0
  all_goals try (cases c0; done)
  all_goals try simp only [Bool.not_eq_true', Bool.not_eq_false', decide_eq_true_eq, decide_eq_false_iff_not] at c0
  all_goals apply zz
  apply zz
  refine Cd.ra (h := ?_)
  apply Run.by_eq
  · intro self
    conv => lhs; simp -implicitDefEqProofs (maxSteps := 300000) (disch := omega) [-getElem?_pos, -getElem?_neg]
  try (with_reducible refine Run.ret ?_)
  apply zz
  apply Cd.ite rfl
  · conv => lhs; simp -implicitDefEqProofs (maxSteps := 300000) (disch := omega) [-getElem?_pos, -getElem?_neg]
  all_goals intro c1
  all_goals try (cases c1; done)
  all_goals try simp only [Bool.not_eq_true', Bool.not_eq_false', decide_eq_true_eq, decide_eq_false_iff_not] at c1
  all_goals apply zz
  by_cases h : x < y
  · rw [if_pos h]
    apply zz
    refine Cd.ra (h := ?_)
    apply Run.by_eq
    · intro self
      conv => lhs; simp -implicitDefEqProofs (maxSteps := 300000) (disch := omega) [-getElem?_pos, -getElem?_neg, h]
    try (with_reducible refine Run.ret ?_)
    apply zz
    apply Cd.ite rfl
    · conv => lhs; simp -implicitDefEqProofs (maxSteps := 300000) (disch := omega) [-getElem?_pos, -getElem?_neg]
    all_goals intro c2
    all_goals try (cases c2; done)
    all_goals try simp only [Bool.not_eq_true', Bool.not_eq_false', decide_eq_true_eq, decide_eq_false_iff_not] at c2
    all_goals apply zz
    apply zz
    refine Cd.ra (h := ?_)
    apply Run.by_eq
    · intro self
      conv => lhs; simp -implicitDefEqProofs (maxSteps := 300000) (disch := omega) [-getElem?_pos, -getElem?_neg]
    try (with_reducible refine Run.ret ?_)
    apply zz
    apply Leave.mk (by first | exact .inl rfl | exact .inr rfl) (by simp only [Fr.marks_put, fr0_marks])
    · conv => lhs; simp -implicitDefEqProofs (disch := omega) [Try.results86]
    exact ⟨rfl, ⟨by (try simp only [pushed_next', upded_next']); omega, fun i hi => by simp -implicitDefEqProofs (disch := omega) [ab, bb]⟩⟩
  rw [if_neg h]
  apply zz
  refine Cd.ra (h := ?_)
  apply Run.by_eq
  · intro self
    conv => lhs; simp -implicitDefEqProofs (maxSteps := 300000) (disch := omega) [-getElem?_pos, -getElem?_neg, h]
  try (with_reducible refine Run.ret ?_)
  apply zz
  apply Cd.ite rfl
  · conv => lhs; simp -implicitDefEqProofs (maxSteps := 300000) (disch := omega) [-getElem?_pos, -getElem?_neg]
  all_goals intro c2
  all_goals try (cases c2; done)
  all_goals try simp only [Bool.not_eq_true', Bool.not_eq_false', decide_eq_true_eq, decide_eq_false_iff_not] at c2
  all_goals apply zz
  by_cases h2 : y < x
  · rw [if_pos h2]
    apply zz
    refine Cd.ra (h := ?_)
    apply Run.by_eq
    · intro self
      conv => lhs; simp -implicitDefEqProofs (maxSteps := 300000) (disch := omega) [-getElem?_pos, -getElem?_neg, h2]
    try (with_reducible refine Run.ret ?_)
    apply zz
    apply Cd.ite rfl
    · conv => lhs; simp -implicitDefEqProofs (maxSteps := 300000) (disch := omega) [-getElem?_pos, -getElem?_neg]
    all_goals intro c3
    all_goals try (cases c3; done)
    all_goals try simp only [Bool.not_eq_true', Bool.not_eq_false', decide_eq_true_eq, decide_eq_false_iff_not] at c3
    all_goals apply zz
    apply zz
    refine Cd.ra (h := ?_)
    apply Run.by_eq
    · intro self
      conv => lhs; simp -implicitDefEqProofs (maxSteps := 300000) (disch := omega) [-getElem?_pos, -getElem?_neg]
    try (with_reducible refine Run.ret ?_)
    apply zz
    apply Leave.mk (by first | exact .inl rfl | exact .inr rfl) (by simp only [Fr.marks_put, fr0_marks])
    · conv => lhs; simp -implicitDefEqProofs (disch := omega) [Try.results86]
    exact ⟨rfl, ⟨by (try simp only [pushed_next', upded_next']); omega, fun i hi => by simp -implicitDefEqProofs (disch := omega) [ab, bb]⟩⟩
  rw [if_neg h2]
  apply zz
  refine Cd.ra (h := ?_)
  apply Run.by_eq
  · intro self
    conv => lhs; simp -implicitDefEqProofs (maxSteps := 300000) (disch := omega) [-getElem?_pos, -getElem?_neg, h2]
  try (with_reducible refine Run.ret ?_)
  apply zz
  apply Cd.ite rfl
  · conv => lhs; simp -implicitDefEqProofs (maxSteps := 300000) (disch := omega) [-getElem?_pos, -getElem?_neg]
  all_goals intro c3
  all_goals try (cases c3; done)
  all_goals try simp only [Bool.not_eq_true', Bool.not_eq_false', decide_eq_true_eq, decide_eq_false_iff_not] at c3
  all_goals apply zz
  apply zz
  refine Cd.ra (h := ?_)
  apply Run.by_eq
  · intro self
    conv => lhs; simp -implicitDefEqProofs (maxSteps := 300000) (disch := omega) [-getElem?_pos, -getElem?_neg]
  try (with_reducible refine Run.ret ?_)
  apply zz
  apply Leave.mk (by first | exact .inl rfl | exact .inr rfl) (by simp only [Fr.marks_put, fr0_marks])
  · conv => lhs; simp -implicitDefEqProofs (disch := omega) [Try.results86]
  exact ⟨rfl, ⟨by (try simp only [pushed_next', upded_next']); omega, fun i hi => by simp -implicitDefEqProofs (disch := omega) [ab, bb]⟩⟩
set_option maxRecDepth 100000 in
set_option maxHeartbeats 1000000 in
theorem highPoint_ev (B : List Value) (n : Nat) (L H : Nat → Frac) (w : Nat) (s : St) (hB : BOk B n L H) (hw : w < 30) : Ev TT 87 [.agg B.toArray, .int .i64 w] s fun r s' => r = .agg #[.int .i64 w, .int .i64 (H w).o, .int .i64 (H w).u] ∧ Keep s s' := by
  have h1 := hB.hi w hw
  have h2 := hB.len
  have h3 := hB.ones
  have h4 : ((w : Int) < 30) := by omega
  refine Ev.intro (fn := Try.f87) rfl (by kernel_rfl) rfl rfl ?_
  apply zz
  refine Cd.ra (h := ?_)
  apply Run.by_eq
  · intro self
    conv => lhs; simp -implicitDefEqProofs (maxSteps := 300000) (disch := omega) [-getElem?_pos, -getElem?_neg, h2, h3]
  try (with_reducible refine Run.ret ?_)
  apply zz
  refine Cd.ra (h := ?_)
  apply Run.by_eq
  · intro self
    conv => lhs; simp -implicitDefEqProofs (maxSteps := 300000) (disch := omega) [-getElem?_pos, -getElem?_neg, h1, hw, h4]
  try (with_reducible refine Run.ret ?_)
  apply zz
  apply Leave.mk (by first | exact .inl rfl | exact .inr rfl) (by simp only [Fr.marks_put, fr0_marks])
  · conv => lhs; simp -implicitDefEqProofs (disch := omega) [Try.results87]
  exact ⟨rfl, ⟨by (try simp only [pushed_next', upded_next']); omega, fun i hi => by simp -implicitDefEqProofs (disch := omega) []⟩⟩
set_option maxRecDepth 100000 in
set_option maxHeartbeats 4000000 in
theorem towardOf_ev (BC : List Value) (n w : Nat) (L H : Nat → Frac) (s : St) (hB : BOk BC n L H) : Ev TT 71 [.agg BC.toArray, .int .i64 w] s fun r s' => r = .func (.func 85) #[] #[.pointer (some ⟨s.next, 0, none⟩), .pointer (some ⟨s.next + 1, 0, none⟩)] ∧ Keep s s' ∧ s.next + 1 < s'.next ∧ s'.heap.get s.next = some (.cells BC none) ∧ s'.heap.get (s.next + 1) = some (.cells [.int .i64 w] none) := by
  have h2 := hB.len
  have h3 := hB.ones
  refine Ev.intro (fn := Try.f71) rfl (by kernel_rfl) rfl rfl ?_
  apply zz
  refine Cd.ra (h := ?_)
  apply Run.by_eq
  · intro self
    conv => lhs; simp -implicitDefEqProofs (maxSteps := 300000) (disch := omega) [-getElem?_pos, -getElem?_neg, h2, h3]
  try (with_reducible refine Run.ret ?_)
  apply zz
  refine Cd.ra (h := ?_)
  apply Run.by_eq
  · intro self
    conv => lhs; simp -implicitDefEqProofs (maxSteps := 300000) (disch := omega) [-getElem?_pos, -getElem?_neg]
  try (with_reducible refine Run.ret ?_)
  apply zz
  apply Leave.mk (by first | exact .inl rfl | exact .inr rfl) (by simp only [Fr.marks_put, fr0_marks])
  · conv => lhs; simp -implicitDefEqProofs (disch := omega) [Try.results71]
  refine ⟨rfl, ⟨by (try simp only [pushed_next', upded_next']); omega, fun i hi => by simp -implicitDefEqProofs (disch := omega) []⟩, by simp, ?_, ?_⟩
  · simp -implicitDefEqProofs (disch := omega)
  · simp -implicitDefEqProofs (disch := omega)
def nrT (w far d : Nat) : Nat := if far < w then far + 1 + d else far - 1 - d
def lnT (w far : Nat) : Nat := if far < w then w - (far + 1) else far - (w + 1)
theorem towardF_eq (n w far : Nat) : towardF n w far = (List.range (lnT w far)).map fun d => (far, nrT w far d) := by
  unfold towardF lnT nrT
  split <;> rfl
theorem nr_step {n w i d : Nat} {st : Int} (hw : w < n) (hi : i < n) (hd : d < lnT w i) (hst : st = if i < w then 1 else if w < i then -1 else 0) : nrT w i d ≠ w ∧ nrT w i d < n ∧ ((nrT w i d : Nat) : Int) + st = ((if d + 1 < lnT w i then nrT w i (d + 1) else w : Nat) : Int) := by
  by_cases h : i < w
  · have e1 : lnT w i = w - (i + 1) := if_pos h
    have e2 : ∀ d, nrT w i d = i + 1 + d := fun _ => if_pos h
    rw [if_pos h] at hst
    rw [e1] at hd ⊢
    rw [e2, e2]
    refine ⟨by omega, by omega, ?_⟩
    split <;> omega
  · have e1 : lnT w i = i - (w + 1) := if_neg h
    have e2 : ∀ d, nrT w i d = i - 1 - d := fun _ => if_neg h
    rw [if_neg h] at hst
    rw [e1] at hd ⊢
    rw [if_pos (by omega)] at hst
    rw [e2, e2]
    refine ⟨by omega, by omega, ?_⟩
    split <;> omega
theorem nr_first {n w i : Nat} {st : Int} (hw : w < n) (hi : i < n) (hst : st = if i < w then 1 else if w < i then -1 else 0) : (i : Int) + st = ((if 0 < lnT w i then nrT w i 0 else w : Nat) : Int) ∧ (if 0 < lnT w i then nrT w i 0 else w : Nat) < n := by
  by_cases h : i < w
  · have e1 : lnT w i = w - (i + 1) := if_pos h
    have e2 : ∀ d, nrT w i d = i + 1 + d := fun _ => if_pos h
    rw [if_pos h] at hst
    rw [e1, e2]
    split <;> omega
  · have e1 : lnT w i = i - (w + 1) := if_neg h
    have e2 : ∀ d, nrT w i d = i - 1 - d := fun _ => if_neg h
    rw [if_neg h] at hst
    rw [e1, e2]
    by_cases h2 : w < i
    · rw [if_pos h2] at hst; split <;> omega
    · rw [if_neg h2] at hst; split <;> omega
set_option maxRecDepth 100000 in
set_option maxHeartbeats 4000000 in
theorem toward_iter (n w : Nat) (L H : Nat → Frac) (BC : List Value) (pw pb b0 : Nat) (hB : BOk BC n L H) (hn : n ≤ 30) (hw : w < n) (hpw : pw < b0) (hpb : pb < b0) :
    Iter 85 [.pointer (some ⟨pb, 0, none⟩), .pointer (some ⟨pw, 0, none⟩)] b0 (fun s => s.heap.get pw = some (.cells [.int .i64 w] none) ∧ s.heap.get pb = some (.cells BC none)) (towardL n w) L H := by
  rintro yv s X J hb0 ⟨hgw, hgb⟩ hyv hX hJ0 hJs hyield
  have hXw : ¬ X pw := fun h => by have := hX _ h; omega
  have hXb : ¬ X pb := fun h => by have := hX _ h; omega
  have h1 := takeL_len hB.len
  have hS := hB.same
  have hwk : BC[0]? = some (.int .i64 n) := hB.wk
  obtain ⟨F, hG⟩ : ∃ F : Nat → List (Nat × Nat), F = fun far => towardF n w far := ⟨_, rfl⟩
  have hF : ∀ i, F i = (List.range (lnT w i)).map fun d => (i, nrT w i d) := fun i => by rw [hG]; exact towardF_eq n w i
  unfold towardL at hyield ⊢
  rw [← hG] at hyield ⊢
  refine Ev.intro (fn := Try.f85) rfl (by kernel_rfl) rfl rfl ?_
  apply zz
  refine Cd.ra (h := ?_)
  apply Run.by_eq
  · intro self
    conv => lhs; simp -implicitDefEqProofs (maxSteps := 300000) (disch := omega) [-getElem?_pos, -getElem?_neg, hgb, hwk]
  try (with_reducible refine Run.ret ?_)
  apply zz
  refine Cd.inv (fun z f s' => ∃ i : Nat, i ≤ n ∧ z = n - i ∧ f.marks = [] ∧ f.get 0 = yv ∧ f.get 1 = .pointer (some ⟨pb, 0, none⟩) ∧ f.get 2 = .pointer (some ⟨pw, 0, none⟩) ∧ f.get 8 = .int .i64 n ∧ f.get 9 = .int .i64 i ∧ J ((List.range i).flatMap F) s' ∧ s.next ≤ s'.next ∧ (∀ x, x < s.next → ¬ X x → s'.heap.get x = s.heap.get x)) n ?_ ?_
  · exact ⟨0, by omega, rfl, by simp, by simp, by simp, by simp, by simp, by simp, by simpa using hJ0, Nat.le_refl _, fun x _ _ => rfl⟩
  rintro z f s1 ⟨i, hi, rfl, hm, g0, g1, g2, g8, g9, hJ, hnx, hold⟩
  have hw1 := (hold pw (by omega) hXw).trans hgw
  by_cases hlt : i < n
  · have hlt' : (i : Int) < n := by omega
    apply zz
    refine Cd.ra (h := ?_)
    apply Run.by_eq
    · intro self
      conv => lhs; simp -implicitDefEqProofs (maxSteps := 300000) (disch := omega) [-getElem?_pos, -getElem?_neg, g8, g9, hlt']
    try (with_reducible refine Run.ret ?_)
    apply zz
    apply Cd.ite rfl
    · conv => lhs; simp -implicitDefEqProofs (maxSteps := 300000) (disch := omega) [-getElem?_pos, -getElem?_neg]
    all_goals intro c0
    all_goals try (cases c0; done)
    all_goals try simp only [Bool.not_eq_true', Bool.not_eq_false', decide_eq_true_eq, decide_eq_false_iff_not] at c0
    all_goals apply zz
    apply zz
    refine Cd.ra (h := ?_)
    apply Run.by_eq
    · intro self
      conv => lhs; simp -implicitDefEqProofs (maxSteps := 300000) (disch := omega) [-getElem?_pos, -getElem?_neg, g9]
    try (with_reducible refine Run.ret ?_)
    apply zz
    refine Cd.ra (h := ?_)
    apply Run.by_eq
    · intro self
      conv => lhs; simp -implicitDefEqProofs (maxSteps := 300000) (disch := omega) [-getElem?_pos, -getElem?_neg, g2, hw1]
    try (with_reducible refine Run.ret ?_)
    apply zz
    refine Run.call ((compare_ev w i _).mono fun v wa hv => ?_)
    obtain ⟨rfl, a⟩ := hv
    have aa := a.1
    have ab := a.2
    try simp only [pushed_next', upded_next'] at aa ab
    apply Run.by_eq
    · intro self
      conv => lhs; simp -implicitDefEqProofs (maxSteps := 300000) (disch := omega) [-getElem?_pos, -getElem?_neg]
    try (with_reducible refine Run.ret ?_)
    apply zz
    have hstep : cmpI w i = if i < w then 1 else if w < i then -1 else 0 := by unfold cmpI; split <;> split <;> first | rfl | omega | (split <;> first | rfl | omega)
    obtain ⟨st, hst⟩ : ∃ st, cmpI w i = st := ⟨_, rfl⟩
    rw [hst] at hstep ⊢
    have a0 := (ab pw (by omega)).trans hw1
    obtain ⟨hn0, hb0'⟩ := nr_first hw hlt hstep
    generalize hN0 : (if 0 < lnT w i then nrT w i 0 else w : Nat) = N0 at hn0 hb0'
    apply zz
    refine Cd.ra (h := ?_)
    apply Run.by_eq
    · intro self
      conv => lhs; simp -implicitDefEqProofs (maxSteps := 300000) (disch := omega) [-getElem?_pos, -getElem?_neg, hn0]
    try (with_reducible refine Run.ret ?_)
    apply zz
    refine Cd.mono (Q := fun x f2 s2 => x = Ex.exit 2 ∧ f2.marks = [] ∧ f2.get 0 = yv ∧ f2.get 1 = .pointer (some ⟨pb, 0, none⟩) ∧ f2.get 2 = .pointer (some ⟨pw, 0, none⟩) ∧ f2.get 8 = .int .i64 n ∧ f2.get 9 = .int .i64 i ∧ J ((List.range i).flatMap F ++ F i) s2 ∧ s.next ≤ s2.next ∧ (∀ x, x < s.next → ¬ X x → s2.heap.get x = s.heap.get x)) ?_ ?_
    · have hJa := hJs _ s1 wa hJ ⟨aa, ab⟩
      have holda : ∀ x, x < s.next → ¬ X x → wa.heap.get x = s.heap.get x := fun x hx hxx => (ab x (by omega)).trans (hold x hx hxx)
      refine Cd.inv (fun z f2 s2 => ∃ d : Nat, d ≤ lnT w i ∧ z = lnT w i - d ∧ f2.marks = [] ∧ f2.get 0 = yv ∧ f2.get 1 = .pointer (some ⟨pb, 0, none⟩) ∧ f2.get 2 = .pointer (some ⟨pw, 0, none⟩) ∧ f2.get 4 = .int .i64 i ∧ f2.get 5 = .int .i64 st ∧ f2.get 6 = .int .i64 (if d < lnT w i then nrT w i d else w : Nat) ∧ f2.get 8 = .int .i64 n ∧ f2.get 9 = .int .i64 i ∧ J ((List.range i).flatMap F ++ (F i).take d) s2 ∧ s.next ≤ s2.next ∧ (∀ x, x < s.next → ¬ X x → s2.heap.get x = s.heap.get x)) (lnT w i) ?_ ?_
      · refine ⟨0, by omega, rfl, by simp [hm], by simp [g0], by simp [g1], by simp [g2], by simp, by simp, ?_, by simp [g8], by simp [g9], by simpa using hJa, by omega, holda⟩
        rw [hN0]; simp
      · clear hJ hnx hold hm g0 g1 g2 g8 g9 hw1 hJa holda a0
        rintro z f2 s2 ⟨d, hd, rfl, hm, g0, g1, g2, g4, g5, g6, g8, g9, hJ, hnx, hold⟩
        have hb1 := (hold pb (by omega) hXb).trans hgb
        have hw1 := (hold pw (by omega) hXw).trans hgw
        by_cases hlk : d < lnT w i
        · rw [if_pos hlk] at g6
          obtain ⟨hne0, hnn0, hnx6⟩ := nr_step hw hlt hlk hstep
          have hne : ¬ ((nrT w i d : Nat) : Int) = w := by omega
          have hnn : nrT w i d < 30 := by omega
          have hdx : (F i)[d]? = some (i, nrT w i d) := by rw [hF, List.getElem?_map, List.getElem?_range hlk]; rfl
          have hpre := flat_prefix F hlt hdx
          have htk : (F i).take (d + 1) = (F i).take d ++ [(i, nrT w i d)] := by rw [List.take_add_one, hdx]; rfl
          apply zz
          refine Cd.ra (h := ?_)
          apply Run.by_eq
          · intro self
            conv => lhs; simp -implicitDefEqProofs (maxSteps := 300000) (disch := omega) [-getElem?_pos, -getElem?_neg, g6, g2, hw1, hne]
          try (with_reducible refine Run.ret ?_)
          apply zz
          apply Cd.ite rfl
          · conv => lhs; simp -implicitDefEqProofs (maxSteps := 300000) (disch := omega) [-getElem?_pos, -getElem?_neg]
          all_goals intro c1
          all_goals try (cases c1; done)
          all_goals try simp only [Bool.not_eq_true', Bool.not_eq_false', decide_eq_true_eq, decide_eq_false_iff_not] at c1
          all_goals apply zz
          apply zz
          refine Cd.drawn (pl := [(0, 0, false, false), (1, 0, false, false), (2, 0, false, false), (4, 0, false, false), (5, 0, false, false), (3, 6, true, false), (6, 62, true, false), (7, 126, false, false), (8, 255, true, false), (9, 511, false, false)]) (by kernel_rfl) (by conv => lhs; simp only [List.map_cons, List.map_nil]) (by conv => lhs; simp [strip, ordered]) ?_
          apply Run.by_eq
          · intro self
            conv => lhs; simp -implicitDefEqProofs (maxSteps := 300000) (disch := omega) [filter_bt, (show Nat.testBit 6 0 = false from rfl), (show Nat.testBit 6 1 = true from rfl), (show Nat.testBit 6 2 = true from rfl), (show Nat.testBit 6 4 = false from rfl), (show Nat.testBit 6 5 = false from rfl), (show Nat.testBit 62 0 = false from rfl), (show Nat.testBit 62 1 = true from rfl), (show Nat.testBit 62 2 = true from rfl), (show Nat.testBit 62 4 = true from rfl), (show Nat.testBit 62 5 = true from rfl), (show ∀ i, Nat.testBit 255 i = decide (i < 8) from fun i => Nat.testBit_two_pow_sub_one 8 i), -getElem?_pos, -getElem?_neg, g0, g1, g4, g6, hb1, h1, hS, hyv]
          try (with_reducible refine Run.ret ?_)
          apply zz
          refine Run.call ((lowPoint_ev BC n L H i _ hB (by omega)).mono fun v wy hv => ?_)
          obtain ⟨rfl, y⟩ := hv
          have ya := y.1
          have yb := y.2
          try simp only [pushed_next', upded_next'] at ya yb
          have y0 := (yb pb (by omega)).trans hb1
          apply Run.by_eq
          · intro self
            conv => lhs; simp -implicitDefEqProofs (maxSteps := 300000) (disch := omega) [-getElem?_pos, -getElem?_neg, g0, g1, g4, g6, y0, h1, hS, hyv]
          try (with_reducible refine Run.ret ?_)
          apply zz
          refine Run.call ((highPoint_ev BC n L H (nrT w i d) _ hB hnn).mono fun v wu hv => ?_)
          obtain ⟨rfl, u⟩ := hv
          have ua := u.1
          have ub := u.2
          try simp only [pushed_next', upded_next'] at ua ub
          have u0 := (ub pb (by omega)).trans y0
          apply Run.by_eq
          · intro self
            conv => lhs; simp -implicitDefEqProofs (maxSteps := 300000) (disch := omega) [-getElem?_pos, -getElem?_neg, g0, g1, g4, g6, u0, h1, hS, hyv]
          try (with_reducible refine Run.ret ?_)
          apply zz
          refine Run.callV ((hyield _ (i, nrT w i d) wu hpre (hJs _ s2 wu hJ ⟨by omega, fun x hx => (ub x (by omega)).trans (yb x (by omega))⟩) (by omega)).mono fun p hp => ?_)
          obtain ⟨hp1, hp2, hp3, hp4⟩ := hp
          have hold2 : ∀ x, x < s.next → ¬ X x → p.2.heap.get x = s.heap.get x := fun x hx hxx => (hp4 x hx hxx).trans ((ub x (by omega)).trans ((yb x (by omega)).trans (hold x hx hxx)))
          obtain ⟨pv, ps⟩ := p
          simp only [] at hp1 hp2 hp3 hold2 ⊢
          subst hp1
          apply Run.by_eq
          · intro self
            conv => lhs; simp -implicitDefEqProofs (maxSteps := 300000) (disch := omega) [-getElem?_pos, -getElem?_neg]
          try (with_reducible refine Run.ret ?_)
          apply zz
          apply Cd.ite rfl
          · conv => lhs; simp -implicitDefEqProofs (maxSteps := 300000) (disch := omega) [-getElem?_pos, -getElem?_neg]
          all_goals intro c2
          all_goals try (cases c2; done)
          all_goals try simp only [Bool.not_eq_true', Bool.not_eq_false', decide_eq_true_eq, decide_eq_false_iff_not] at c2
          all_goals apply zz
          have hst2 : -1 ≤ st ∧ st ≤ 1 := by
            clear hnx6
            rw [hstep]; split
            · omega
            · split <;> omega
          apply zz
          refine Cd.ra (h := ?_)
          apply Run.by_eq
          · intro self
            conv => lhs; simp -implicitDefEqProofs (maxSteps := 300000) (disch := omega) [-getElem?_pos, -getElem?_neg, g5, g6, hnx6]
          try (with_reducible refine Run.ret ?_)
          apply zz
          refine LoopK.nm (lnT w i - (d + 1)) (by omega) ⟨d + 1, by omega, rfl, by simp [hm], by simp [g0], by simp [g1], by simp [g2], by simp [g4], by simp [g5], by simp, by simp [g8], by simp [g9], ?_, by omega, hold2⟩
          rw [htk, ← List.append_assoc]; exact hp2
        · obtain rfl : d = lnT w i := by omega
          rw [if_neg hlk] at g6
          have hall : (F i).take (lnT w i) = F i := by rw [hF]; apply List.take_of_length_le; simp
          rw [hall] at hJ
          apply zz
          refine Cd.ra (h := ?_)
          apply Run.by_eq
          · intro self
            conv => lhs; simp -implicitDefEqProofs (maxSteps := 300000) (disch := omega) [-getElem?_pos, -getElem?_neg, g6, g2, hw1]
          try (with_reducible refine Run.ret ?_)
          apply zz
          apply Cd.ite rfl
          · conv => lhs; simp -implicitDefEqProofs (maxSteps := 300000) (disch := omega) [-getElem?_pos, -getElem?_neg]
          all_goals intro c1
          all_goals try (cases c1; done)
          all_goals try simp only [Bool.not_eq_true', Bool.not_eq_false', decide_eq_true_eq, decide_eq_false_iff_not] at c1
          all_goals apply zz
          exact ⟨rfl, by simp [hm], by simp [g0], by simp [g1], by simp [g2], by simp [g8], by simp [g9], hJ, hnx, hold⟩
    rintro x f2 s2 ⟨rfl, hm, g0, g1, g2, g8, g9, hJ, hnx, hold⟩
    apply zz
    refine Cd.ra (h := ?_)
    apply Run.by_eq
    · intro self
      conv => lhs; simp -implicitDefEqProofs (maxSteps := 300000) (disch := omega) [-getElem?_pos, -getElem?_neg, g9]
    try (with_reducible refine Run.ret ?_)
    apply zz
    refine LoopK.nm (n - (i + 1)) (by omega) ⟨i + 1, by omega, rfl, by simp [hm], by simp [g0], by simp [g1], by simp [g2], by simp [g8], by simp, ?_, hnx, hold⟩
    rw [List.range_succ, List.flatMap_append]; simpa using hJ
  · obtain rfl : i = n := by omega
    apply zz
    refine Cd.ra (h := ?_)
    apply Run.by_eq
    · intro self
      conv => lhs; simp -implicitDefEqProofs (maxSteps := 300000) (disch := omega) [-getElem?_pos, -getElem?_neg, g8, g9]
    try (with_reducible refine Run.ret ?_)
    apply zz
    apply Cd.ite rfl
    · conv => lhs; simp -implicitDefEqProofs (maxSteps := 300000) (disch := omega) [-getElem?_pos, -getElem?_neg]
    all_goals intro c0
    all_goals try (cases c0; done)
    all_goals try simp only [Bool.not_eq_true', Bool.not_eq_false', decide_eq_true_eq, decide_eq_false_iff_not] at c0
    all_goals apply zz
    apply Leave.mk (by first | exact .inl rfl | exact .inr rfl) (by simp only [Fr.marks_put, fr0_marks, hm])
    · conv => lhs; simp -implicitDefEqProofs (disch := omega) [Try.results85, hm]
    exact ⟨hJ, hnx, hold⟩
end Go.Proofs.Ytnhokodcmeekhaa
namespace Go.Proofs.Ytnhokodcmeekhaa
open Go Kern
/-! The sweetness of lines in a week -/
def lnAt (L R : Nat → Frac) (w : Nat) (p : Nat × Nat) : Frac := lineF p.1 (L p.1) p.2 (R p.2) w
theorem cs_len (l : List Frac) : ∀ y ∈ l.map Frac.cs, y.length = 2 := fun y hy => by obtain ⟨m, _, rfl⟩ := List.mem_map.1 hy; rfl
set_option maxRecDepth 100000 in
set_option maxHeartbeats 4000000 in
theorem valuesAt_ev (gi : FuncId) (cap : List Value) (K : St → Prop) (items : List (Nat × Nat)) (L R : Nat → Frac) (w : Nat) (s : St) (hI : Iter gi cap s.next K items L R) (hKs : ∀ s', Keep s s' → K s') (hw : w < 30)
    (hit : ∀ p ∈ items, p.1 < 30 ∧ p.2 < 30 ∧ Small (L p.1) ∧ Small (R p.2)) (hlen : items.length ≤ 100000) :
    Ev TT 68 [.int .i64 w, .func (.func gi) #[] cap.toArray] s fun r s' => Keep s s' ∧ FrAt s' r (items.map (lnAt L R w)) := by
  refine Ev.intro (fn := Try.f68) rfl (by kernel_rfl) rfl rfl ?_
  apply zz
  refine Cd.ra (h := ?_)
  apply Run.by_eq
  · intro self
    conv => lhs; simp -implicitDefEqProofs (maxSteps := 300000) (disch := omega) [-getElem?_pos, -getElem?_neg]
  try (with_reducible refine Run.ret ?_)
  apply zz
  refine Cd.ra (h := ?_)
  apply Run.by_eq
  · intro self
    conv => lhs; simp -implicitDefEqProofs (maxSteps := 300000) (disch := omega) [-getElem?_pos, -getElem?_neg]
  try (with_reducible refine Run.ret ?_)
  apply zz
  refine Cd.ra (h := ?_)
  apply Run.by_eq
  · intro self
    conv => lhs; simp -implicitDefEqProofs (maxSteps := 300000) (disch := omega) [-getElem?_pos, -getElem?_neg]
  try (with_reducible refine Run.ret ?_)
  apply zz
  refine Cd.rangeJ (gi := gi) (first := #[]) (captured := cap.toArray) rfl (by simp) ?_
  generalize hR : ALoop.mk true none _ _ _ _ _ = R0
  show Ev TT gi (.func (.yield (s.next + 1 + 1 + 1)) #[] #[] :: cap) _ _
  refine (hI (.func (.yield (s.next + 1 + 1 + 1)) #[] #[]) _ (fun i => i = s.next + 1 ∨ i = s.next + 1 + 1 + 1)
    (fun l s2 => s2.heap.get (s.next + 1 + 1 + 1) = some (.loop R0) ∧ s2.heap.get s.next = some (.cells [.int .i64 w] none) ∧ s.next + 1 + 1 + 1 < s2.next ∧ ∃ vv, s2.heap.get (s.next + 1) = some (.cells [vv] none) ∧ OwnG 2 (s.next + 1 + 1 + 1 + 1) s2 vv ((l.map (lnAt L R w)).map Frac.cs))
    ?_ ?_ ?_ ?_ ?_ ?_ ?_).mono fun _ s2 hres => ?_
  · simp only [pushed_next']; omega
  · exact hKs _ ⟨by (try simp only [pushed_next', upded_next']); omega, fun i hi => by simp -implicitDefEqProofs (disch := omega) []⟩
  · exact veq_yield _ _
  · rintro i (rfl | rfl) <;> omega
  · refine ⟨?_, ?_, ?_, .slice none 0 0, ?_, .inl ⟨rfl, rfl⟩⟩
    · simp -implicitDefEqProofs (disch := omega)
    · simp -implicitDefEqProofs (disch := omega)
    · simp
    · simp -implicitDefEqProofs (disch := omega)
  · rintro l sa sb ⟨j0, j1, j2, vv, j3, j4⟩ ⟨k1, k2⟩
    exact ⟨(k2 _ (by omega)).trans j0, (k2 _ (by omega)).trans j1, by omega, vv, (k2 _ (by omega)).trans j3, j4.keep k1 fun i _ hi => k2 i hi⟩
  · rintro l p sa hpre ⟨j0, j1, j2, vv, j3, j4⟩ hsn
    simp only [pushed_next'] at hsn
    obtain ⟨hp1, hp2, hp3, hp4⟩ := hit p (hpre.subset (by simp))
    have hll : l.length + 1 ≤ items.length := by have := hpre.length_le; simpa using this
    have hrows := cs_len (l.map (lnAt L R w))
    have hrl : ((l.map (lnAt L R w)).map Frac.cs).length = l.length := by simp
    have hrn : ((l ++ [p]).map (lnAt L R w)).map Frac.cs = (l.map (lnAt L R w)).map Frac.cs ++ [(lnAt L R w p).cs] := by simp
    have hvs : veq 5 vv vv = true := veq_sl (k := 4) (j4.sl hrows)
    have hvs4 : veq 4 vv vv = true := veq_sl (k := 3) (j4.sl hrows)
    have ho1 : oneV vv = true := by rcases j4 with ⟨_, rfl⟩ | ⟨_, rfl, _⟩ <;> rfl
    rw [hrn]
    generalize (l.map (lnAt L R w)).map Frac.cs = rows at j4 hrows hrl ⊢
    show Evn TT (fun self => exRound self (s.next + 1 + 1 + 1) _ sa) _
    subst hR
    refine Evn.round j0 rfl ?_
    show Cd TT true _ _ ((Fr.mk _ []).put (some 8) _) _ _
    dsimp only
    apply zz
    refine Cd.ra (h := ?_)
    apply Run.by_eq
    · intro self
      conv => lhs; simp -implicitDefEqProofs (maxSteps := 300000) (disch := omega) [-getElem?_pos, -getElem?_neg, Fr.get_mk]
    try (with_reducible refine Run.ret ?_)
    apply zz
    have jl : ∀ (c d : AObj), ((sa.pushed c).upded sa.next d).heap.get (s.next + 1 + 1 + 1) = sa.heap.get (s.next + 1 + 1 + 1) := fun c d => by simp -implicitDefEqProofs (disch := omega)
    refine ⟨rfl, _, (jl _ _).trans j0, rfl, rfl, ?_⟩
    dsimp only
    generalize hLf : ALoop.mk false none _ _ _ _ _ = Lf
    apply zz
    refine Cd.drawn (pl := [(0, 0, false, false), (1, 0, false, false), (2, 0, false, false), (3, 6, true, false), (4, 14, false, true), (5, 31, true, false), (6, 63, true, false)]) (by kernel_rfl) (by conv => lhs; simp only [List.map_cons, List.map_nil]) (by conv => lhs; simp [strip, ordered]) ?_
    apply Run.by_eq
    · intro self
      conv => lhs; simp -implicitDefEqProofs (maxSteps := 300000) (disch := omega) [filter_bt, (show Nat.testBit 6 0 = false from rfl), (show Nat.testBit 6 1 = true from rfl), (show Nat.testBit 6 2 = true from rfl), (show ∀ i, Nat.testBit 31 i = decide (i < 5) from fun i => Nat.testBit_two_pow_sub_one 5 i), (show ∀ i, Nat.testBit 63 i = decide (i < 6) from fun i => Nat.testBit_two_pow_sub_one 6 i), -getElem?_pos, -getElem?_neg, Fr.get_mk, j1, j3, hvs, hvs4, ho1]
    try (with_reducible refine Run.ret ?_)
    apply zz
    refine Run.call ((lineO_ev p.1 p.2 w (L p.1) (R p.2) _ hp3 hp4 (by omega) (by omega) (by omega)).mono fun v wy hv => ?_)
    obtain ⟨rfl, y⟩ := hv
    have ya := y.1
    have yb := y.2
    try simp only [pushed_next', upded_next'] at ya yb
    have y0 : wy.heap.get s.next = some (.cells [.int .i64 w] none) := by rw [yb _ (by (try simp only [pushed_next', upded_next']); omega)]; simp -implicitDefEqProofs (disch := omega) [j1]
    have y1 : wy.heap.get (s.next + 1) = some (.cells [vv] none) := by rw [yb _ (by (try simp only [pushed_next', upded_next']); omega)]; simp -implicitDefEqProofs (disch := omega) [j3]
    have y2 : wy.heap.get sa.next = some (.cells [.int .i64 p.1, .int .i64 (L p.1).o, .int .i64 (L p.1).u, .int .i64 p.2, .int .i64 (R p.2).o, .int .i64 (R p.2).u] none) := by rw [yb _ (by (try simp only [pushed_next', upded_next']); omega)]; simp -implicitDefEqProofs (disch := omega)
    have yl : wy.heap.get (s.next + 1 + 1 + 1) = some (.loop Lf) := by rw [yb _ (by (try simp only [pushed_next', upded_next']); omega)]; simp -implicitDefEqProofs (disch := omega)
    have yo : ∀ i, i < sa.next → i ≠ s.next + 1 + 1 + 1 → wy.heap.get i = sa.heap.get i := fun i h1 h2 => by rw [yb i (by (try simp only [pushed_next', upded_next']); omega)]; simp -implicitDefEqProofs (disch := omega)
    rw [show (lineF p.1 (L p.1) p.2 (R p.2) w) = lnAt L R w p from rfl]
    generalize lnAt L R w p = X at *
    have hOy : OwnG 2 (s.next + 1 + 1 + 1 + 1) (wy.pushed (.cells [.int .i64 X.o, .int .i64 X.u] none)) vv rows := j4.keep (by (try simp only [pushed_next', upded_next'] at *); omega) fun i h1 h2 => by
      rw [get_pushed_old _ _ _ (by omega)]; exact yo i h2 (by omega)
    obtain ⟨s4, happ, hn4, hk4, hO4⟩ := app_one (n := 2) (b2 := wy.next) (x := [.int .i64 X.o, .int .i64 X.u]) (g := none) hOy hrows rfl rfl (get_pushed_new _ _) (by (try simp only [pushed_next', upded_next'] at *); omega) (by omega)
    simp only [pushed_next'] at happ hn4 hO4
    have z1 := (hk4 (s.next + 1) (by omega)).trans ((get_pushed_old _ _ _ (by omega)).trans y1)
    apply Run.by_eq
    · intro self
      conv => lhs; simp -implicitDefEqProofs (maxSteps := 300000) (disch := omega) [-getElem?_pos, -getElem?_neg, v_eq, Fr.get_mk, y0, y1, y2, hvs, hvs4, ho1, happ, z1]
    try (with_reducible refine Run.ret ?_)
    apply zz
    refine ⟨rfl, Lf, ?_, rfl, ⟨?_, ?_, ?_, _, ?_, hO4.keep ?_ fun i h1 h2 => ?_⟩, ?_, fun z hz hX => ?_⟩
    · rw [get_upded_other _ _ _ _ (by omega), hk4 _ (by omega), get_pushed_old _ _ _ (by omega)]; exact yl
    · rw [get_upded_same]; subst hLf; rfl
    · rw [get_upded_other _ _ _ _ (by omega), get_upded_other _ _ _ _ (by omega), hk4 _ (by omega), get_pushed_old _ _ _ (by omega)]; exact y0
    · simp only [pushed_next', upded_next'] at *; omega
    · rw [get_upded_other _ _ _ _ (by omega), get_upded_same]
    · simp only [pushed_next', upded_next'] at *; omega
    · rw [get_upded_other _ _ _ _ (by omega), get_upded_other _ _ _ _ (by omega)]
    · simp only [pushed_next', upded_next'] at *; omega
    · have x1 : z ≠ s.next + 1 := fun e => hX (.inl e)
      have x2 : z ≠ s.next + 1 + 1 + 1 := fun e => hX (.inr e)
      simp only [pushed_next', upded_next'] at hz ya
      rw [get_upded_other _ _ _ _ x2, get_upded_other _ _ _ _ x1, hk4 _ (by omega), get_pushed_old _ _ _ (by omega)]
      exact yo z (by omega) x2
  · obtain ⟨⟨j0, j1, j2, vv, j3, j4⟩, r2, r3⟩ := hres
    simp only [pushed_next'] at r2 r3
    have ho1 : oneV vv = true := by rcases j4 with ⟨_, rfl⟩ | ⟨_, rfl, _⟩ <;> rfl
    have hd : s2.heap.get (s.next + 1 + 1) = some (.deferred true) := by
      rw [r3 _ (by omega) (by omega)]
      simp -implicitDefEqProofs (disch := omega)
    refine ⟨R0, j0, .inl ⟨by rw [← hR], by rw [← hR], ?_⟩⟩
    apply zz
    refine Cd.ra (h := ?_)
    apply Run.by_eq
    · intro self
      conv => lhs; simp -implicitDefEqProofs (maxSteps := 300000) (disch := omega) [-getElem?_pos, -getElem?_neg, Fr.get_mk, j3]
    try (with_reducible refine Run.ret ?_)
    apply zz
    refine Leave.many (.inr rfl) (by simp [Fr.marks_put]) (fun m hm => ?_) fun s' e1 e2 => ?_
    · have hm2 : m = s.next + 1 + 1 := by simpa [Fr.marks_put] using hm
      subst hm2
      simp -implicitDefEqProofs (disch := omega) [hd]
    have hmm : ∀ i, i ≠ s.next + 1 + 1 → s'.heap.get i = (s2.upded (s.next + 1 + 1 + 1) .dead).heap.get i := fun i hi => e2 i (by simpa [Fr.marks_put] using hi)
    have hs' : ∀ i, i ≠ s.next + 1 + 1 → i ≠ s.next + 1 + 1 + 1 → s'.heap.get i = s2.heap.get i := fun i h1 h2 => by rw [hmm i h1, get_upded_other _ _ _ _ h2]
    simp only [upded_next'] at e1
    refine ⟨[vv], ?_, ⟨by omega, fun i hi => ?_⟩, ?_⟩
    · conv => lhs; simp -implicitDefEqProofs (disch := omega) [Try.results68]
    · rw [hs' i (by omega) (by omega), r3 i (by omega) (by omega)]
      simp -implicitDefEqProofs (disch := omega)
    · have := (j4.keep (s' := s') (by omega) fun i h1 h2 => hs' i (by omega) (by omega)).sl (cs_len _)
      exact this
end Go.Proofs.Ytnhokodcmeekhaa
namespace Go.Proofs.Ytnhokodcmeekhaa
open Go Kern
/-! The least and the greatest sweetness of a week; rounding -/
set_option maxRecDepth 100000 in
theorem down_ev (x : Frac) (s : St) (ho : 0 ≤ x.o) (hu : 0 < x.u) (hb : x.o ≤ 4611686018427387904) : Ev TT 42 [x.v] s fun r s' => r = .int .i64 (flF x) ∧ Keep s s' := by
  have hq := intOp_quo .i64 x.o x.u ho hu
  have h1 : 0 ≤ x.o / x.u := Int.ediv_nonneg ho (by omega)
  have h2 : x.o / x.u ≤ x.o := Int.ediv_le_self _ ho
  unfold flF
  rw [v_eq]
  generalize hQ : x.o / x.u = Q at hq h1 h2 ⊢
  have hw : wrapF .i64 Q = Q := by simp -implicitDefEqProofs (disch := omega)
  rw [hw] at hq
  refine Ev.intro (fn := Try.f42) rfl (by kernel_rfl) rfl rfl ?_
  apply zz
  refine Cd.ra (h := ?_)
  apply Run.by_eq
  · intro self
    conv => lhs; simp -implicitDefEqProofs (maxSteps := 300000) (disch := omega) [-getElem?_pos, -getElem?_neg]
  try (with_reducible refine Run.ret ?_)
  apply zz
  refine Cd.ra (h := ?_)
  apply Run.by_eq
  · intro self
    conv => lhs; simp -implicitDefEqProofs (maxSteps := 300000) (disch := omega) [-getElem?_pos, -getElem?_neg, hq]
  try (with_reducible refine Run.ret ?_)
  apply zz
  apply Leave.mk (by first | exact .inl rfl | exact .inr rfl) (by simp only [Fr.marks_put, fr0_marks])
  · conv => lhs; simp -implicitDefEqProofs (disch := omega) [Try.results42]
  exact ⟨rfl, ⟨by (try simp only [pushed_next', upded_next']); omega, fun i hi => by simp -implicitDefEqProofs (disch := omega) []⟩⟩
set_option maxRecDepth 100000 in
theorem up_ev (x : Frac) (s : St) (ho : 0 ≤ x.o) (hu : 0 < x.u) (hb : x.o ≤ 2000000000000000000) (hb2 : x.u ≤ 2000000000000000000) : Ev TT 44 [x.v] s fun r s' => r = .int .i64 (ceF x) ∧ Keep s s' := by
  have hq := intOp_quo .i64 (x.o + x.u - 1) x.u (by omega) hu
  have h1 : 0 ≤ (x.o + x.u - 1) / x.u := Int.ediv_nonneg (by omega) (by omega)
  have h2 : (x.o + x.u - 1) / x.u ≤ x.o + x.u - 1 := Int.ediv_le_self _ (by omega)
  rw [← ce_up hu, v_eq]
  generalize hQ : (x.o + x.u - 1) / x.u = Q at hq h1 h2 ⊢
  have hw : wrapF .i64 Q = Q := by simp -implicitDefEqProofs (disch := omega)
  rw [hw] at hq
  refine Ev.intro (fn := Try.f44) rfl (by kernel_rfl) rfl rfl ?_
  apply zz
  refine Cd.ra (h := ?_)
  apply Run.by_eq
  · intro self
    conv => lhs; simp -implicitDefEqProofs (maxSteps := 300000) (disch := omega) [-getElem?_pos, -getElem?_neg]
  try (with_reducible refine Run.ret ?_)
  apply zz
  refine Cd.ra (h := ?_)
  apply Run.by_eq
  · intro self
    conv => lhs; simp -implicitDefEqProofs (maxSteps := 300000) (disch := omega) [-getElem?_pos, -getElem?_neg, hq]
  try (with_reducible refine Run.ret ?_)
  apply zz
  apply Leave.mk (by first | exact .inl rfl | exact .inr rfl) (by simp only [Fr.marks_put, fr0_marks])
  · conv => lhs; simp -implicitDefEqProofs (disch := omega) [Try.results44]
  exact ⟨rfl, ⟨by (try simp only [pushed_next', upded_next']); omega, fun i hi => by simp -implicitDefEqProofs (disch := omega) []⟩⟩
/-- Lines of such fractions are so small that they can be compared. -/
theorem lines_fit {A B : Int} {n w : Nat} {L R : Nat → Frac} {x0 : Frac} {items : List (Nat × Nat)} (hn : n ≤ 30) (hw : w < n) (hA : 0 ≤ A) (hB : 1 ≤ B) (hAB : 60 * (A * B) * (30 * (B * B)) ≤ 4611686018427387904) (hL : ∀ i, i < n → Mid A B (L i)) (hR : ∀ i, i < n → Mid A B (R i)) (h0 : Mid A B x0)
    (hit : ∀ p ∈ items, p.1 < n ∧ p.2 < n ∧ p.1 ≠ p.2) : (∀ x ∈ items.map (lnAt L R w), Mid (60 * (A * B)) (30 * (B * B)) x) ∧ ∀ x ∈ items.map (lnAt L R w), ∀ y, y = x0 ∨ y ∈ items.map (lnAt L R w) → Fits x y := by
  have hm : ∀ x ∈ items.map (lnAt L R w), Mid (60 * (A * B)) (30 * (B * B)) x := fun x hx => by
    obtain ⟨p, hp, rfl⟩ := List.mem_map.1 hx
    obtain ⟨h1, h2, h3⟩ := hit p hp
    exact lineF_mid (hL _ h1) (hR _ h2) (by omega) (by omega) (by omega) (by omega)
  have hAB1 : A ≤ A * B := by have := Int.mul_le_mul_of_nonneg_left hB hA; omega
  have hBB1 : B ≤ B * B := by have := Int.mul_le_mul_of_nonneg_left hB (show 0 ≤ B by omega); omega
  refine ⟨hm, fun x hx y hy => ?_⟩
  have hy' : Mid (60 * (A * B)) (30 * (B * B)) y := by
    rcases hy with rfl | hy
    · exact h0.mono (by omega) (by omega)
    · exact hm y hy
  exact (hm x hx).fits hy' hAB
theorem flat_len_le {α β : Type} {c : Nat} (F : α → List β) : ∀ {l : List α}, (∀ x ∈ l, (F x).length ≤ c) → (l.flatMap F).length ≤ l.length * c
  | [], _ => by simp
  | x :: r, h => by
    rw [List.flatMap_cons, List.length_append, List.length_cons, Nat.add_mul]
    have := h x (.head _)
    have := flat_len_le F (l := r) fun y hy => h y (.tail _ hy)
    omega
theorem across_len {n w : Nat} (hn : n ≤ 30) (hw : w < n) : (acrossL n w).length ≤ 900 := by
  have := flat_len_le (c := 30) (fun i => (List.range (n - (w + 1))).map fun d => (i, w + 1 + d)) (l := List.range w) fun x _ => by simp; omega
  unfold acrossL
  simp only [List.length_range] at this
  omega
theorem toward_len {n w : Nat} (hn : n ≤ 30) (hw : w < n) : (towardL n w).length ≤ 900 := by
  have := flat_len_le (c := 30) (fun far => towardF n w far) (l := List.range n) fun x hx => by
    have : x < n := by simpa using hx
    rw [towardF_eq]; simp only [List.length_map, List.length_range]; unfold lnT; split <;> omega
  unfold towardL
  simp only [List.length_range] at this
  omega
set_option maxRecDepth 100000 in
set_option maxHeartbeats 4000000 in
theorem least_ev (A B : Int) (BC : List Value) (n : Nat) (L H : Nat → Frac) (w : Nat) (s : St) (hB : BOk BC n L H) (hn : n ≤ 30) (hw : w < n) (hA : 0 ≤ A) (hB1 : 1 ≤ B) (hA2 : A ≤ 30000000000) (hB2 : B ≤ 30000) (hAB : 60 * (A * B) * (30 * (B * B)) ≤ 4611686018427387904) (hL : ∀ i, i < n → Mid A B (L i)) :
    Ev TT 41 [.agg BC.toArray, .int .i64 w] s fun r s' => r = (lowF n L w).v ∧ Keep s s' := by
  have h2 := hB.len
  have h3 := hB.ones
  have h1 := takeL_len h2
  have hS := hB.same
  have hlo := hB.lo w (by omega)
  have h4 : ((w : Int) < 30) := by omega
  have hw30 : w < 30 := by omega
  obtain ⟨hm, hF⟩ := lines_fit (x0 := L w) (items := acrossL n w) hn hw hA hB1 hAB hL hL (hL w hw) fun p hp => by have := across_mem.1 hp; omega
  have hlow : lowF n L w = foreF aboveB (L w) ((acrossL n w).map (lnAt L L w)) := rfl
  rw [hlow]
  have hlen : ((acrossL n w).map (lnAt L L w)).length ≤ 100000 := by rw [List.length_map]; have := across_len hn hw; omega
  refine Ev.intro (fn := Try.f41) rfl (by kernel_rfl) rfl rfl ?_
  apply zz
  refine Cd.ra (h := ?_)
  apply Run.by_eq
  · intro self
    conv => lhs; simp -implicitDefEqProofs (maxSteps := 300000) (disch := omega) [-getElem?_pos, -getElem?_neg, h2, h3]
  try (with_reducible refine Run.ret ?_)
  apply zz
  refine Cd.drawn (pl := [(0, 0, false, false), (1, 0, false, false), (2, 3, false, false), (3, 7, false, false), (4, 0, false, false), (5, 0, false, false), (6, 0, false, false), (7, 96, true, false), (8, 240, true, false), (9, 511, true, false), (10, 1023, true, false)]) (by kernel_rfl) (by conv => lhs; simp only [List.map_cons, List.map_nil]) (by conv => lhs; simp [strip, ordered]) ?_
  apply Run.by_eq
  · intro self
    conv => lhs; simp -implicitDefEqProofs (maxSteps := 300000) (disch := omega) [filter_bt, (show Nat.testBit 96 0 = false from rfl), (show Nat.testBit 96 1 = false from rfl), (show Nat.testBit 96 2 = false from rfl), (show Nat.testBit 96 3 = false from rfl), (show Nat.testBit 96 4 = false from rfl), (show Nat.testBit 96 5 = true from rfl), (show Nat.testBit 96 6 = true from rfl), (show Nat.testBit 240 0 = false from rfl), (show Nat.testBit 240 1 = false from rfl), (show Nat.testBit 240 2 = false from rfl), (show Nat.testBit 240 3 = false from rfl), (show Nat.testBit 240 4 = true from rfl), (show Nat.testBit 240 5 = true from rfl), (show Nat.testBit 240 6 = true from rfl), (show ∀ i, Nat.testBit 511 i = decide (i < 9) from fun i => Nat.testBit_two_pow_sub_one 9 i), (show ∀ i, Nat.testBit 1023 i = decide (i < 10) from fun i => Nat.testBit_two_pow_sub_one 10 i), -getElem?_pos, -getElem?_neg, h1, hS, hlo, hw30, h4]
  try (with_reducible refine Run.ret ?_)
  apply zz
  refine Run.call ((acrossOf_ev BC n w L H _ hB).mono fun v wu hv => ?_)
  obtain ⟨rfl, u, un, u0, u1⟩ := hv
  have ua := u.1
  have ub := u.2
  try simp only [pushed_next', upded_next'] at ua ub un u0 u1
  have x0 : wu.heap.get s.next = some (.cells BC none) := by rw [ub _ (by omega)]; simp -implicitDefEqProofs (disch := omega)
  have x9 : wu.heap.get (s.next + 1) = some (.cells [.int .i64 0, .int .i64 0] none) := by rw [ub _ (by omega)]; simp -implicitDefEqProofs (disch := omega)
  apply Run.by_eq
  · intro self
    conv => lhs; simp -implicitDefEqProofs (maxSteps := 300000) (disch := omega) [-getElem?_pos, -getElem?_neg, x0, h1, hS, hlo, hw30, h4]
  try (with_reducible refine Run.ret ?_)
  apply zz
  refine Run.call ((valuesAt_ev 84 [.pointer (some ⟨s.next + 1 + 1 + 1, 0, none⟩), .pointer (some ⟨s.next + 1 + 1, 0, none⟩)] _ (acrossL n w) L L w wu (across_iter n w L H BC (s.next + 1 + 1 + 1) (s.next + 1 + 1) wu.next hB hn hw (by omega) (by omega)) (fun s' k => ⟨(k.2 _ (by omega)).trans u1, (k.2 _ (by omega)).trans u0⟩) hw30 (fun p hp => ?_) (by have := across_len hn hw; omega)).mono fun v wz hv => ?_)
  · have := across_mem.1 hp
    exact ⟨by omega, by omega, (hL _ (by omega)).small hA2 hB2, (hL _ (by omega)).small hA2 hB2⟩
  obtain ⟨z, hz⟩ := hv
  have za := z.1
  have zb := z.2
  have z0 := (zb _ (by omega)).trans x0
  have hvv : veq 5 v v = true := veq_sl (k := 4) hz
  apply Run.by_eq
  · intro self
    conv => lhs; simp -implicitDefEqProofs (maxSteps := 300000) (disch := omega) [-getElem?_pos, -getElem?_neg, z0, h1, hS, hlo, hw30, h4, hvv]
  try (with_reducible refine Run.ret ?_)
  apply zz
  refine Run.call ((greatest_ev (L w) v _ _ hz hlen hF).mono fun v2 wt hv => ?_)
  obtain ⟨rfl, t⟩ := hv
  have ta := t.1
  have tb := t.2
  have t0 := (tb _ (by omega)).trans z0
  have t9 := (tb _ (by omega)).trans ((zb _ (by omega)).trans x9)
  apply Run.by_eq
  · intro self
    conv => lhs; simp -implicitDefEqProofs (maxSteps := 300000) (disch := omega) [-getElem?_pos, -getElem?_neg, v_eq, t0, t9, h1, hS, hlo, hw30, h4, hvv]
  try (with_reducible refine Run.ret ?_)
  apply zz
  apply Leave.mk (by first | exact .inl rfl | exact .inr rfl) (by simp only [Fr.marks_put, fr0_marks])
  · conv => lhs; simp -implicitDefEqProofs (disch := omega) [Try.results41]
  exact ⟨rfl, ⟨by (try simp only [pushed_next', upded_next']); omega, fun i hi => by simp -implicitDefEqProofs (disch := omega) [tb, zb, ub]⟩⟩
set_option maxRecDepth 100000 in
set_option maxHeartbeats 4000000 in
theorem most_ev (A B : Int) (BC : List Value) (n : Nat) (L H : Nat → Frac) (w : Nat) (s : St) (hB : BOk BC n L H) (hn : n ≤ 30) (hw : w < n) (hA : 0 ≤ A) (hB1 : 1 ≤ B) (hA2 : A ≤ 30000000000) (hB2 : B ≤ 30000) (hAB : 60 * (A * B) * (30 * (B * B)) ≤ 4611686018427387904) (hL : ∀ i, i < n → Mid A B (L i)) (hH : ∀ i, i < n → Mid A B (H i)) :
    Ev TT 43 [.agg BC.toArray, .int .i64 w] s fun r s' => r = (upF n L H w).v ∧ Keep s s' := by
  have h2 := hB.len
  have h3 := hB.ones
  have h1 := takeL_len h2
  have hS := hB.same
  have hlo := hB.hi w (by omega)
  have h4 : ((w : Int) < 30) := by omega
  have hw30 : w < 30 := by omega
  obtain ⟨hm, hF⟩ := lines_fit (x0 := H w) (items := towardL n w) hn hw hA hB1 hAB hL hH (hH w hw) fun p hp => by have := toward_mem.1 hp; omega
  have hlow : upF n L H w = foreF belowB (H w) ((towardL n w).map (lnAt L H w)) := rfl
  rw [hlow]
  have hlen : ((towardL n w).map (lnAt L H w)).length ≤ 100000 := by rw [List.length_map]; have := toward_len hn hw; omega
  refine Ev.intro (fn := Try.f43) rfl (by kernel_rfl) rfl rfl ?_
  apply zz
  refine Cd.ra (h := ?_)
  apply Run.by_eq
  · intro self
    conv => lhs; simp -implicitDefEqProofs (maxSteps := 300000) (disch := omega) [-getElem?_pos, -getElem?_neg, h2, h3]
  try (with_reducible refine Run.ret ?_)
  apply zz
  refine Cd.drawn (pl := [(0, 0, false, false), (1, 0, false, false), (2, 3, false, false), (3, 7, false, false), (4, 0, false, false), (5, 0, false, false), (6, 0, false, false), (7, 96, true, false), (8, 240, true, false), (9, 511, true, false), (10, 1023, true, false)]) (by kernel_rfl) (by conv => lhs; simp only [List.map_cons, List.map_nil]) (by conv => lhs; simp [strip, ordered]) ?_
  apply Run.by_eq
  · intro self
    conv => lhs; simp -implicitDefEqProofs (maxSteps := 300000) (disch := omega) [filter_bt, (show Nat.testBit 96 0 = false from rfl), (show Nat.testBit 96 1 = false from rfl), (show Nat.testBit 96 2 = false from rfl), (show Nat.testBit 96 3 = false from rfl), (show Nat.testBit 96 4 = false from rfl), (show Nat.testBit 96 5 = true from rfl), (show Nat.testBit 96 6 = true from rfl), (show Nat.testBit 240 0 = false from rfl), (show Nat.testBit 240 1 = false from rfl), (show Nat.testBit 240 2 = false from rfl), (show Nat.testBit 240 3 = false from rfl), (show Nat.testBit 240 4 = true from rfl), (show Nat.testBit 240 5 = true from rfl), (show Nat.testBit 240 6 = true from rfl), (show ∀ i, Nat.testBit 511 i = decide (i < 9) from fun i => Nat.testBit_two_pow_sub_one 9 i), (show ∀ i, Nat.testBit 1023 i = decide (i < 10) from fun i => Nat.testBit_two_pow_sub_one 10 i), -getElem?_pos, -getElem?_neg, h1, hS, hlo, hw30, h4]
  try (with_reducible refine Run.ret ?_)
  apply zz
  refine Run.call ((towardOf_ev BC n w L H _ hB).mono fun v wu hv => ?_)
  obtain ⟨rfl, u, un, u0, u1⟩ := hv
  have ua := u.1
  have ub := u.2
  try simp only [pushed_next', upded_next'] at ua ub un u0 u1
  have x0 : wu.heap.get s.next = some (.cells BC none) := by rw [ub _ (by omega)]; simp -implicitDefEqProofs (disch := omega)
  have x9 : wu.heap.get (s.next + 1) = some (.cells [.int .i64 0, .int .i64 0] none) := by rw [ub _ (by omega)]; simp -implicitDefEqProofs (disch := omega)
  apply Run.by_eq
  · intro self
    conv => lhs; simp -implicitDefEqProofs (maxSteps := 300000) (disch := omega) [-getElem?_pos, -getElem?_neg, x0, h1, hS, hlo, hw30, h4]
  try (with_reducible refine Run.ret ?_)
  apply zz
  refine Run.call ((valuesAt_ev 85 [.pointer (some ⟨s.next + 1 + 1, 0, none⟩), .pointer (some ⟨s.next + 1 + 1 + 1, 0, none⟩)] _ (towardL n w) L H w wu (toward_iter n w L H BC (s.next + 1 + 1 + 1) (s.next + 1 + 1) wu.next hB hn hw (by omega) (by omega)) (fun s' k => ⟨(k.2 _ (by omega)).trans u1, (k.2 _ (by omega)).trans u0⟩) hw30 (fun p hp => ?_) (by have := toward_len hn hw; omega)).mono fun v wz hv => ?_)
  · have := toward_mem.1 hp
    exact ⟨by omega, by omega, (hL _ (by omega)).small hA2 hB2, (hH _ (by omega)).small hA2 hB2⟩
  obtain ⟨z, hz⟩ := hv
  have za := z.1
  have zb := z.2
  have z0 := (zb _ (by omega)).trans x0
  have hvv : veq 5 v v = true := veq_sl (k := 4) hz
  apply Run.by_eq
  · intro self
    conv => lhs; simp -implicitDefEqProofs (maxSteps := 300000) (disch := omega) [-getElem?_pos, -getElem?_neg, z0, h1, hS, hlo, hw30, h4, hvv]
  try (with_reducible refine Run.ret ?_)
  apply zz
  refine Run.call ((smallest_ev (H w) v _ _ hz hlen hF).mono fun v2 wt hv => ?_)
  obtain ⟨rfl, t⟩ := hv
  have ta := t.1
  have tb := t.2
  have t0 := (tb _ (by omega)).trans z0
  have t9 := (tb _ (by omega)).trans ((zb _ (by omega)).trans x9)
  apply Run.by_eq
  · intro self
    conv => lhs; simp -implicitDefEqProofs (maxSteps := 300000) (disch := omega) [-getElem?_pos, -getElem?_neg, v_eq, t0, t9, h1, hS, hlo, hw30, h4, hvv]
  try (with_reducible refine Run.ret ?_)
  apply zz
  apply Leave.mk (by first | exact .inl rfl | exact .inr rfl) (by simp only [Fr.marks_put, fr0_marks])
  · conv => lhs; simp -implicitDefEqProofs (disch := omega) [Try.results43]
  exact ⟨rfl, ⟨by (try simp only [pushed_next', upded_next']); omega, fun i hi => by simp -implicitDefEqProofs (disch := omega) [tb, zb, ub]⟩⟩
end Go.Proofs.Ytnhokodcmeekhaa
namespace Go.Proofs.Ytnhokodcmeekhaa
open Go Kern
/-! Bounds of a field that is possible -/
def hB (lo hi : Int) (ss : List SampD) : Nat → Nat → Nat → Bool := holdsB (fun w => (endN lo hi ss w).1) (fun w => (endN lo hi ss w).2)
def PosA (n lo hi : Int) (ss : List SampD) (BC : List Value) (e : Int) : Prop :=
  (fieldErr n lo hi ss ≠ 0 ∧ e = fieldErr n lo hi ss) ∨
  (fieldErr n lo hi ss = 0 ∧ e = 12 ∧ ∃ i j k, i < n.toNat ∧ j < n.toNat ∧ k < n.toNat ∧ hB lo hi ss i j k = true) ∨
  (fieldErr n lo hi ss = 0 ∧ e = 0 ∧ BC = bcells n.toNat (bndN n.toNat lo hi ss).1 (bndN n.toNat lo hi ss).2 ∧ ∀ i j k, i < n.toNat → j < n.toNat → k < n.toNat → hB lo hi ss i j k = false)
theorem hB_eq {m : Nat} {lo hi : Int} {ss : List SampD} (h1 : fieldErr m lo hi ss = 0) : ∀ i j k, i < m → j < m → k < m → clashB (bndN m lo hi ss).1 (bndN m lo hi ss).2 i j k = hB lo hi ss i j k := fun _ _ _ => clash_holds (bnd_end h1)
def zBC : List Value := .int .i64 0 :: List.replicate 120 (.int .i64 0)
theorem zBC_len : zBC.length = 121 := by simp [zBC]
theorem zBC_ones : onesL zBC = true := rfl
theorem zBC_same : listEq (veq 4) zBC zBC = true := same_ints _ fun x hx => ⟨0, by
  unfold zBC at hx
  cases hx with
  | head => rfl
  | tail _ hx => exact (List.mem_replicate.1 hx).2⟩
@[simp] theorem binVal_nilN (t e : TypeId) (fl : Bool) (l c l' c' : Nat) : binVal TT (.slice e) t fl .neq (.slice none l c) (.slice none l' c') = some (.bool false) := rfl
@[simp] theorem binVal_someN (t e : TypeId) (fl : Bool) (a : Addr) (l c l' c' : Nat) : binVal TT (.slice e) t fl .neq (.slice (some a) l c) (.slice none l' c') = some (.bool true) := rfl
theorem overL_len {α : Type} {vs b : List α} (h : vs.length = b.length) : overL vs b = some vs := by
  have := overL_same vs b [] h
  simpa using this
set_option maxRecDepth 100000 in
set_option maxHeartbeats 4000000 in
theorem possible_ev (n lo hi : Int) (v : Value) (ss : List SampD) (s : St) (hs : SmAt s v ss) (hl : ss.length ≤ 1000000) : Ev TT 40 [fieldV n lo hi v] s fun r s' => Keep s s' ∧ ∃ BC e, r = .tuple #[.agg BC.toArray, .int .i64 e] ∧ BC.length = 121 ∧ onesL BC = true ∧ listEq (veq 4) BC BC = true ∧ PosA n lo hi ss BC e := by
  have hck := check_ev n lo hi v ss
  have hbo := fun (m : Nat) (e : n = m) (s : St) (h : SmAt s v ss) hc => boundsOf_ev m lo hi v ss s h hc
  obtain ⟨a, c, rfl⟩ := hs.shape
  rw [List.length_map] at hs hck hbo ⊢
  unfold fieldV at hck hbo ⊢
  refine Ev.intro (fn := Try.f40) rfl (by kernel_rfl) rfl rfl ?_
  apply zz
  refine Cd.ra (h := ?_)
  apply Run.by_eq
  · intro self
    conv => lhs; simp -implicitDefEqProofs (maxSteps := 300000) (disch := omega) [-getElem?_pos, -getElem?_neg]
  try (with_reducible refine Run.ret ?_)
  apply zz
  refine Cd.ra (h := ?_)
  apply Run.by_eq
  · intro self
    conv => lhs; simp -implicitDefEqProofs (maxSteps := 300000) (disch := omega) [-getElem?_pos, -getElem?_neg]
  try (with_reducible refine Run.ret ?_)
  apply zz
  refine Run.call ((hck _ (hs.keep ⟨by (try simp only [pushed_next', upded_next']); omega, fun i hi => by simp -implicitDefEqProofs (disch := omega) []⟩) hl).mono fun v wy hv => ?_)
  obtain ⟨rfl, y⟩ := hv
  have ya := y.1
  have yb := y.2
  try simp only [pushed_next', upded_next'] at ya yb
  have y1 : wy.heap.get (s.next + 1) = some (.cells (.int .i64 0 :: List.replicate 120 (.int .i64 0)) none) := by rw [yb _ (by omega)]; simp -implicitDefEqProofs (disch := omega)
  apply Run.by_eq
  · intro self
    conv => lhs; simp -implicitDefEqProofs (maxSteps := 300000) (disch := omega) [-getElem?_pos, -getElem?_neg, yb]
  try (with_reducible refine Run.ret ?_)
  apply zz
  by_cases h1 : fieldErr n lo hi ss = 0
  case neg =>
    apply zz
    refine Cd.ra (h := ?_)
    apply Run.by_eq
    · intro self
      conv => lhs; simp -implicitDefEqProofs (maxSteps := 300000) (disch := omega) [-getElem?_pos, -getElem?_neg, h1]
    try (with_reducible refine Run.ret ?_)
    apply zz
    apply Cd.ite rfl
    · conv => lhs; simp -implicitDefEqProofs (maxSteps := 300000) (disch := omega) [-getElem?_pos, -getElem?_neg]
    all_goals intro c0
    all_goals try (cases c0; done)
    all_goals try simp only [Bool.not_eq_true', Bool.not_eq_false', decide_eq_true_eq, decide_eq_false_iff_not] at c0
    all_goals apply zz
    apply zz
    refine Cd.ra (h := ?_)
    apply Run.by_eq
    · intro self
      conv => lhs; simp -implicitDefEqProofs (maxSteps := 300000) (disch := omega) [-getElem?_pos, -getElem?_neg, y1]
    try (with_reducible refine Run.ret ?_)
    apply zz
    apply Leave.mk (by first | exact .inl rfl | exact .inr rfl) (by simp only [Fr.marks_put, fr0_marks])
    · conv => lhs; simp -implicitDefEqProofs (disch := omega) [Try.results40]
    exact ⟨⟨by (try simp only [pushed_next', upded_next']); omega, fun i hi => by simp -implicitDefEqProofs (disch := omega) [yb]⟩, zBC, _, rfl, zBC_len, zBC_ones, zBC_same, .inl ⟨h1, rfl⟩⟩
  apply zz
  refine Cd.ra (h := ?_)
  apply Run.by_eq
  · intro self
    conv => lhs; simp -implicitDefEqProofs (maxSteps := 300000) (disch := omega) [-getElem?_pos, -getElem?_neg, h1]
  try (with_reducible refine Run.ret ?_)
  apply zz
  apply Cd.ite rfl
  · conv => lhs; simp -implicitDefEqProofs (maxSteps := 300000) (disch := omega) [-getElem?_pos, -getElem?_neg]
  all_goals intro c0
  all_goals try (cases c0; done)
  all_goals try simp only [Bool.not_eq_true', Bool.not_eq_false', decide_eq_true_eq, decide_eq_false_iff_not] at c0
  all_goals apply zz
  obtain ⟨⟨hn1, hn30⟩, hr, _, hss⟩ := fieldErr_ok h1
  obtain ⟨m, rfl⟩ : ∃ m : Nat, n = m := ⟨n.toNat, by omega⟩
  have va : veq 4 (Value.slice a ss.length c) (Value.slice a ss.length c) = true := slAt_veq hs 3
  have hW := fun w hw => (List.take_length (l := ss) ▸ bnd_all (n := m) h1 ss.length w hw : _)
  have hEq := hB_eq h1
  have hBO := bOk m (bndN m lo hi ss).1 (bndN m lo hi ss).2
  apply zz
  refine Cd.ra (h := ?_)
  apply Run.by_eq
  · intro self
    conv => lhs; simp -implicitDefEqProofs (maxSteps := 300000) (disch := omega) [-getElem?_pos, -getElem?_neg, yb, va]
  try (with_reducible refine Run.ret ?_)
  apply zz
  refine Run.call ((hbo m rfl _ (hs.keep ⟨by (try simp only [pushed_next', upded_next']); omega, fun i hi => by simp -implicitDefEqProofs (disch := omega) [yb]⟩) h1).mono fun v wz hv => ?_)
  obtain ⟨rfl, z⟩ := hv
  have za := z.1
  have zb := z.2
  try simp only [pushed_next', upded_next'] at za zb
  have z1 := (zb _ (by omega)).trans y1
  have hP : PosA m lo hi ss (bcells m (bndN m lo hi ss).1 (bndN m lo hi ss).2) 0 ∨ ∃ i j k, i < m ∧ j < m ∧ k < m ∧ hB lo hi ss i j k = true := by
    by_cases h : ∃ i j k, i < m ∧ j < m ∧ k < m ∧ hB lo hi ss i j k = true
    · exact .inr h
    · exact .inl (.inr (.inr ⟨h1, rfl, by rw [Int.toNat_natCast], fun i j k hi' hj hk => by
        rw [Int.toNat_natCast] at hi' hj hk
        cases hb : hB lo hi ss i j k with
        | false => rfl
        | true => exact absurd ⟨i, j, k, hi', hj, hk, hb⟩ h⟩))
  have hcl := fun s => clash_ev _ m _ _ s hBO (by omega) hW
  generalize bcells m (bndN m lo hi ss).1 (bndN m lo hi ss).2 = BC at hBO hP hcl ⊢
  have b1 := takeL_len hBO.len
  have b2 := hBO.len
  have b3 := hBO.ones
  have b4 := hBO.same
  have hov : overL BC (Value.int .i64 0 :: List.replicate 120 (Value.int .i64 0)) = some BC := overL_len (by rw [b2]; rfl)
  simp only [List.reduceReplicate] at hov
  apply Run.by_eq
  · intro self
    conv => lhs; simp -implicitDefEqProofs (maxSteps := 300000) (disch := omega) [-getElem?_pos, -getElem?_neg, zb, yb, b2, b3, hov]
  try (with_reducible refine Run.ret ?_)
  apply zz
  refine Cd.ra (h := ?_)
  apply Run.by_eq
  · intro self
    conv => lhs; simp -implicitDefEqProofs (maxSteps := 300000) (disch := omega) [-getElem?_pos, -getElem?_neg, b1, b2, b3]
  try (with_reducible refine Run.ret ?_)
  apply zz
  refine Run.call ((hcl _).mono fun v wu hv => ?_)
  obtain ⟨u, hu⟩ := hv
  have ua := u.1
  have ub := u.2
  try simp only [pushed_next', upded_next'] at ua ub
  have u1 : wu.heap.get (s.next + 1) = some (.cells (.int .i64 0 :: List.replicate 120 (.int .i64 0)) none) := by rw [ub _ (by omega)]; simp -implicitDefEqProofs (disch := omega) [z1]
  have u2 : wu.heap.get wz.next = some (.cells BC none) := by rw [ub _ (by omega)]; simp -implicitDefEqProofs (disch := omega)
  rcases hu with ⟨rfl, hu⟩ | hT
  · have hnone : PosA m lo hi ss BC 0 := by
      rcases hP with hP | ⟨i, j, k, hi', hj, hk, hb⟩
      · exact hP
      · rw [← hEq i j k hi' hj hk, none_all hu i j k hi' hj hk] at hb; cases hb
    apply Run.by_eq
    · intro self
      conv => lhs; simp -implicitDefEqProofs (maxSteps := 300000) (disch := omega) [-getElem?_pos, -getElem?_neg]
    try (with_reducible refine Run.ret ?_)
    apply zz
    apply Cd.ite rfl
    · conv => lhs; simp -implicitDefEqProofs (maxSteps := 300000) (disch := omega) [-getElem?_pos, -getElem?_neg]
    all_goals intro c5
    all_goals try (cases c5; done)
    all_goals try simp only [Bool.not_eq_true', Bool.not_eq_false', decide_eq_true_eq, decide_eq_false_iff_not] at c5
    all_goals apply zz
    apply zz
    refine Cd.ra (h := ?_)
    apply Run.by_eq
    · intro self
      conv => lhs; simp -implicitDefEqProofs (maxSteps := 300000) (disch := omega) [-getElem?_pos, -getElem?_neg, u1, u2, b1, b2, b3, hov]
    try (with_reducible refine Run.ret ?_)
    apply zz
    apply Leave.mk (by first | exact .inl rfl | exact .inr rfl) (by simp only [Fr.marks_put, fr0_marks, b1, b2, b3])
    · conv => lhs; simp -implicitDefEqProofs (disch := omega) [Try.results40, b1, b2, b3]
    exact ⟨⟨by (try simp only [pushed_next', upded_next']); omega, fun i hi => by simp -implicitDefEqProofs (disch := omega) [ub, zb, yb]⟩, BC, _, rfl, b2, b3, b4, hnone⟩
  · have hT0 := hT
    obtain ⟨i, j, k, t1, t2, t3, t4, b, rfl, _⟩ := hT0
    apply Run.by_eq
    · intro self
      conv => lhs; simp -implicitDefEqProofs (maxSteps := 300000) (disch := omega) [-getElem?_pos, -getElem?_neg]
    try (with_reducible refine Run.ret ?_)
    apply zz
    apply Cd.ite rfl
    · conv => lhs; simp -implicitDefEqProofs (maxSteps := 300000) (disch := omega) [-getElem?_pos, -getElem?_neg]
    all_goals intro c5
    all_goals try (cases c5; done)
    all_goals try simp only [Bool.not_eq_true', Bool.not_eq_false', decide_eq_true_eq, decide_eq_false_iff_not] at c5
    all_goals apply zz
    apply zz
    refine Cd.ra (h := ?_)
    apply Run.by_eq
    · intro self
      conv => lhs; simp -implicitDefEqProofs (maxSteps := 300000) (disch := omega) [-getElem?_pos, -getElem?_neg, u1]
    try (with_reducible refine Run.ret ?_)
    apply zz
    apply Leave.mk (by first | exact .inl rfl | exact .inr rfl) (by simp only [Fr.marks_put, fr0_marks])
    · conv => lhs; simp -implicitDefEqProofs (disch := omega) [Try.results40]
    exact ⟨⟨by (try simp only [pushed_next', upded_next']); omega, fun i hi => by simp -implicitDefEqProofs (disch := omega) [ub, zb, yb]⟩, zBC, _, rfl, zBC_len, zBC_ones, zBC_same, .inr (.inl ⟨h1, rfl, i, j, k, by omega, by omega, by omega, by rw [← hEq i j k t1 t2 t3]; exact t4⟩)⟩
end Go.Proofs.Ytnhokodcmeekhaa
namespace Go.Proofs.Ytnhokodcmeekhaa
open Go Kern
/-! What is known of a field -/
theorem low_mid {A B : Int} {n w : Nat} {L : Nat → Frac} (hn : n ≤ 30) (hw : w < n) (hA : 0 ≤ A) (hB : 1 ≤ B) (hAB : 60 * (A * B) * (30 * (B * B)) ≤ 4611686018427387904) (hL : ∀ i, i < n → Mid A B (L i)) : Mid (60 * (A * B)) (30 * (B * B)) (lowF n L w) := by
  have hAB1 : A ≤ A * B := by have := Int.mul_le_mul_of_nonneg_left hB hA; omega
  have hBB1 : B ≤ B * B := by have := Int.mul_le_mul_of_nonneg_left hB (show 0 ≤ B by omega); omega
  exact fore_mid ((hL w hw).mono (by omega) (by omega)) (lines_fit (x0 := L w) (items := acrossL n w) hn hw hA hB hAB hL hL (hL w hw) fun p hp => by have := across_mem.1 hp; omega).1
theorem up_mid {A B : Int} {n w : Nat} {L H : Nat → Frac} (hn : n ≤ 30) (hw : w < n) (hA : 0 ≤ A) (hB : 1 ≤ B) (hAB : 60 * (A * B) * (30 * (B * B)) ≤ 4611686018427387904) (hL : ∀ i, i < n → Mid A B (L i)) (hH : ∀ i, i < n → Mid A B (H i)) : Mid (60 * (A * B)) (30 * (B * B)) (upF n L H w) := by
  have hAB1 : A ≤ A * B := by have := Int.mul_le_mul_of_nonneg_left hB hA; omega
  have hBB1 : B ≤ B * B := by have := Int.mul_le_mul_of_nonneg_left hB (show 0 ≤ B by omega); omega
  exact fore_mid ((hH w hw).mono (by omega) (by omega)) (lines_fit (x0 := H w) (items := towardL n w) hn hw hA hB hAB hL hH (hH w hw) fun p hp => by have := toward_mem.1 hp; omega).1
theorem end_ge (w : Nat) : ∀ (ss : List SampD) (p : Int × Int), p.1 ≤ (ss.foldl (endS w) p).1
  | [], p => Int.le_refl _
  | x :: r, p => by
    have h := end_ge w r (endS w p x)
    have h2 : p.1 ≤ (endS w p x).1 := by
      unfold endS
      split
      · show p.1 ≤ max p.1 _; omega
      · exact Int.le_refl _
    exact Int.le_trans h2 h
/-- What holds of the lows and highs of a valid field. -/
theorem base_ok {m : Nat} {lo hi : Int} {ss : List SampD} (h1 : fieldErr m lo hi ss = 0) : (1 ≤ m ∧ m ≤ 30) ∧ ∀ w, w < m → Whole ((bndN m lo hi ss).1 w) ∧ Whole ((bndN m lo hi ss).2 w) ∧ 0 ≤ ((bndN m lo hi ss).1 w).o := by
  obtain ⟨⟨hn1, hn30⟩, hr, _, hss⟩ := fieldErr_ok h1
  refine ⟨by omega, fun w hw => ?_⟩
  have hW := (List.take_length (l := ss) ▸ bnd_all (n := m) h1 ss.length w hw : _)
  refine ⟨hW.1, hW.2, ?_⟩
  rw [(bnd_end h1 w hw).1]
  have := end_ge w ss (lo, hi)
  show 0 ≤ (endN lo hi ss w).1
  unfold endN
  simp only [] at this
  omega
/-- What holds of the bounds of weeks if there is no clash. -/
theorem vals_ok {m : Nat} {lo hi : Int} {ss : List SampD} (h1 : fieldErr m lo hi ss = 0) (hc : ∀ i j k, i < m → j < m → k < m → hB lo hi ss i j k = false) {w : Nat} (hw : w < m) :
    (0 ≤ (lowF m (bndN m lo hi ss).1 w).o ∧ Mid 3600000 30 (lowF m (bndN m lo hi ss).1 w)) ∧ 0 ≤ (upF m (bndN m lo hi ss).1 (bndN m lo hi ss).2 w).o ∧ Mid 3600000 30 (upF m (bndN m lo hi ss).1 (bndN m lo hi ss).2 w) := by
  obtain ⟨hm, hb⟩ := base_ok h1
  have hL : ∀ i, i < m → Mid 60000 1 ((bndN m lo hi ss).1 i) := fun i hi => (hb i hi).1.mid
  have hH : ∀ i, i < m → Mid 60000 1 ((bndN m lo hi ss).2 i) := fun i hi => (hb i hi).2.1.mid
  have m1 := low_mid (n := m) (w := w) (by omega) hw (by decide) (by decide) (by decide) hL
  have m2 := up_mid (n := m) (w := w) (by omega) hw (by decide) (by decide) (by decide) hL hH
  have hge := up_ge (w := w) (L := (bndN m lo hi ss).1) (H := (bndN m lo hi ss).2) (fun w hw => ⟨(hb w hw).1.1, (hb w hw).2.1.1⟩) hw fun w hw => ⟨by rw [hB_eq h1 w w w hw hw hw]; exact hc w w w hw hw hw, fun i k hi hk hkn => by rw [hB_eq h1 i w k (by omega) hw hkn]; exact hc i w k (by omega) hw hkn⟩
  have hlg := low_ge (w := w) (L := (bndN m lo hi ss).1) (fun w hw => (hL w hw).2.1) hw
  exact ⟨⟨le_nonneg (hb w hw).2.2 (hL w hw).2.1 m1.2.1 hlg, m1⟩, le_nonneg (hb w hw).2.2 (hL w hw).2.1 m2.2.1 hge, m2⟩
def spC (a b : Int) : List Value := [.int .i64 a, .int .i64 b]
def knownRow (m : Nat) (lo hi : Int) (ss : List SampD) (w : Nat) : List Value := spC (flF (lowF m (bndN m lo hi ss).1 w)) (ceF (upF m (bndN m lo hi ss).1 (bndN m lo hi ss).2 w))
/-- What Known answers. -/
def KnownA (n lo hi : Int) (ss : List SampD) (w : Value) (e : Int) (s : St) : Prop :=
  (fieldErr n lo hi ss ≠ 0 ∧ e = fieldErr n lo hi ss ∧ w = .slice none 0 0) ∨
  (fieldErr n lo hi ss = 0 ∧ e = 12 ∧ w = .slice none 0 0 ∧ ∃ i j k, i < n.toNat ∧ j < n.toNat ∧ k < n.toNat ∧ hB lo hi ss i j k = true) ∨
  (fieldErr n lo hi ss = 0 ∧ e = 0 ∧ SlAt 2 s w ((List.range n.toNat).map (knownRow n.toNat lo hi ss)) ∧ ∀ i j k, i < n.toNat → j < n.toNat → k < n.toNat → hB lo hi ss i j k = false)
theorem ov_zero {BC : List Value} (h : BC.length = 121) : overL BC (Value.int .i64 0 :: List.replicate 120 (Value.int .i64 0)) = some BC := overL_len (by rw [h]; rfl)
theorem rowK_put (g : Nat → List Value) (hg : ∀ j, (g j).length = 2) {k m : Nat} (hk : k < m) {v : List Value} (hv : g k = v) (hl : v.length = 2) (z : List Value) (hz : z.length = 2) :
    putL (k * 2) v (flatG (fun j => if j < k then g j else z) m) = some (flatG (fun j => if j < k + 1 then g j else z) m) := by
  rw [flatG_put (N := 2) (fun j => by split; exact hg j; exact hz) hl hk]
  congr 1
  refine flatG_congr fun j hj => ?_
  by_cases e : j = k
  · subst e; rw [if_pos rfl, if_pos (by omega), hv]
  · rw [if_neg e]
    by_cases h : j < k
    · rw [if_pos h, if_pos (by omega)]
    · rw [if_neg h, if_neg (by omega)]
set_option maxRecDepth 100000 in
set_option maxHeartbeats 4000000 in
theorem known_ev (n lo hi : Int) (v : Value) (ss : List SampD) (s : St) (hs : SmAt s v ss) (hl : ss.length ≤ 1000000) : Ev TT 14 [fieldV n lo hi v] s fun r s' => Keep s s' ∧ ∃ w e, r = .tuple #[w, .int .i64 e] ∧ KnownA n lo hi ss w e s' := by
  have hck := possible_ev n lo hi v ss
  obtain ⟨a, c, rfl⟩ := hs.shape
  rw [List.length_map] at hs hck ⊢
  unfold fieldV at hck ⊢
  refine Ev.intro (fn := Try.f14) rfl (by kernel_rfl) rfl rfl ?_
  apply zz
  refine Cd.ra (h := ?_)
  apply Run.by_eq
  · intro self
    conv => lhs; simp -implicitDefEqProofs (maxSteps := 300000) (disch := omega) [-getElem?_pos, -getElem?_neg]
  try (with_reducible refine Run.ret ?_)
  apply zz
  refine Cd.ra (h := ?_)
  apply Run.by_eq
  · intro self
    conv => lhs; simp -implicitDefEqProofs (maxSteps := 300000) (disch := omega) [-getElem?_pos, -getElem?_neg]
  try (with_reducible refine Run.ret ?_)
  apply zz
  refine Run.call ((hck _ (hs.keep ⟨by (try simp only [pushed_next', upded_next']); omega, fun i hi => by simp -implicitDefEqProofs (disch := omega) []⟩) hl).mono fun v wy hv => ?_)
  obtain ⟨y, BC, e, rfl, b2, b3, b4, hP⟩ := hv
  have ya := y.1
  have yb := y.2
  have b1 := takeL_len b2
  try simp only [pushed_next', upded_next'] at ya yb
  have hov := ov_zero b2
  simp only [List.reduceReplicate] at hov
  apply Run.by_eq
  · intro self
    conv => lhs; simp -implicitDefEqProofs (maxSteps := 300000) (disch := omega) [-getElem?_pos, -getElem?_neg, b1, b2, b3, hov]
  try (with_reducible refine Run.ret ?_)
  apply zz
  rcases hP with ⟨h1, rfl⟩ | ⟨h1, rfl, hc⟩ | ⟨h1, rfl, rfl, hc⟩
  · apply zz
    refine Cd.ra (h := ?_)
    apply Run.by_eq
    · intro self
      conv => lhs; simp -implicitDefEqProofs (maxSteps := 300000) (disch := omega) [-getElem?_pos, -getElem?_neg, h1]
    try (with_reducible refine Run.ret ?_)
    apply zz
    apply Cd.ite rfl
    · conv => lhs; simp -implicitDefEqProofs (maxSteps := 300000) (disch := omega) [-getElem?_pos, -getElem?_neg]
    all_goals intro c0
    all_goals try (cases c0; done)
    all_goals try simp only [Bool.not_eq_true', Bool.not_eq_false', decide_eq_true_eq, decide_eq_false_iff_not] at c0
    all_goals apply zz
    apply zz
    refine Cd.ra (h := ?_)
    apply Run.by_eq
    · intro self
      conv => lhs; simp -implicitDefEqProofs (maxSteps := 300000) (disch := omega) [-getElem?_pos, -getElem?_neg]
    try (with_reducible refine Run.ret ?_)
    apply zz
    apply Leave.mk (by first | exact .inl rfl | exact .inr rfl) (by simp only [Fr.marks_put, fr0_marks])
    · conv => lhs; simp -implicitDefEqProofs (disch := omega) [Try.results14]
    exact ⟨⟨by (try simp only [pushed_next', upded_next']); omega, fun i hi => by simp -implicitDefEqProofs (disch := omega) [yb]⟩, _, _, rfl, .inl ⟨h1, rfl, rfl⟩⟩
  · apply zz
    refine Cd.ra (h := ?_)
    apply Run.by_eq
    · intro self
      conv => lhs; simp -implicitDefEqProofs (maxSteps := 300000) (disch := omega) [-getElem?_pos, -getElem?_neg]
    try (with_reducible refine Run.ret ?_)
    apply zz
    apply Cd.ite rfl
    · conv => lhs; simp -implicitDefEqProofs (maxSteps := 300000) (disch := omega) [-getElem?_pos, -getElem?_neg]
    all_goals intro c0
    all_goals try (cases c0; done)
    all_goals try simp only [Bool.not_eq_true', Bool.not_eq_false', decide_eq_true_eq, decide_eq_false_iff_not] at c0
    all_goals apply zz
    apply zz
    refine Cd.ra (h := ?_)
    apply Run.by_eq
    · intro self
      conv => lhs; simp -implicitDefEqProofs (maxSteps := 300000) (disch := omega) [-getElem?_pos, -getElem?_neg]
    try (with_reducible refine Run.ret ?_)
    apply zz
    apply Leave.mk (by first | exact .inl rfl | exact .inr rfl) (by simp only [Fr.marks_put, fr0_marks])
    · conv => lhs; simp -implicitDefEqProofs (disch := omega) [Try.results14]
    exact ⟨⟨by (try simp only [pushed_next', upded_next']); omega, fun i hi => by simp -implicitDefEqProofs (disch := omega) [yb]⟩, _, _, rfl, .inr (.inl ⟨h1, rfl, rfl, hc⟩)⟩
  obtain ⟨m, rfl⟩ : ∃ m : Nat, n = m := ⟨n.toNat, by have := (fieldErr_ok h1).1; omega⟩
  simp only [Int.toNat_natCast] at hc b1 b2 b3 b4 ⊢
  obtain ⟨hm, hb⟩ := base_ok h1
  have hv := fun w hw => vals_ok h1 hc (w := w) hw
  have hle := fun w s hw => least_ev 60000 1 _ m (bndN m lo hi ss).1 (bndN m lo hi ss).2 w s (bOk m _ _) (by omega) hw (by decide) (by decide) (by decide) (by decide) (by decide) fun i hi => (hb i hi).1.mid
  have hmo := fun w s hw => most_ev 60000 1 _ m (bndN m lo hi ss).1 (bndN m lo hi ss).2 w s (bOk m _ _) (by omega) hw (by decide) (by decide) (by decide) (by decide) (by decide) (fun i hi => (hb i hi).1.mid) fun i hi => (hb i hi).2.1.mid
  have hrow : ∀ w, knownRow m lo hi ss w = [.int .i64 (flF (lowF m (bndN m lo hi ss).1 w)), .int .i64 (ceF (upF m (bndN m lo hi ss).1 (bndN m lo hi ss).2 w))] := fun w => rfl
  have hwk := (bOk m (bndN m lo hi ss).1 (bndN m lo hi ss).2).wk
  generalize bcells m (bndN m lo hi ss).1 (bndN m lo hi ss).2 = BC at *
  apply zz
  refine Cd.ra (h := ?_)
  apply Run.by_eq
  · intro self
    conv => lhs; simp -implicitDefEqProofs (maxSteps := 300000) (disch := omega) [-getElem?_pos, -getElem?_neg]
  try (with_reducible refine Run.ret ?_)
  apply zz
  apply Cd.ite rfl
  · conv => lhs; simp -implicitDefEqProofs (maxSteps := 300000) (disch := omega) [-getElem?_pos, -getElem?_neg]
  all_goals intro c0
  all_goals try (cases c0; done)
  all_goals try simp only [Bool.not_eq_true', Bool.not_eq_false', decide_eq_true_eq, decide_eq_false_iff_not] at c0
  all_goals apply zz
  have hmk : (m ≤ 65536) := by omega
  apply zz
  refine Cd.ra (h := ?_)
  apply Run.by_eq
  · intro self
    conv => lhs; simp -implicitDefEqProofs (maxSteps := 300000) (disch := omega) [-getElem?_pos, -getElem?_neg, hwk, hmk]
  try (with_reducible refine Run.ret ?_)
  apply zz
  refine Cd.ra (h := ?_)
  apply Run.by_eq
  · intro self
    conv => lhs; simp -implicitDefEqProofs (maxSteps := 300000) (disch := omega) [-getElem?_pos, -getElem?_neg]
  try (with_reducible refine Run.ret ?_)
  apply zz
  have hz0 : flatG (fun j => if j < 0 then knownRow m lo hi ss j else [.int .i64 0, .int .i64 0]) m = repeatL [.int .i64 0, .int .i64 0] m := by
    rw [← flatG_same]; exact flatG_congr fun j _ => if_neg (by omega)
  refine Cd.inv (fun z f s' => ∃ k : Nat, k ≤ m ∧ z = m - k ∧ f.marks = [] ∧ f.get 4 = .pointer (some ⟨wy.next, 0, none⟩) ∧ f.get 6 = .slice (some ⟨wy.next + 1, 0, none⟩) m m ∧ f.get 20 = .int .i64 m ∧ f.get 21 = .int .i64 k ∧ Keep s s' ∧ wy.next + 1 < s'.next ∧ s'.heap.get wy.next = some (.cells BC none) ∧ s'.heap.get (wy.next + 1) = some (.cells (flatG (fun j => if j < k then knownRow m lo hi ss j else [.int .i64 0, .int .i64 0]) m) none)) m ?_ ?_
  · refine ⟨0, by omega, rfl, by simp, by simp, by simp, by simp, by simp, ⟨by (try simp only [pushed_next', upded_next']); omega, fun i hi => by simp -implicitDefEqProofs (disch := omega) [yb]⟩, by simp, ?_, ?_⟩
    · simp -implicitDefEqProofs (disch := omega)
    · rw [hz0]; simp -implicitDefEqProofs (disch := omega)
  rintro z f s1 ⟨k, hk, rfl, hmk2, g4, g6, g20, g21, hkp, hnx, hg0, hg1⟩
  have hkpa := hkp.1
  have hkpb := hkp.2
  by_cases hlt : k < m
  · have hlt' : (k : Int) < m := by omega
    obtain ⟨⟨v1, v2⟩, v3, v4⟩ := hv k hlt
    have hput := rowK_put (knownRow m lo hi ss) (fun j => rfl) hlt (hrow k) rfl [.int .i64 0, .int .i64 0] rfl
    apply zz
    refine Cd.ra (h := ?_)
    apply Run.by_eq
    · intro self
      conv => lhs; simp -implicitDefEqProofs (maxSteps := 300000) (disch := omega) [-getElem?_pos, -getElem?_neg, g21, g20, hlt']
    try (with_reducible refine Run.ret ?_)
    apply zz
    apply Cd.ite rfl
    · conv => lhs; simp -implicitDefEqProofs (maxSteps := 300000) (disch := omega) [-getElem?_pos, -getElem?_neg]
    all_goals intro c0
    all_goals try (cases c0; done)
    all_goals try simp only [Bool.not_eq_true', Bool.not_eq_false', decide_eq_true_eq, decide_eq_false_iff_not] at c0
    all_goals apply zz
    apply zz
    refine Cd.ra (h := ?_)
    apply Run.by_eq
    · intro self
      conv => lhs; simp -implicitDefEqProofs (maxSteps := 300000) (disch := omega) [-getElem?_pos, -getElem?_neg, g21]
    try (with_reducible refine Run.ret ?_)
    apply zz
    refine Cd.drawn (pl := [(0, 0, false, false), (1, 0, false, false), (2, 0, false, false), (3, 0, false, false), (6, 0, false, false), (7, 0, false, false), (4, 12, true, false), (5, 28, true, false), (8, 252, true, false), (9, 508, true, false), (10, 1020, false, false), (11, 2047, false, false), (12, 4095, true, false)]) (by kernel_rfl) (by conv => lhs; simp only [List.map_cons, List.map_nil]) (by conv => lhs; simp [strip, ordered]) ?_
    apply Run.by_eq
    · intro self
      conv => lhs; simp -implicitDefEqProofs (maxSteps := 300000) (disch := omega) [filter_bt, (show Nat.testBit 12 0 = false from rfl), (show Nat.testBit 12 1 = false from rfl), (show Nat.testBit 12 2 = true from rfl), (show Nat.testBit 12 3 = true from rfl), (show Nat.testBit 12 6 = false from rfl), (show Nat.testBit 12 7 = false from rfl), (show Nat.testBit 28 0 = false from rfl), (show Nat.testBit 28 1 = false from rfl), (show Nat.testBit 28 2 = true from rfl), (show Nat.testBit 28 3 = true from rfl), (show Nat.testBit 28 6 = false from rfl), (show Nat.testBit 28 7 = false from rfl), (show Nat.testBit 252 0 = false from rfl), (show Nat.testBit 252 1 = false from rfl), (show Nat.testBit 252 2 = true from rfl), (show Nat.testBit 252 3 = true from rfl), (show Nat.testBit 252 6 = true from rfl), (show Nat.testBit 252 7 = true from rfl), (show Nat.testBit 508 0 = false from rfl), (show Nat.testBit 508 1 = false from rfl), (show Nat.testBit 508 2 = true from rfl), (show Nat.testBit 508 3 = true from rfl), (show Nat.testBit 508 6 = true from rfl), (show Nat.testBit 508 7 = true from rfl), (show ∀ i, Nat.testBit 4095 i = decide (i < 12) from fun i => Nat.testBit_two_pow_sub_one 12 i), -getElem?_pos, -getElem?_neg, g4, g6, hg0, b1, b4]
    try (with_reducible refine Run.ret ?_)
    apply zz
    refine Run.call ((hle k _ hlt).mono fun v wp hv => ?_)
    obtain ⟨rfl, p⟩ := hv
    have pa := p.1
    have pb := p.2
    try simp only [pushed_next', upded_next'] at pa pb
    have p0 := (pb _ (by omega)).trans hg0
    have p1 := (pb _ (by omega)).trans hg1
    apply Run.by_eq
    · intro self
      conv => lhs; simp -implicitDefEqProofs (maxSteps := 300000) (disch := omega) [-getElem?_pos, -getElem?_neg, g4, g6, p0, b1, b4]
    try (with_reducible refine Run.ret ?_)
    apply zz
    unfold Mid at v2 v4
    refine Run.call ((down_ev _ _ v1 v2.2.1 (by omega)).mono fun v wq hv => ?_)
    obtain ⟨rfl, q⟩ := hv
    have qa := q.1
    have qb := q.2
    try simp only [pushed_next', upded_next'] at qa qb
    have q0 := (qb _ (by omega)).trans p0
    have q1 := (qb _ (by omega)).trans p1
    apply Run.by_eq
    · intro self
      conv => lhs; simp -implicitDefEqProofs (maxSteps := 300000) (disch := omega) [-getElem?_pos, -getElem?_neg, g4, g6, q0, b1, b4]
    try (with_reducible refine Run.ret ?_)
    apply zz
    refine Run.call ((hmo k _ hlt).mono fun v wu hv => ?_)
    obtain ⟨rfl, u⟩ := hv
    have ua := u.1
    have ub := u.2
    try simp only [pushed_next', upded_next'] at ua ub
    have u0 := (ub _ (by omega)).trans q0
    have u1 := (ub _ (by omega)).trans q1
    apply Run.by_eq
    · intro self
      conv => lhs; simp -implicitDefEqProofs (maxSteps := 300000) (disch := omega) [-getElem?_pos, -getElem?_neg, g4, g6, u0, b1, b4]
    try (with_reducible refine Run.ret ?_)
    apply zz
    refine Run.call ((up_ev _ _ v3 v4.2.1 (by omega) (by omega)).mono fun v wt hv => ?_)
    obtain ⟨rfl, t⟩ := hv
    have ta := t.1
    have tb := t.2
    try simp only [pushed_next', upded_next'] at ta tb
    have t0 := (tb _ (by omega)).trans u0
    have t1 := (tb _ (by omega)).trans u1
    apply Run.by_eq
    · intro self
      conv => lhs; simp -implicitDefEqProofs (maxSteps := 300000) (disch := omega) [-getElem?_pos, -getElem?_neg, g4, g6, t0, t1, b1, b4, hlt, hlt', hput]
    try (with_reducible refine Run.ret ?_)
    apply zz
    refine Cd.ra (h := ?_)
    apply Run.by_eq
    · intro self
      conv => lhs; simp -implicitDefEqProofs (maxSteps := 300000) (disch := omega) [-getElem?_pos, -getElem?_neg, g21]
    try (with_reducible refine Run.ret ?_)
    apply zz
    refine LoopK.nm (m - (k + 1)) (by omega) ⟨k + 1, by omega, rfl, by simp [hmk2], by simp [g4], by simp [g6], by simp [g20], by simp, ⟨by (try simp only [pushed_next', upded_next']); omega, fun i hi => by simp -implicitDefEqProofs (disch := omega) [tb, ub, qb, pb, hkpb]⟩, by (try simp only [pushed_next', upded_next']); omega, ?_, ?_⟩
    · simp -implicitDefEqProofs (disch := omega) [t0]
    · simp -implicitDefEqProofs (disch := omega)
  · obtain rfl : k = m := by omega
    apply zz
    refine Cd.ra (h := ?_)
    apply Run.by_eq
    · intro self
      conv => lhs; simp -implicitDefEqProofs (maxSteps := 300000) (disch := omega) [-getElem?_pos, -getElem?_neg, g21, g20]
    try (with_reducible refine Run.ret ?_)
    apply zz
    apply Cd.ite rfl
    · conv => lhs; simp -implicitDefEqProofs (maxSteps := 300000) (disch := omega) [-getElem?_pos, -getElem?_neg]
    all_goals intro c0
    all_goals try (cases c0; done)
    all_goals try simp only [Bool.not_eq_true', Bool.not_eq_false', decide_eq_true_eq, decide_eq_false_iff_not] at c0
    all_goals apply zz
    apply zz
    refine Cd.ra (h := ?_)
    apply Run.by_eq
    · intro self
      conv => lhs; simp -implicitDefEqProofs (maxSteps := 300000) (disch := omega) [-getElem?_pos, -getElem?_neg, g6]
    try (with_reducible refine Run.ret ?_)
    apply zz
    apply Leave.mk (by first | exact .inl rfl | exact .inr rfl) (by simp only [Fr.marks_put, fr0_marks, hmk2])
    · conv => lhs; simp -implicitDefEqProofs (disch := omega) [Try.results14, hmk2]
    refine ⟨hkp, _, _, rfl, .inr (.inr ⟨h1, rfl, ?_, by rw [Int.toNat_natCast]; exact hc⟩)⟩
    rw [Int.toNat_natCast]
    have he : flatG (fun j => if j < k then knownRow k lo hi ss j else [.int .i64 0, .int .i64 0]) k = flatG (knownRow k lo hi ss) k := flatG_congr fun j hj => if_pos hj
    rw [he] at hg1
    exact sl_of_flat (N := 2) hnx (fun j => rfl) hg1
end Go.Proofs.Ytnhokodcmeekhaa
namespace Go.Proofs.Ytnhokodcmeekhaa
open Go Kern
/-! The reference's fractions -/
theorem intOp_quoT (k : IntKind) (a b : Int) (hb : 0 < b) : intOp .quo k a (k, b) = some (.int k (wrapF k (a.tdiv b))) := by
  show gd (kindEq k k) (gd (bt (intEq b 0) false true) (some (Value.int k (wrapF k (a.tdiv b))))) = _
  have hb0 : (b == 0) = false := by simp; omega
  rw [kindEq_refl, intEq_eq, hb0, bt_false]; rfl
theorem intOp_remT (k : IntKind) (a b : Int) (hb : 0 < b) : intOp .rem k a (k, b) = some (.int k (a.tmod b)) := by
  show gd (kindEq k k) (gd (bt (intEq b 0) false true) (some (Value.int k (a.tmod b)))) = _
  have hb0 : (b == 0) = false := by simp; omega
  rw [kindEq_refl, intEq_eq, hb0, bt_false]; rfl
theorem floor_eq {a b : Int} (hb : 0 < b) : (if a.tmod b < 0 then a.tdiv b - 1 else a.tdiv b) = a / b := by
  by_cases ha : 0 ≤ a
  · rw [Int.tmod_eq_emod_of_nonneg ha, Int.tdiv_eq_ediv_of_nonneg ha, if_neg (by have := Int.emod_nonneg a (show b ≠ 0 by omega); omega)]
  · obtain ⟨c, rfl⟩ : ∃ c, a = -c := ⟨-a, by omega⟩
    have hc : 0 ≤ c := by omega
    rw [Int.neg_tmod, Int.neg_tdiv, Int.tmod_eq_emod_of_nonneg hc, Int.tdiv_eq_ediv_of_nonneg hc]
    have h1 := Int.mul_ediv_add_emod c b
    have h2 := Int.emod_nonneg c (show b ≠ 0 by omega)
    have h3 := Int.emod_lt_of_pos c hb
    generalize c / b = q at *
    generalize c % b = r at *
    apply Eq.symm
    have e1 : ∀ X : Int, X * b ≤ -c → -c < (X + 1) * b → -c / b = X := fun X h h' => by
      apply Int.le_antisymm
      · have := (Int.ediv_lt_iff_lt_mul hb).2 h'; omega
      · exact (Int.le_ediv_iff_mul_le hb).2 h
    split
    · apply e1
      · rw [Int.sub_mul, Int.neg_mul, Int.mul_comm q b]; omega
      · rw [show -q - 1 + 1 = -q by omega, Int.neg_mul, Int.mul_comm q b]; omega
    · apply e1
      · rw [Int.neg_mul, Int.mul_comm q b]; omega
      · rw [Int.add_mul, Int.neg_mul, Int.mul_comm q b]; omega
theorem tdiv_bd (a b : Int) (hb : 0 < b) : -(a.natAbs : Int) ≤ a.tdiv b ∧ a.tdiv b ≤ a.natAbs := by
  by_cases ha : 0 ≤ a
  · rw [Int.tdiv_eq_ediv_of_nonneg ha]
    have h1 := Int.ediv_le_self b ha
    have h2 := Int.ediv_nonneg ha (show 0 ≤ b by omega)
    omega
  · obtain ⟨c, rfl⟩ : ∃ c, a = -c := ⟨-a, by omega⟩
    rw [Int.neg_tdiv, Int.tdiv_eq_ediv_of_nonneg (by omega)]
    have h1 := Int.ediv_le_self b (show 0 ≤ c by omega)
    have h2 := Int.ediv_nonneg (show 0 ≤ c by omega) (show 0 ≤ b by omega)
    omega
set_option maxRecDepth 100000 in
theorem floor_ev (x : Frac) (s : St) (hu : 0 < x.u) (hb : -2000000000000000000 ≤ x.o ∧ x.o ≤ 2000000000000000000) : Ev TT 47 [x.v] s fun r s' => r = .int .i64 (flF x) ∧ Keep s s' := by
  have hq := intOp_quoT .i64 x.o x.u hu
  have hr := intOp_remT .i64 x.o x.u hu
  have h1 := tdiv_bd x.o x.u hu
  unfold flF
  rw [v_eq, ← floor_eq hu]
  generalize x.o.tdiv x.u = Q at hq h1 ⊢
  generalize x.o.tmod x.u = M at hr ⊢
  have hw : wrapF .i64 Q = Q := by simp -implicitDefEqProofs (disch := omega)
  rw [hw] at hq
  refine Ev.intro (fn := Try.f47) rfl (by kernel_rfl) rfl rfl ?_
  apply zz
  refine Cd.ra (h := ?_)
  apply Run.by_eq
  · intro self
    conv => lhs; simp -implicitDefEqProofs (maxSteps := 300000) (disch := omega) [-getElem?_pos, -getElem?_neg]
  try (with_reducible refine Run.ret ?_)
  apply zz
  refine Cd.ra (h := ?_)
  apply Run.by_eq
  · intro self
    conv => lhs; simp -implicitDefEqProofs (maxSteps := 300000) (disch := omega) [-getElem?_pos, -getElem?_neg, hq]
  try (with_reducible refine Run.ret ?_)
  apply zz
  by_cases h : M < 0
  · rw [if_pos h]
    apply zz
    refine Cd.ra (h := ?_)
    apply Run.by_eq
    · intro self
      conv => lhs; simp -implicitDefEqProofs (maxSteps := 300000) (disch := omega) [-getElem?_pos, -getElem?_neg, hr, h]
    try (with_reducible refine Run.ret ?_)
    apply zz
    apply Cd.ite rfl
    · conv => lhs; simp -implicitDefEqProofs (maxSteps := 300000) (disch := omega) [-getElem?_pos, -getElem?_neg]
    all_goals intro c0
    all_goals try (cases c0; done)
    all_goals try simp only [Bool.not_eq_true', Bool.not_eq_false', decide_eq_true_eq, decide_eq_false_iff_not] at c0
    all_goals apply zz
    apply zz
    refine Cd.ra (h := ?_)
    apply Run.by_eq
    · intro self
      conv => lhs; simp -implicitDefEqProofs (maxSteps := 300000) (disch := omega) [-getElem?_pos, -getElem?_neg]
    try (with_reducible refine Run.ret ?_)
    apply zz
    refine Cd.ra (h := ?_)
    apply Run.by_eq
    · intro self
      conv => lhs; simp -implicitDefEqProofs (maxSteps := 300000) (disch := omega) [-getElem?_pos, -getElem?_neg]
    try (with_reducible refine Run.ret ?_)
    apply zz
    apply Leave.mk (by first | exact .inl rfl | exact .inr rfl) (by simp only [Fr.marks_put, fr0_marks])
    · conv => lhs; simp -implicitDefEqProofs (disch := omega) [Try.results47]
    exact ⟨rfl, ⟨by (try simp only [pushed_next', upded_next']); omega, fun i hi => by simp -implicitDefEqProofs (disch := omega) []⟩⟩
  · rw [if_neg h]
    apply zz
    refine Cd.ra (h := ?_)
    apply Run.by_eq
    · intro self
      conv => lhs; simp -implicitDefEqProofs (maxSteps := 300000) (disch := omega) [-getElem?_pos, -getElem?_neg, hr, h]
    try (with_reducible refine Run.ret ?_)
    apply zz
    apply Cd.ite rfl
    · conv => lhs; simp -implicitDefEqProofs (maxSteps := 300000) (disch := omega) [-getElem?_pos, -getElem?_neg]
    all_goals intro c0
    all_goals try (cases c0; done)
    all_goals try simp only [Bool.not_eq_true', Bool.not_eq_false', decide_eq_true_eq, decide_eq_false_iff_not] at c0
    all_goals apply zz
    apply zz
    refine Cd.ra (h := ?_)
    apply Run.by_eq
    · intro self
      conv => lhs; simp -implicitDefEqProofs (maxSteps := 300000) (disch := omega) [-getElem?_pos, -getElem?_neg]
    try (with_reducible refine Run.ret ?_)
    apply zz
    apply Leave.mk (by first | exact .inl rfl | exact .inr rfl) (by simp only [Fr.marks_put, fr0_marks])
    · conv => lhs; simp -implicitDefEqProofs (disch := omega) [Try.results47]
    exact ⟨rfl, ⟨by (try simp only [pushed_next', upded_next']); omega, fun i hi => by simp -implicitDefEqProofs (disch := omega) []⟩⟩
set_option maxRecDepth 100000 in
theorem ceil_ev (x : Frac) (s : St) (hu : 0 < x.u) (hb : -1000000000000000000 ≤ x.o ∧ x.o ≤ 1000000000000000000) : Ev TT 49 [x.v] s fun r s' => r = .int .i64 (ceF x) ∧ Keep s s' := by
  have hf := fun s => floor_ev ⟨-x.o, x.u⟩ s hu (by simp only []; omega)
  have h1 : -1000000000000000001 ≤ (-x.o) / x.u ∧ (-x.o) / x.u ≤ 1000000000000000001 := by
    constructor
    · apply (Int.le_ediv_iff_mul_le hu).2
      have := Int.mul_le_mul_of_nonneg_left (show 1 ≤ x.u by omega) (show (0 : Int) ≤ 1000000000000000001 by decide)
      omega
    · have : (-x.o) / x.u < 1000000000000000002 := by
        apply (Int.ediv_lt_iff_lt_mul hu).2
        have := Int.mul_le_mul_of_nonneg_left (show 1 ≤ x.u by omega) (show (0 : Int) ≤ 1000000000000000002 by decide)
        omega
      omega
  unfold ceF
  unfold flF at hf
  rw [v_eq] at hf ⊢
  simp only [] at hf
  generalize (-x.o) / x.u = Q at hf h1 ⊢
  refine Ev.intro (fn := Try.f49) rfl (by kernel_rfl) rfl rfl ?_
  apply zz
  refine Cd.ra (h := ?_)
  apply Run.by_eq
  · intro self
    conv => lhs; simp -implicitDefEqProofs (maxSteps := 300000) (disch := omega) [-getElem?_pos, -getElem?_neg]
  try (with_reducible refine Run.ret ?_)
  apply zz
  refine Cd.ra (h := ?_)
  apply Run.by_eq
  · intro self
    conv => lhs; simp -implicitDefEqProofs (maxSteps := 300000) (disch := omega) [-getElem?_pos, -getElem?_neg]
  try (with_reducible refine Run.ret ?_)
  apply zz
  refine Run.call ((hf _).mono fun v wy hv => ?_)
  obtain ⟨rfl, y⟩ := hv
  have ya := y.1
  have yb := y.2
  try simp only [pushed_next', upded_next'] at ya yb
  apply Run.by_eq
  · intro self
    conv => lhs; simp -implicitDefEqProofs (maxSteps := 300000) (disch := omega) [-getElem?_pos, -getElem?_neg, yb]
  try (with_reducible refine Run.ret ?_)
  apply zz
  apply Leave.mk (by first | exact .inl rfl | exact .inr rfl) (by simp only [Fr.marks_put, fr0_marks])
  · conv => lhs; simp -implicitDefEqProofs (disch := omega) [Try.results49]
  exact ⟨rfl, ⟨by (try simp only [pushed_next', upded_next']); omega, fun i hi => by simp -implicitDefEqProofs (disch := omega) [yb]⟩⟩
set_option maxRecDepth 100000 in
theorem less_ev (f g : Frac) (s : St) (h : Fits f g) : Ev TT 60 [f.v, g.v] s fun r s' => r = .bool (aboveB g f) ∧ Keep s s' := by
  obtain ⟨h1, h2⟩ := h
  unfold aboveB Frac.v
  obtain ⟨a, b⟩ := f
  obtain ⟨c, d⟩ := g
  simp only [] at h1 h2 ⊢
  generalize hX : a * d = X at h1
  generalize hY : c * b = Y at h2
  refine Ev.intro (fn := Try.f60) rfl (by kernel_rfl) rfl rfl ?_
  apply zz
  refine Cd.ra (h := ?_)
  apply Run.by_eq
  · intro self
    conv => lhs; simp -implicitDefEqProofs (maxSteps := 300000) (disch := omega) [-getElem?_pos, -getElem?_neg]
  try (with_reducible refine Run.ret ?_)
  apply zz
  refine Cd.ra (h := ?_)
  apply Run.by_eq
  · intro self
    conv => lhs; simp -implicitDefEqProofs (maxSteps := 300000) (disch := omega) [-getElem?_pos, -getElem?_neg, hX, hY]
  try (with_reducible refine Run.ret ?_)
  apply zz
  apply Leave.mk (by first | exact .inl rfl | exact .inr rfl) (by simp only [Fr.marks_put, fr0_marks])
  · conv => lhs; simp -implicitDefEqProofs (disch := omega) [Try.results60]
  exact ⟨rfl, ⟨by (try simp only [pushed_next', upded_next']); omega, fun i hi => by simp -implicitDefEqProofs (disch := omega) []⟩⟩
set_option maxRecDepth 100000 in
theorem rwhole_ev (x : Int) (s : St) : Ev TT 61 [.int .i64 x] s fun r s' => r = Frac.v ⟨x, 1⟩ ∧ Keep s s' := by
  refine Ev.intro (fn := Try.f61) rfl (by kernel_rfl) rfl rfl ?_
  apply zz
  refine Cd.ra (h := ?_)
  apply Run.by_eq
  · intro self
    conv => lhs; simp -implicitDefEqProofs (maxSteps := 300000) (disch := omega) [-getElem?_pos, -getElem?_neg]
  try (with_reducible refine Run.ret ?_)
  apply zz
  refine Cd.ra (h := ?_)
  apply Run.by_eq
  · intro self
    conv => lhs; simp -implicitDefEqProofs (maxSteps := 300000) (disch := omega) [-getElem?_pos, -getElem?_neg]
  try (with_reducible refine Run.ret ?_)
  apply zz
  apply Leave.mk (by first | exact .inl rfl | exact .inr rfl) (by simp only [Fr.marks_put, fr0_marks])
  · conv => lhs; simp -implicitDefEqProofs (disch := omega) [Try.results61]
  exact ⟨rfl, ⟨by (try simp only [pushed_next', upded_next']); omega, fun i hi => by simp -implicitDefEqProofs (disch := omega) []⟩⟩
set_option maxRecDepth 100000 in
set_option maxHeartbeats 1000000 in
theorem rmost_ev (f g : Frac) (s : St) (h : Fits f g) : Ev TT 72 [f.v, g.v] s fun r s' => r = Frac.v (if aboveB g f = true then g else f) ∧ Keep s s' := by
  have hc := fun s => less_ev f g s h
  obtain ⟨a, b⟩ := f
  obtain ⟨c, d⟩ := g
  rw [v_eq, v_eq] at hc ⊢
  simp only [] at hc ⊢
  refine Ev.intro (fn := Try.f72) rfl (by kernel_rfl) rfl rfl ?_
  apply zz
  refine Cd.ra (h := ?_)
  apply Run.by_eq
  · intro self
    conv => lhs; simp -implicitDefEqProofs (maxSteps := 300000) (disch := omega) [-getElem?_pos, -getElem?_neg]
  try (with_reducible refine Run.ret ?_)
  apply zz
  refine Cd.ra (h := ?_)
  apply Run.by_eq
  · intro self
    conv => lhs; simp -implicitDefEqProofs (maxSteps := 300000) (disch := omega) [-getElem?_pos, -getElem?_neg]
  try (with_reducible refine Run.ret ?_)
  apply zz
  refine Run.call ((hc _).mono fun v wy hv => ?_)
  obtain ⟨rfl, y⟩ := hv
  have ya := y.1
  have yb := y.2
  try simp only [pushed_next', upded_next'] at ya yb
  cases hb : aboveB ⟨c, d⟩ ⟨a, b⟩ with
  | true =>
    apply Run.by_eq
    · intro self
      conv => lhs; simp -implicitDefEqProofs (maxSteps := 300000) (disch := omega) [-getElem?_pos, -getElem?_neg]
    try (with_reducible refine Run.ret ?_)
    apply zz
    apply Cd.ite rfl
    · conv => lhs; simp -implicitDefEqProofs (maxSteps := 300000) (disch := omega) [-getElem?_pos, -getElem?_neg]
    all_goals intro c0
    all_goals try (cases c0; done)
    all_goals try simp only [Bool.not_eq_true', Bool.not_eq_false', decide_eq_true_eq, decide_eq_false_iff_not] at c0
    all_goals apply zz
    apply zz
    refine Cd.ra (h := ?_)
    apply Run.by_eq
    · intro self
      conv => lhs; simp -implicitDefEqProofs (maxSteps := 300000) (disch := omega) [-getElem?_pos, -getElem?_neg, yb]
    try (with_reducible refine Run.ret ?_)
    apply zz
    apply Leave.mk (by first | exact .inl rfl | exact .inr rfl) (by simp only [Fr.marks_put, fr0_marks])
    · conv => lhs; simp -implicitDefEqProofs (disch := omega) [Try.results72]
    exact ⟨rfl, ⟨by (try simp only [pushed_next', upded_next']); omega, fun i hi => by simp -implicitDefEqProofs (disch := omega) [yb]⟩⟩
  | false =>
    apply Run.by_eq
    · intro self
      conv => lhs; simp -implicitDefEqProofs (maxSteps := 300000) (disch := omega) [-getElem?_pos, -getElem?_neg]
    try (with_reducible refine Run.ret ?_)
    apply zz
    apply Cd.ite rfl
    · conv => lhs; simp -implicitDefEqProofs (maxSteps := 300000) (disch := omega) [-getElem?_pos, -getElem?_neg]
    all_goals intro c0
    all_goals try (cases c0; done)
    all_goals try simp only [Bool.not_eq_true', Bool.not_eq_false', decide_eq_true_eq, decide_eq_false_iff_not] at c0
    all_goals apply zz
    apply zz
    refine Cd.ra (h := ?_)
    apply Run.by_eq
    · intro self
      conv => lhs; simp -implicitDefEqProofs (maxSteps := 300000) (disch := omega) [-getElem?_pos, -getElem?_neg, yb]
    try (with_reducible refine Run.ret ?_)
    apply zz
    apply Leave.mk (by first | exact .inl rfl | exact .inr rfl) (by simp only [Fr.marks_put, fr0_marks])
    · conv => lhs; simp -implicitDefEqProofs (disch := omega) [Try.results72]
    exact ⟨rfl, ⟨by (try simp only [pushed_next', upded_next']); omega, fun i hi => by simp -implicitDefEqProofs (disch := omega) [yb]⟩⟩
set_option maxRecDepth 100000 in
set_option maxHeartbeats 1000000 in
theorem rleast_ev (f g : Frac) (s : St) (h : Fits f g) : Ev TT 74 [f.v, g.v] s fun r s' => r = Frac.v (if belowB g f = true then g else f) ∧ Keep s s' := by
  have hc := fun s => less_ev g f s h.symm
  unfold belowB
  obtain ⟨a, b⟩ := f
  obtain ⟨c, d⟩ := g
  rw [v_eq, v_eq] at hc ⊢
  simp only [] at hc ⊢
  refine Ev.intro (fn := Try.f74) rfl (by kernel_rfl) rfl rfl ?_
  apply zz
  refine Cd.ra (h := ?_)
  apply Run.by_eq
  · intro self
    conv => lhs; simp -implicitDefEqProofs (maxSteps := 300000) (disch := omega) [-getElem?_pos, -getElem?_neg]
  try (with_reducible refine Run.ret ?_)
  apply zz
  refine Cd.ra (h := ?_)
  apply Run.by_eq
  · intro self
    conv => lhs; simp -implicitDefEqProofs (maxSteps := 300000) (disch := omega) [-getElem?_pos, -getElem?_neg]
  try (with_reducible refine Run.ret ?_)
  apply zz
  refine Run.call ((hc _).mono fun v wy hv => ?_)
  obtain ⟨rfl, y⟩ := hv
  have ya := y.1
  have yb := y.2
  try simp only [pushed_next', upded_next'] at ya yb
  cases hb : aboveB ⟨a, b⟩ ⟨c, d⟩ with
  | true =>
    apply Run.by_eq
    · intro self
      conv => lhs; simp -implicitDefEqProofs (maxSteps := 300000) (disch := omega) [-getElem?_pos, -getElem?_neg]
    try (with_reducible refine Run.ret ?_)
    apply zz
    apply Cd.ite rfl
    · conv => lhs; simp -implicitDefEqProofs (maxSteps := 300000) (disch := omega) [-getElem?_pos, -getElem?_neg]
    all_goals intro c0
    all_goals try (cases c0; done)
    all_goals try simp only [Bool.not_eq_true', Bool.not_eq_false', decide_eq_true_eq, decide_eq_false_iff_not] at c0
    all_goals apply zz
    apply zz
    refine Cd.ra (h := ?_)
    apply Run.by_eq
    · intro self
      conv => lhs; simp -implicitDefEqProofs (maxSteps := 300000) (disch := omega) [-getElem?_pos, -getElem?_neg, yb]
    try (with_reducible refine Run.ret ?_)
    apply zz
    apply Leave.mk (by first | exact .inl rfl | exact .inr rfl) (by simp only [Fr.marks_put, fr0_marks])
    · conv => lhs; simp -implicitDefEqProofs (disch := omega) [Try.results74]
    exact ⟨rfl, ⟨by (try simp only [pushed_next', upded_next']); omega, fun i hi => by simp -implicitDefEqProofs (disch := omega) [yb]⟩⟩
  | false =>
    apply Run.by_eq
    · intro self
      conv => lhs; simp -implicitDefEqProofs (maxSteps := 300000) (disch := omega) [-getElem?_pos, -getElem?_neg]
    try (with_reducible refine Run.ret ?_)
    apply zz
    apply Cd.ite rfl
    · conv => lhs; simp -implicitDefEqProofs (maxSteps := 300000) (disch := omega) [-getElem?_pos, -getElem?_neg]
    all_goals intro c0
    all_goals try (cases c0; done)
    all_goals try simp only [Bool.not_eq_true', Bool.not_eq_false', decide_eq_true_eq, decide_eq_false_iff_not] at c0
    all_goals apply zz
    apply zz
    refine Cd.ra (h := ?_)
    apply Run.by_eq
    · intro self
      conv => lhs; simp -implicitDefEqProofs (maxSteps := 300000) (disch := omega) [-getElem?_pos, -getElem?_neg, yb]
    try (with_reducible refine Run.ret ?_)
    apply zz
    apply Leave.mk (by first | exact .inl rfl | exact .inr rfl) (by simp only [Fr.marks_put, fr0_marks])
    · conv => lhs; simp -implicitDefEqProofs (disch := omega) [Try.results74]
    exact ⟨rfl, ⟨by (try simp only [pushed_next', upded_next']); omega, fun i hi => by simp -implicitDefEqProofs (disch := omega) [yb]⟩⟩
theorem agg2 {a b c d : Int} (h1 : a = c) (h2 : b = d) : Value.agg #[.int .i64 a, .int .i64 b] = .agg #[.int .i64 c, .int .i64 d] := by rw [h1, h2]
set_option maxRecDepth 100000 in
set_option maxHeartbeats 4000000 in
theorem rline_ev (a b w : Int) (x y : Frac) (s : St) (hx : Small x) (hy : Small y) (hxu : 0 < x.u) (hyu : 0 < y.u) (ha : 0 ≤ a ∧ a < 30) (hb : 0 ≤ b ∧ b < 30) (hw : 0 ≤ w ∧ w < 30) (hne : a ≠ b) :
    Ev TT 73 [.int .i64 a, x.v, .int .i64 b, y.v, .int .i64 w] s fun r s' => r = (lineF a x b y w).v ∧ Keep s s' := by
  obtain ⟨xo, xu⟩ := x
  obtain ⟨yo, yu⟩ := y
  obtain ⟨hx1, hx2⟩ := hx
  obtain ⟨hy1, hy2⟩ := hy
  simp only [] at hx1 hx2 hy1 hy2 hxu hyu ⊢
  have p1 := mul_bd 30000000000 30000 hx1 hy2
  have p2 := mul_bd 30000000000 30000 hy1 hx2
  have p3 := mul_bd 30000 30000 hx2 hy2
  have p3' : 0 < xu * yu := Int.mul_pos hxu hyu
  have q1 := mul_bd 900000000000000 30 p1 (b := b - a) (by omega)
  have q2 := mul_bd 1800000000000000 30 (a := yo * xu - xo * yu) (by omega) (b := w - a) (by omega)
  have q3 := mul_bd 30 900000000 (a := b - a) (by omega) p3
  have hsg : (b - a) * (xu * yu) < 0 ↔ b < a := by
    constructor
    · intro h
      by_cases hba : b < a
      · exact hba
      · have := Int.mul_nonneg (show 0 ≤ b - a by omega) (show 0 ≤ xu * yu by omega); omega
    · intro h
      have := Int.mul_pos (show 0 < a - b by omega) p3'
      have e : (b - a) * (xu * yu) = -((a - b) * (xu * yu)) := by rw [← Int.neg_mul]; congr 1; omega
      omega
  have hgoal : (lineF a ⟨xo, xu⟩ b ⟨yo, yu⟩ w).v = if (b - a) * (xu * yu) < 0 then .agg #[.int .i64 (-(xo * yu * (b - a) + (yo * xu - xo * yu) * (w - a))), .int .i64 (-((b - a) * (xu * yu)))] else .agg #[.int .i64 (xo * yu * (b - a) + (yo * xu - xo * yu) * (w - a)), .int .i64 ((b - a) * (xu * yu))] := by
    unfold lineF lineO Frac.v
    simp only []
    by_cases h : b < a
    · rw [if_pos h, if_pos (hsg.2 h)]
      simp only []
      rw [show yu * xu = xu * yu from Int.mul_comm _ _]
      generalize xo * yu = P1
      generalize yo * xu = P2
      generalize xu * yu = P3
      simp only [Int.mul_sub, Int.sub_mul]
      rw [show P3 * a = a * P3 from Int.mul_comm _ _, show P3 * b = b * P3 from Int.mul_comm _ _]
      exact agg2 (by omega) (by omega)
    · rw [if_neg h, if_neg (fun q => h (hsg.1 q))]
      simp only []
      generalize xo * yu = P1
      generalize yo * xu = P2
      generalize xu * yu = P3
      simp only [Int.mul_sub, Int.sub_mul]
      rw [show P3 * a = a * P3 from Int.mul_comm _ _, show P3 * b = b * P3 from Int.mul_comm _ _]
      exact agg2 (by omega) (by omega)
  rw [hgoal]
  clear hgoal hsg hx1 hx2 hy1 hy2
  rw [v_eq, v_eq]
  simp only []
  generalize hP1 : xo * yu = P1 at *
  generalize hP2 : yo * xu = P2 at *
  generalize hP3 : xu * yu = P3 at *
  generalize hQ1 : P1 * (b - a) = Q1 at *
  generalize hQ2 : (P2 - P1) * (w - a) = Q2 at *
  generalize hQ3 : (b - a) * P3 = Q3 at *
  refine Ev.intro (fn := Try.f73) rfl (by kernel_rfl) rfl rfl ?_
  apply zz
  refine Cd.ra (h := ?_)
  apply Run.by_eq
  · intro self
    conv => lhs; simp -implicitDefEqProofs (maxSteps := 300000) (disch := omega) [-getElem?_pos, -getElem?_neg]
  try (with_reducible refine Run.ret ?_)
  apply zz
  refine Cd.ra (h := ?_)
  apply Run.by_eq
  · intro self
    conv => lhs; simp -implicitDefEqProofs (maxSteps := 300000) (disch := omega) [-getElem?_pos, -getElem?_neg]
  try (with_reducible refine Run.ret ?_)
  apply zz
  refine Cd.ra (h := ?_)
  apply Run.by_eq
  · intro self
    conv => lhs; simp -implicitDefEqProofs (maxSteps := 300000) (disch := omega) [-getElem?_pos, -getElem?_neg, hP1, hP2, hQ1, hQ2]
  try (with_reducible refine Run.ret ?_)
  apply zz
  refine Cd.ra (h := ?_)
  apply Run.by_eq
  · intro self
    conv => lhs; simp -implicitDefEqProofs (maxSteps := 300000) (disch := omega) [-getElem?_pos, -getElem?_neg, hP3, hQ3]
  try (with_reducible refine Run.ret ?_)
  apply zz
  by_cases h : Q3 < 0
  · rw [if_pos h]
    apply zz
    refine Cd.ra (h := ?_)
    apply Run.by_eq
    · intro self
      conv => lhs; simp -implicitDefEqProofs (maxSteps := 300000) (disch := omega) [-getElem?_pos, -getElem?_neg, h]
    try (with_reducible refine Run.ret ?_)
    apply zz
    apply Cd.ite rfl
    · conv => lhs; simp -implicitDefEqProofs (maxSteps := 300000) (disch := omega) [-getElem?_pos, -getElem?_neg]
    all_goals intro c0
    all_goals try (cases c0; done)
    all_goals try simp only [Bool.not_eq_true', Bool.not_eq_false', decide_eq_true_eq, decide_eq_false_iff_not] at c0
    all_goals apply zz
    apply zz
    refine Cd.ra (h := ?_)
    apply Run.by_eq
    · intro self
      conv => lhs; simp -implicitDefEqProofs (maxSteps := 300000) (disch := omega) [-getElem?_pos, -getElem?_neg]
    try (with_reducible refine Run.ret ?_)
    apply zz
    apply Leave.mk (by first | exact .inl rfl | exact .inr rfl) (by simp only [Fr.marks_put, fr0_marks])
    · conv => lhs; simp -implicitDefEqProofs (disch := omega) [Try.results73]
    exact ⟨rfl, ⟨by (try simp only [pushed_next', upded_next']); omega, fun i hi => by simp -implicitDefEqProofs (disch := omega) []⟩⟩
  · rw [if_neg h]
    apply zz
    refine Cd.ra (h := ?_)
    apply Run.by_eq
    · intro self
      conv => lhs; simp -implicitDefEqProofs (maxSteps := 300000) (disch := omega) [-getElem?_pos, -getElem?_neg, h]
    try (with_reducible refine Run.ret ?_)
    apply zz
    apply Cd.ite rfl
    · conv => lhs; simp -implicitDefEqProofs (maxSteps := 300000) (disch := omega) [-getElem?_pos, -getElem?_neg]
    all_goals intro c0
    all_goals try (cases c0; done)
    all_goals try simp only [Bool.not_eq_true', Bool.not_eq_false', decide_eq_true_eq, decide_eq_false_iff_not] at c0
    all_goals apply zz
    apply zz
    refine Cd.ra (h := ?_)
    apply Run.by_eq
    · intro self
      conv => lhs; simp -implicitDefEqProofs (maxSteps := 300000) (disch := omega) [-getElem?_pos, -getElem?_neg]
    try (with_reducible refine Run.ret ?_)
    apply zz
    apply Leave.mk (by first | exact .inl rfl | exact .inr rfl) (by simp only [Fr.marks_put, fr0_marks])
    · conv => lhs; simp -implicitDefEqProofs (disch := omega) [Try.results73]
    exact ⟨rfl, ⟨by (try simp only [pushed_next', upded_next']); omega, fun i hi => by simp -implicitDefEqProofs (disch := omega) []⟩⟩
end Go.Proofs.Ytnhokodcmeekhaa
namespace Go.Proofs.Ytnhokodcmeekhaa
open Go Kern
/-! The reference's least and greatest sweetness -/
theorem IntsAt.all {s : St} {a : Option Addr} {m c : Nat} {xs : List Int} (h : IntsAt s (.slice a m c) xs) (hne : xs ≠ []) :
    ∃ b off o cs g, a = some ⟨b, off, none⟩ ∧ b < s.next ∧ s.heap.get b = some o ∧ cellsOf o = some (cs, g) ∧ ∀ (k : Nat) (x : Int), xs[k]? = some x → cs[off + k]? = some (.int .i64 x) := by
  obtain ⟨y, r, rfl⟩ : ∃ y r, xs = y :: r := by cases xs with
    | nil => exact absurd rfl hne
    | cons y r => exact ⟨y, r, rfl⟩
  obtain ⟨b, off, o, cs, g, h1, h2, h3, h4, _⟩ := IntsAt.at h (k := 0) rfl
  refine ⟨b, off, o, cs, g, h1, h2, h3, h4, fun k x hk => ?_⟩
  obtain ⟨b', off', o', cs', g', k1, k2, k3, k4, k5⟩ := IntsAt.at h hk
  subst h1; cases k1
  rw [h3] at k3; cases k3
  rw [h4] at k4; cases k4
  exact k5
theorem fore_snoc {bf : Frac → Frac → Bool} {a x : Frac} {l : List Frac} : foreF bf a (l ++ [x]) = if bf x (foreF bf a l) = true then x else foreF bf a l := by
  unfold foreF; rw [List.foldl_append]; rfl
def wF (L' : Nat → Int) (i : Nat) : Frac := ⟨L' i, 1⟩
theorem wF_mid {L' : Nat → Int} {i : Nat} (h : -60000 ≤ L' i ∧ L' i ≤ 60000) : Mid 60000 1 (wF L' i) := by unfold Mid wF; simp only []; omega
theorem wF_v (L' : Nat → Int) (i : Nat) : Frac.v ⟨L' i, 1⟩ = (wF L' i).v := rfl
theorem range_at {n : Nat} {L' : Nat → Int} {i : Nat} (h : i < n) : ((List.range n).map L')[i]? = some (L' i) := by rw [List.getElem?_map, List.getElem?_range h]; rfl
set_option maxRecDepth 100000 in
set_option maxHeartbeats 4000000 in
theorem lower_ev (n : Nat) (L' : Nat → Int) (vl : Value) (w : Nat) (s : St) (hl : IntsAt s vl ((List.range n).map L')) (hn : n ≤ 30) (hw : w < n) (hL : ∀ w, w < n → -60000 ≤ L' w ∧ L' w ≤ 60000) :
    Ev TT 48 [vl, .int .i64 w] s fun r s' => r = (lowF n (wF L') w).v ∧ Keep s s' := by
  obtain ⟨al, cl, rfl⟩ := hl.shape
  rw [List.length_map, List.length_map, List.length_range] at hl ⊢
  have hne : (List.range n).map L' ≠ [] := by intro h; have := congrArg List.length h; simp at this; omega
  obtain ⟨bl, ol, obl, csl, ggl, rfl, ql, hol, hcl, htl⟩ := IntsAt.all hl hne
  have hL2 := fun i (h : i < n) => wF_mid (hL i h)
  obtain ⟨hm, hF⟩ := lines_fit (x0 := wF L' w) (L := wF L') (R := wF L') (items := acrossL n w) (A := 60000) (B := 1) hn hw (by decide) (by decide) (by decide) hL2 hL2 (hL2 w hw) fun p hp => by have := across_mem.1 hp; omega
  have hlow : lowF n (wF L') w = foreF aboveB (wF L' w) ((acrossL n w).map (lnAt (wF L') (wF L') w)) := rfl
  have hcur : ∀ pre : List (Nat × Nat), (∀ p ∈ pre, p ∈ acrossL n w) → Mid 3600000 30 (foreF aboveB (wF L' w) (pre.map (lnAt (wF L') (wF L') w))) := fun pre h => fore_mid ((hL2 w hw).mono (by decide) (by decide)) fun x hx => by
    obtain ⟨p, hp, rfl⟩ := List.mem_map.1 hx
    exact hm _ (List.mem_map_of_mem (h p hp))
  rw [hlow]
  obtain ⟨F, hG⟩ : ∃ F : Nat → List (Nat × Nat), F = fun i => (List.range (n - (w + 1))).map fun d => (i, w + 1 + d) := ⟨_, rfl⟩
  have hFe : ∀ i, F i = (List.range (n - (w + 1))).map fun d => (i, w + 1 + d) := fun _ => by rw [hG]
  have hac : acrossL n w = (List.range w).flatMap F := by rw [hG]; rfl
  have htw := htl w (L' w) (range_at hw)
  have vl5 : veq 5 (Value.slice (some ⟨bl, ol, none⟩) n cl) (Value.slice (some ⟨bl, ol, none⟩) n cl) = true := veq_slice _ _ _ _ _
  refine Ev.intro (fn := Try.f48) rfl (by kernel_rfl) rfl rfl ?_
  apply zz
  refine Cd.ra (h := ?_)
  apply Run.by_eq
  · intro self
    conv => lhs; simp -implicitDefEqProofs (maxSteps := 300000) (disch := omega) [-getElem?_pos, -getElem?_neg]
  try (with_reducible refine Run.ret ?_)
  apply zz
  refine Cd.ra (h := ?_)
  apply Run.by_eq
  · intro self
    conv => lhs; simp -implicitDefEqProofs (maxSteps := 300000) (disch := omega) [-getElem?_pos, -getElem?_neg, hw, hol, hcl, htw]
  try (with_reducible refine Run.ret ?_)
  apply zz
  refine Run.call ((rwhole_ev (L' w) _).mono fun v wy hv => ?_)
  obtain ⟨rfl, y⟩ := hv
  have ya := y.1
  have yb := y.2
  try simp only [pushed_next', upded_next'] at ya yb
  apply Run.by_eq
  · intro self
    conv => lhs; simp -implicitDefEqProofs (maxSteps := 300000) (disch := omega) [-getElem?_pos, -getElem?_neg, v_eq]
  try (with_reducible refine Run.ret ?_)
  apply zz
  refine Cd.ra (h := ?_)
  apply Run.by_eq
  · intro self
    conv => lhs; simp -implicitDefEqProofs (maxSteps := 300000) (disch := omega) [-getElem?_pos, -getElem?_neg]
  try (with_reducible refine Run.ret ?_)
  apply zz
  refine Cd.inv (fun z f s' => ∃ i : Nat, i ≤ w ∧ z = w - i ∧ f.marks = [] ∧ f.get 0 = .slice (some ⟨bl, ol, none⟩) n cl ∧ f.get 1 = .int .i64 w ∧ f.get 4 = .pointer (some ⟨s.next, 0, none⟩) ∧ f.get 5 = .pointer (some ⟨wy.next, 0, none⟩) ∧ f.get 6 = .int .i64 i ∧ Keep s s' ∧ wy.next < s'.next ∧ s'.heap.get s.next = some (.cells [.int .i64 0, .int .i64 0] none) ∧ s'.heap.get wy.next = some (.cells [.int .i64 (foreF aboveB (wF L' w) (((List.range i).flatMap F).map (lnAt (wF L') (wF L') w))).o, .int .i64 (foreF aboveB (wF L' w) (((List.range i).flatMap F).map (lnAt (wF L') (wF L') w))).u] none)) w ?_ ?_
  · refine ⟨0, by omega, rfl, by simp, by simp, by simp, by simp, by simp, by simp, ⟨by (try simp only [pushed_next', upded_next']); omega, fun i hi => by simp -implicitDefEqProofs (disch := omega) [yb]⟩, by simp, ?_, ?_⟩
    · simp -implicitDefEqProofs (disch := omega) [yb]
    · show _ = some (AObj.cells [.int .i64 (L' w), .int .i64 1] none)
      simp -implicitDefEqProofs (disch := omega)
  rintro z f s1 ⟨i, hi, rfl, hmk, g0, g1, g4, g5, g6, hkp, hnx, hg0, hg1⟩
  by_cases hlt : i < w
  · have hlt' : (i : Int) < w := by omega
    apply zz
    refine Cd.ra (h := ?_)
    apply Run.by_eq
    · intro self
      conv => lhs; simp -implicitDefEqProofs (maxSteps := 300000) (disch := omega) [-getElem?_pos, -getElem?_neg, g6, g1, hlt']
    try (with_reducible refine Run.ret ?_)
    apply zz
    apply Cd.ite rfl
    · conv => lhs; simp -implicitDefEqProofs (maxSteps := 300000) (disch := omega) [-getElem?_pos, -getElem?_neg]
    all_goals intro c0
    all_goals try (cases c0; done)
    all_goals try simp only [Bool.not_eq_true', Bool.not_eq_false', decide_eq_true_eq, decide_eq_false_iff_not] at c0
    all_goals apply zz
    apply zz
    refine Cd.ra (h := ?_)
    apply Run.by_eq
    · intro self
      conv => lhs; simp -implicitDefEqProofs (maxSteps := 300000) (disch := omega) [-getElem?_pos, -getElem?_neg, g1]
    try (with_reducible refine Run.ret ?_)
    apply zz
    refine Cd.mono (Q := fun x f2 s2 => x = Ex.exit 2 ∧ f2.marks = [] ∧ f2.get 0 = .slice (some ⟨bl, ol, none⟩) n cl ∧ f2.get 1 = .int .i64 w ∧ f2.get 4 = .pointer (some ⟨s.next, 0, none⟩) ∧ f2.get 5 = .pointer (some ⟨wy.next, 0, none⟩) ∧ f2.get 6 = .int .i64 i ∧ Keep s s2 ∧ wy.next < s2.next ∧ s2.heap.get s.next = some (.cells [.int .i64 0, .int .i64 0] none) ∧ s2.heap.get wy.next = some (.cells [.int .i64 (foreF aboveB (wF L' w) (((List.range i).flatMap F ++ F i).map (lnAt (wF L') (wF L') w))).o, .int .i64 (foreF aboveB (wF L' w) (((List.range i).flatMap F ++ F i).map (lnAt (wF L') (wF L') w))).u] none)) (Cd.inv (fun z f2 s2 => ∃ d : Nat, w + 1 + d ≤ n ∧ z = n - (w + 1 + d) ∧ f2.marks = [] ∧ f2.get 0 = .slice (some ⟨bl, ol, none⟩) n cl ∧ f2.get 1 = .int .i64 w ∧ f2.get 4 = .pointer (some ⟨s.next, 0, none⟩) ∧ f2.get 5 = .pointer (some ⟨wy.next, 0, none⟩) ∧ f2.get 6 = .int .i64 i ∧ f2.get 7 = .int .i64 (w + 1 + d : Nat) ∧ Keep s s2 ∧ wy.next < s2.next ∧ s2.heap.get s.next = some (.cells [.int .i64 0, .int .i64 0] none) ∧ s2.heap.get wy.next = some (.cells [.int .i64 (foreF aboveB (wF L' w) (((List.range i).flatMap F ++ (F i).take d).map (lnAt (wF L') (wF L') w))).o, .int .i64 (foreF aboveB (wF L' w) (((List.range i).flatMap F ++ (F i).take d).map (lnAt (wF L') (wF L') w))).u] none)) (n - (w + 1)) ?_ ?_) ?_
    · exact ⟨0, by omega, rfl, by simp [hmk], by simp [g0], by simp [g1], by simp [g4], by simp [g5], by simp [g6], by simp, hkp, hnx, hg0, by simpa using hg1⟩
    · clear hmk g0 g1 g4 g5 g6 hkp hnx hg0 hg1
      rintro z f2 s2 ⟨d, hk2, rfl, hmk, g0, g1, g4, g5, g6, g7, hkp, hnx, hg0, hg1⟩
      have hkpa := hkp.1
      have hkpb := hkp.2
      by_cases hlk : w + 1 + d < n
      · have hd : (F i)[d]? = some (i, w + 1 + d) := by rw [hFe, List.getElem?_map, List.getElem?_range (by omega)]; rfl
        have hkn : w + 1 + (d + 1) = (w + 1 + d) + 1 := by omega
        generalize hk : w + 1 + d = k at *
        have hlk' : (k : Int) < n := by omega
        have hpre := flat_prefix F hlt hd
        rw [← hac] at hpre
        have htk : (List.range i).flatMap F ++ (F i).take (d + 1) = ((List.range i).flatMap F ++ (F i).take d) ++ [(i, k)] := by rw [List.take_add_one, hd, List.append_assoc]; rfl
        have hCm := hcur _ fun p hp => hpre.subset (List.mem_append_left _ hp)
        have hXm := hm _ (List.mem_map_of_mem (f := lnAt (wF L') (wF L') w) (hpre.subset (List.mem_append_right _ (.head _))))
        have hst : foreF aboveB (wF L' w) (((List.range i).flatMap F ++ (F i).take (d + 1)).map (lnAt (wF L') (wF L') w)) = if aboveB (lnAt (wF L') (wF L') w (i, k)) (foreF aboveB (wF L' w) (((List.range i).flatMap F ++ (F i).take d).map (lnAt (wF L') (wF L') w))) = true then lnAt (wF L') (wF L') w (i, k) else foreF aboveB (wF L' w) (((List.range i).flatMap F ++ (F i).take d).map (lnAt (wF L') (wF L') w)) := by
          rw [htk, List.map_append, List.map_cons, List.map_nil, fore_snoc]
        have hfit := hCm.fits hXm (by decide)
        have hX : lineF i (wF L' i) k (wF L' k) w = lnAt (wF L') (wF L') w (i, k) := rfl
        generalize hC : foreF aboveB (wF L' w) (((List.range i).flatMap F ++ (F i).take d).map (lnAt (wF L') (wF L') w)) = C at *
        generalize lnAt (wF L') (wF L') w (i, k) = X at *
        have hti := htl i (L' i) (range_at (by omega))
        have htk2 := htl k (L' k) (range_at hlk)
        have hol2 := (hkpb _ ql).trans hol
        have hin : i < n := by omega
        apply zz
        refine Cd.ra (h := ?_)
        apply Run.by_eq
        · intro self
          conv => lhs; simp -implicitDefEqProofs (maxSteps := 300000) (disch := omega) [-getElem?_pos, -getElem?_neg, g7, g0, hlk']
        try (with_reducible refine Run.ret ?_)
        apply zz
        apply Cd.ite rfl
        · conv => lhs; simp -implicitDefEqProofs (maxSteps := 300000) (disch := omega) [-getElem?_pos, -getElem?_neg]
        all_goals intro c1
        all_goals try (cases c1; done)
        all_goals try simp only [Bool.not_eq_true', Bool.not_eq_false', decide_eq_true_eq, decide_eq_false_iff_not] at c1
        all_goals apply zz
        apply zz
        refine Cd.drawn (pl := [(0, 0, false, false), (1, 0, false, false), (2, 0, false, false), (3, 0, false, false), (4, 12, false, false), (5, 28, false, false), (7, 0, false, false), (8, 0, false, false), (9, 0, false, false), (10, 768, false, false), (11, 1792, false, false), (13, 0, false, false), (6, 60, true, false), (12, 3964, true, false), (14, 16382, true, false), (15, 32767, true, false), (16, 65535, true, false)]) (by kernel_rfl) (by conv => lhs; simp only [List.map_cons, List.map_nil]) (by conv => lhs; simp [strip, ordered]) ?_
        apply Run.by_eq
        · intro self
          conv => lhs; simp -implicitDefEqProofs (maxSteps := 300000) (disch := omega) [filter_bt, (show Nat.testBit 60 0 = false from rfl), (show Nat.testBit 60 1 = false from rfl), (show Nat.testBit 60 2 = true from rfl), (show Nat.testBit 60 3 = true from rfl), (show Nat.testBit 60 4 = true from rfl), (show Nat.testBit 60 5 = true from rfl), (show Nat.testBit 60 7 = false from rfl), (show Nat.testBit 60 8 = false from rfl), (show Nat.testBit 60 9 = false from rfl), (show Nat.testBit 60 10 = false from rfl), (show Nat.testBit 60 11 = false from rfl), (show Nat.testBit 60 13 = false from rfl), (show Nat.testBit 3964 0 = false from rfl), (show Nat.testBit 3964 1 = false from rfl), (show Nat.testBit 3964 2 = true from rfl), (show Nat.testBit 3964 3 = true from rfl), (show Nat.testBit 3964 4 = true from rfl), (show Nat.testBit 3964 5 = true from rfl), (show Nat.testBit 3964 7 = false from rfl), (show Nat.testBit 3964 8 = true from rfl), (show Nat.testBit 3964 9 = true from rfl), (show Nat.testBit 3964 10 = true from rfl), (show Nat.testBit 3964 11 = true from rfl), (show Nat.testBit 3964 13 = false from rfl), (show Nat.testBit 16382 0 = false from rfl), (show Nat.testBit 16382 1 = true from rfl), (show Nat.testBit 16382 2 = true from rfl), (show Nat.testBit 16382 3 = true from rfl), (show Nat.testBit 16382 4 = true from rfl), (show Nat.testBit 16382 5 = true from rfl), (show Nat.testBit 16382 7 = true from rfl), (show Nat.testBit 16382 8 = true from rfl), (show Nat.testBit 16382 9 = true from rfl), (show Nat.testBit 16382 10 = true from rfl), (show Nat.testBit 16382 11 = true from rfl), (show Nat.testBit 16382 13 = true from rfl), (show ∀ i, Nat.testBit 32767 i = decide (i < 15) from fun i => Nat.testBit_two_pow_sub_one 15 i), (show ∀ i, Nat.testBit 65535 i = decide (i < 16) from fun i => Nat.testBit_two_pow_sub_one 16 i), -getElem?_pos, -getElem?_neg, g0, g1, g5, g6, g7, hg1, hol2, hcl, hti, htk2, hin, hlk, vl5]
        try (with_reducible refine Run.ret ?_)
        apply zz
        refine Run.call ((rwhole_ev (L' i) _).mono fun v wp hv => ?_)
        obtain ⟨rfl, p⟩ := hv
        have pa := p.1
        have pb := p.2
        try simp only [pushed_next', upded_next'] at pa pb
        have p1 := (pb _ (by omega)).trans hg1
        have pl := (pb _ (by omega)).trans hol2
        apply Run.by_eq
        · intro self
          conv => lhs; simp -implicitDefEqProofs (maxSteps := 300000) (disch := omega) [-getElem?_pos, -getElem?_neg, g0, g1, g5, g6, g7, p1, pl, hcl, hti, htk2, hin, hlk, vl5]
        try (with_reducible refine Run.ret ?_)
        apply zz
        refine Run.call ((rwhole_ev (L' k) _).mono fun v wq hv => ?_)
        obtain ⟨rfl, q⟩ := hv
        have qa := q.1
        have qb := q.2
        try simp only [pushed_next', upded_next'] at qa qb
        have q1 := (qb _ (by omega)).trans p1
        have ql2 := (qb _ (by omega)).trans pl
        apply Run.by_eq
        · intro self
          conv => lhs; simp -implicitDefEqProofs (maxSteps := 300000) (disch := omega) [-getElem?_pos, -getElem?_neg, g0, g1, g5, g6, g7, q1, ql2, hcl, hti, htk2, hin, hlk, vl5]
        try (with_reducible refine Run.ret ?_)
        apply zz
        rw [wF_v, wF_v]
        refine Run.call ((rline_ev i k w (wF L' i) (wF L' k) _ ((hL2 _ hin).small (by decide) (by decide)) ((hL2 _ hlk).small (by decide) (by decide)) (hL2 _ hin).2.1 (hL2 _ hlk).2.1 (by omega) (by omega) (by omega) (by omega)).mono fun v wu hv => ?_)
        obtain ⟨rfl, u⟩ := hv
        have ua := u.1
        have ub := u.2
        try simp only [pushed_next', upded_next'] at ua ub
        rw [hX]
        have u1 := (ub _ (by omega)).trans q1
        have ul2 := (ub _ (by omega)).trans ql2
        have u0 := (ub _ (by omega)).trans ((qb _ (by omega)).trans ((pb _ (by omega)).trans hg0))
        apply Run.by_eq
        · intro self
          conv => lhs; simp -implicitDefEqProofs (maxSteps := 300000) (disch := omega) [-getElem?_pos, -getElem?_neg, g0, g1, g5, g6, g7, u1, ul2, hcl, hti, htk2, hin, hlk, vl5]
        try (with_reducible refine Run.ret ?_)
        apply zz
        refine Run.call ((rmost_ev C X _ hfit).mono fun v wt hv => ?_)
        obtain ⟨rfl, t⟩ := hv
        have ta := t.1
        have tb := t.2
        try simp only [pushed_next', upded_next'] at ta tb
        have t1 := (tb _ (by omega)).trans u1
        have tl := (tb _ (by omega)).trans ul2
        have t0 := (tb _ (by omega)).trans u0
        rw [← hst]
        generalize hC2 : foreF aboveB (wF L' w) (((List.range i).flatMap F ++ (F i).take (d + 1)).map (lnAt (wF L') (wF L') w)) = C2
        apply Run.by_eq
        · intro self
          conv => lhs; simp -implicitDefEqProofs (maxSteps := 300000) (disch := omega) [-getElem?_pos, -getElem?_neg, v_eq, g0, g1, g5, g6, g7, t1, tl, hcl, hti, htk2, hin, hlk, vl5]
        try (with_reducible refine Run.ret ?_)
        apply zz
        refine Cd.ra (h := ?_)
        apply Run.by_eq
        · intro self
          conv => lhs; simp -implicitDefEqProofs (maxSteps := 300000) (disch := omega) [-getElem?_pos, -getElem?_neg, g7]
        try (with_reducible refine Run.ret ?_)
        apply zz
        refine LoopK.nm (n - (k + 1)) (by omega) ⟨d + 1, by omega, by omega, by simp [hmk], by simp [g0], by simp [g1], by simp [g4], by simp [g5], by simp [g6], by rw [hkn]; simp, ⟨by (try simp only [pushed_next', upded_next']); omega, fun i hi => by simp -implicitDefEqProofs (disch := omega) [tb, ub, qb, pb, hkpb]⟩, by (try simp only [pushed_next', upded_next']); omega, ?_, ?_⟩
        · simp -implicitDefEqProofs (disch := omega) [t0]
        · rw [hC2]; simp -implicitDefEqProofs (disch := omega)
      · obtain rfl : n = w + 1 + d := by omega
        have hall : (F i).take d = F i := by rw [hFe]; apply List.take_of_length_le; simp
        rw [hall] at hg1
        apply zz
        refine Cd.ra (h := ?_)
        apply Run.by_eq
        · intro self
          conv => lhs; simp -implicitDefEqProofs (maxSteps := 300000) (disch := omega) [-getElem?_pos, -getElem?_neg, g7, g0]
        try (with_reducible refine Run.ret ?_)
        apply zz
        apply Cd.ite rfl
        · conv => lhs; simp -implicitDefEqProofs (maxSteps := 300000) (disch := omega) [-getElem?_pos, -getElem?_neg]
        all_goals intro c1
        all_goals try (cases c1; done)
        all_goals try simp only [Bool.not_eq_true', Bool.not_eq_false', decide_eq_true_eq, decide_eq_false_iff_not] at c1
        all_goals apply zz
        exact ⟨rfl, by simp [hmk], by simp [g0], by simp [g1], by simp [g4], by simp [g5], by simp [g6], hkp, hnx, hg0, hg1⟩
    clear hmk g0 g1 g4 g5 g6 hkp hnx hg0 hg1
    rintro x f2 s2 ⟨rfl, hmk, g0, g1, g4, g5, g6, hkp, hnx, hg0, hg1⟩
    apply zz
    refine Cd.ra (h := ?_)
    apply Run.by_eq
    · intro self
      conv => lhs; simp -implicitDefEqProofs (maxSteps := 300000) (disch := omega) [-getElem?_pos, -getElem?_neg, g6]
    try (with_reducible refine Run.ret ?_)
    apply zz
    refine LoopK.nm (w - (i + 1)) (by omega) ⟨i + 1, by omega, rfl, by simp [hmk], by simp [g0], by simp [g1], by simp [g4], by simp [g5], by simp, hkp, hnx, hg0, ?_⟩
    rw [List.range_succ, List.flatMap_append]; simpa using hg1
  · obtain rfl : i = w := by omega
    rw [← hac] at hg1
    apply zz
    refine Cd.ra (h := ?_)
    apply Run.by_eq
    · intro self
      conv => lhs; simp -implicitDefEqProofs (maxSteps := 300000) (disch := omega) [-getElem?_pos, -getElem?_neg, g6, g1]
    try (with_reducible refine Run.ret ?_)
    apply zz
    apply Cd.ite rfl
    · conv => lhs; simp -implicitDefEqProofs (maxSteps := 300000) (disch := omega) [-getElem?_pos, -getElem?_neg]
    all_goals intro c0
    all_goals try (cases c0; done)
    all_goals try simp only [Bool.not_eq_true', Bool.not_eq_false', decide_eq_true_eq, decide_eq_false_iff_not] at c0
    all_goals apply zz
    have hkpb := hkp.2
    generalize foreF aboveB (wF L' i) ((acrossL n i).map (lnAt (wF L') (wF L') i)) = C at *
    apply zz
    refine Cd.ra (h := ?_)
    apply Run.by_eq
    · intro self
      conv => lhs; simp -implicitDefEqProofs (maxSteps := 300000) (disch := omega) [-getElem?_pos, -getElem?_neg, g4, g5, hg0, hg1]
    try (with_reducible refine Run.ret ?_)
    apply zz
    apply Leave.mk (by first | exact .inl rfl | exact .inr rfl) (by simp only [Fr.marks_put, fr0_marks, hmk, g4])
    · conv => lhs; simp -implicitDefEqProofs (disch := omega) [Try.results48, hmk, g4]
    exact ⟨rfl, ⟨by (try simp only [pushed_next', upded_next']); omega, fun i hi => by simp -implicitDefEqProofs (disch := omega) [hkpb]⟩⟩
end Go.Proofs.Ytnhokodcmeekhaa
namespace Go.Proofs.Ytnhokodcmeekhaa
open Go Kern
set_option maxRecDepth 100000 in
set_option maxHeartbeats 4000000 in
theorem upper_ev (n : Nat) (L' H' : Nat → Int) (vl vh : Value) (w : Nat) (s : St) (hl : IntsAt s vl ((List.range n).map L')) (hh : IntsAt s vh ((List.range n).map H')) (hn : n ≤ 30) (hw : w < n) (hL : ∀ w, w < n → -60000 ≤ L' w ∧ L' w ≤ 60000) (hH : ∀ w, w < n → -60000 ≤ H' w ∧ H' w ≤ 60000) :
    Ev TT 50 [vl, vh, .int .i64 w] s fun r s' => r = (rupF n (wF L') (wF H') w).v ∧ Keep s s' := by
  obtain ⟨al, cl, rfl⟩ := hl.shape
  obtain ⟨ah, ch, rfl⟩ := hh.shape
  rw [List.length_map, List.length_map, List.length_range] at hl hh ⊢
  rw [List.length_map, List.length_map, List.length_range]
  have hne : (List.range n).map L' ≠ [] := by intro h; have := congrArg List.length h; simp at this; omega
  have hne2 : (List.range n).map H' ≠ [] := by intro h; have := congrArg List.length h; simp at this; omega
  obtain ⟨bl, ol, obl, csl, ggl, rfl, ql, hol, hcl, htl⟩ := IntsAt.all hl hne
  obtain ⟨bh, oh, obh, csh, ggh, rfl, qh, hoh, hch, hth⟩ := IntsAt.all hh hne2
  have hL2 := fun i (h : i < n) => wF_mid (hL i h)
  have hH2 := fun i (h : i < n) => wF_mid (hH i h)
  obtain ⟨hm, hF⟩ := lines_fit (x0 := wF H' w) (L := wF L') (R := wF H') (items := rtowardL n w) (A := 60000) (B := 1) hn hw (by decide) (by decide) (by decide) hL2 hH2 (hH2 w hw) fun p hp => by have := rtoward_mem.1 hp; omega
  have hlow : rupF n (wF L') (wF H') w = foreF belowB (wF H' w) ((rtowardL n w).map (lnAt (wF L') (wF H') w)) := rfl
  have hcur : ∀ pre : List (Nat × Nat), (∀ p ∈ pre, p ∈ rtowardL n w) → Mid 3600000 30 (foreF belowB (wF H' w) (pre.map (lnAt (wF L') (wF H') w))) := fun pre h => fore_mid ((hH2 w hw).mono (by decide) (by decide)) fun x hx => by
    obtain ⟨p, hp, rfl⟩ := List.mem_map.1 hx
    exact hm _ (List.mem_map_of_mem (h p hp))
  rw [hlow]
  obtain ⟨F, hG⟩ : ∃ F : Nat → List (Nat × Nat), F = fun i => (List.range (max i w - (min i w + 1))).map fun d => (i, min i w + 1 + d) := ⟨_, rfl⟩
  have hFe : ∀ i, F i = (List.range (max i w - (min i w + 1))).map fun d => (i, min i w + 1 + d) := fun _ => by rw [hG]
  have hac : rtowardL n w = (List.range n).flatMap F := by rw [hG]; rfl
  have htw := hth w (H' w) (range_at hw)
  have vl5 : veq 5 (Value.slice (some ⟨bl, ol, none⟩) n cl) (Value.slice (some ⟨bl, ol, none⟩) n cl) = true := veq_slice _ _ _ _ _
  have vh5 : veq 5 (Value.slice (some ⟨bh, oh, none⟩) n ch) (Value.slice (some ⟨bh, oh, none⟩) n ch) = true := veq_slice _ _ _ _ _
  generalize hT : lnAt (wF L') (wF H') w = T at *
  refine Ev.intro (fn := Try.f50) rfl (by kernel_rfl) rfl rfl ?_
  apply zz
  refine Cd.ra (h := ?_)
  apply Run.by_eq
  · intro self
    conv => lhs; simp -implicitDefEqProofs (maxSteps := 300000) (disch := omega) [-getElem?_pos, -getElem?_neg]
  try (with_reducible refine Run.ret ?_)
  apply zz
  refine Cd.ra (h := ?_)
  apply Run.by_eq
  · intro self
    conv => lhs; simp -implicitDefEqProofs (maxSteps := 300000) (disch := omega) [-getElem?_pos, -getElem?_neg, hw, hoh, hch, htw]
  try (with_reducible refine Run.ret ?_)
  apply zz
  refine Run.call ((rwhole_ev (H' w) _).mono fun v wy hv => ?_)
  obtain ⟨rfl, y⟩ := hv
  have ya := y.1
  have yb := y.2
  try simp only [pushed_next', upded_next'] at ya yb
  apply Run.by_eq
  · intro self
    conv => lhs; simp -implicitDefEqProofs (maxSteps := 300000) (disch := omega) [-getElem?_pos, -getElem?_neg, v_eq]
  try (with_reducible refine Run.ret ?_)
  apply zz
  refine Cd.ra (h := ?_)
  apply Run.by_eq
  · intro self
    conv => lhs; simp -implicitDefEqProofs (maxSteps := 300000) (disch := omega) [-getElem?_pos, -getElem?_neg]
  try (with_reducible refine Run.ret ?_)
  apply zz
  refine Cd.inv (fun z f s' => ∃ i : Nat, i ≤ n ∧ z = n - i ∧ f.marks = [] ∧ f.get 0 = .slice (some ⟨bl, ol, none⟩) n cl ∧ f.get 1 = .slice (some ⟨bh, oh, none⟩) n ch ∧ f.get 2 = .int .i64 w ∧ f.get 6 = .pointer (some ⟨s.next, 0, none⟩) ∧ f.get 7 = .pointer (some ⟨wy.next, 0, none⟩) ∧ f.get 8 = .int .i64 i ∧ Keep s s' ∧ wy.next < s'.next ∧ s'.heap.get s.next = some (.cells [.int .i64 0, .int .i64 0] none) ∧ s'.heap.get wy.next = some (.cells [.int .i64 (foreF belowB (wF H' w) (((List.range i).flatMap F).map T)).o, .int .i64 (foreF belowB (wF H' w) (((List.range i).flatMap F).map T)).u] none)) n ?_ ?_
  · refine ⟨0, by omega, rfl, by simp, by simp, by simp, by simp, by simp, by simp, by simp, ⟨by (try simp only [pushed_next', upded_next']); omega, fun i hi => by simp -implicitDefEqProofs (disch := omega) [yb]⟩, by simp, ?_, ?_⟩
    · simp -implicitDefEqProofs (disch := omega) [yb]
    · show _ = some (AObj.cells [.int .i64 (H' w), .int .i64 1] none)
      simp -implicitDefEqProofs (disch := omega)
  rintro z f s1 ⟨i, hi, rfl, hmk, g0, g1, g2, g6, g7, g8, hkp, hnx, hg0, hg1⟩
  by_cases hlt : i < n
  · have hlt' : (i : Int) < n := by omega
    have hmn : min (i : Int) (w : Int) = ((min i w : Nat) : Int) := by omega
    have hmx : max (i : Int) (w : Int) = ((max i w : Nat) : Int) := by omega
    have hFi := hFe i
    have hb1 : min i w < 30 ∧ max i w < n ∧ (max i w = i ∨ max i w = w) ∧ min i w ≤ i ∧ min i w ≤ w := by omega
    apply zz
    refine Cd.ra (h := ?_)
    apply Run.by_eq
    · intro self
      conv => lhs; simp -implicitDefEqProofs (maxSteps := 300000) (disch := omega) [-getElem?_pos, -getElem?_neg, g8, g0, hlt']
    try (with_reducible refine Run.ret ?_)
    apply zz
    apply Cd.ite rfl
    · conv => lhs; simp -implicitDefEqProofs (maxSteps := 300000) (disch := omega) [-getElem?_pos, -getElem?_neg]
    all_goals intro c0
    all_goals try (cases c0; done)
    all_goals try simp only [Bool.not_eq_true', Bool.not_eq_false', decide_eq_true_eq, decide_eq_false_iff_not] at c0
    all_goals apply zz
    generalize hmnE : min i w = mn at *
    generalize hmxE : max i w = mx at *
    apply zz
    refine Cd.ra (h := ?_)
    apply Run.by_eq
    · intro self
      conv => lhs; simp -implicitDefEqProofs (maxSteps := 300000) (disch := omega) [-getElem?_pos, -getElem?_neg, g8, g2, hmn]
    try (with_reducible refine Run.ret ?_)
    apply zz
    refine Cd.mono (Q := fun x f2 s2 => x = Ex.exit 2 ∧ f2.marks = [] ∧ f2.get 0 = .slice (some ⟨bl, ol, none⟩) n cl ∧ f2.get 1 = .slice (some ⟨bh, oh, none⟩) n ch ∧ f2.get 2 = .int .i64 w ∧ f2.get 6 = .pointer (some ⟨s.next, 0, none⟩) ∧ f2.get 7 = .pointer (some ⟨wy.next, 0, none⟩) ∧ f2.get 8 = .int .i64 i ∧ Keep s s2 ∧ wy.next < s2.next ∧ s2.heap.get s.next = some (.cells [.int .i64 0, .int .i64 0] none) ∧ s2.heap.get wy.next = some (.cells [.int .i64 (foreF belowB (wF H' w) (((List.range i).flatMap F ++ F i).map T)).o, .int .i64 (foreF belowB (wF H' w) (((List.range i).flatMap F ++ F i).map T)).u] none)) (Cd.inv (fun z f2 s2 => ∃ d : Nat, d ≤ mx - (mn + 1) ∧ z = mx - (mn + 1) - d ∧ f2.marks = [] ∧ f2.get 0 = .slice (some ⟨bl, ol, none⟩) n cl ∧ f2.get 1 = .slice (some ⟨bh, oh, none⟩) n ch ∧ f2.get 2 = .int .i64 w ∧ f2.get 6 = .pointer (some ⟨s.next, 0, none⟩) ∧ f2.get 7 = .pointer (some ⟨wy.next, 0, none⟩) ∧ f2.get 8 = .int .i64 i ∧ f2.get 9 = .int .i64 (mn + 1 + d : Nat) ∧ Keep s s2 ∧ wy.next < s2.next ∧ s2.heap.get s.next = some (.cells [.int .i64 0, .int .i64 0] none) ∧ s2.heap.get wy.next = some (.cells [.int .i64 (foreF belowB (wF H' w) (((List.range i).flatMap F ++ (F i).take d).map T)).o, .int .i64 (foreF belowB (wF H' w) (((List.range i).flatMap F ++ (F i).take d).map T)).u] none)) (mx - (mn + 1)) ?_ ?_) ?_
    · exact ⟨0, by omega, rfl, by simp [hmk], by simp [g0], by simp [g1], by simp [g2], by simp [g6], by simp [g7], by simp [g8], by simp, hkp, hnx, hg0, by simpa using hg1⟩
    · clear hmk g0 g1 g2 g6 g7 g8 hkp hnx hg0 hg1
      rintro z f2 s2 ⟨d, hk2, rfl, hmk, g0, g1, g2, g6, g7, g8, g9, hkp, hnx, hg0, hg1⟩
      have hkpa := hkp.1
      have hkpb := hkp.2
      by_cases hlk : mn + 1 + d < mx
      · have hd : (F i)[d]? = some (i, mn + 1 + d) := by rw [hFi, List.getElem?_map, List.getElem?_range (by omega)]; rfl
        have hkn : mn + 1 + (d + 1) = (mn + 1 + d) + 1 := by omega
        generalize hk : mn + 1 + d = k at *
        have hlk' : (k : Int) < mx := by omega
        have hkN : k < n := by omega
        have hpre := flat_prefix F hlt hd
        rw [← hac] at hpre
        have htk : (List.range i).flatMap F ++ (F i).take (d + 1) = ((List.range i).flatMap F ++ (F i).take d) ++ [(i, k)] := by rw [List.take_add_one, hd, List.append_assoc]; rfl
        have hCm := hcur _ fun p hp => hpre.subset (List.mem_append_left _ hp)
        have hXm := hm _ (List.mem_map_of_mem (f := T) (hpre.subset (List.mem_append_right _ (.head _))))
        have hst : foreF belowB (wF H' w) (((List.range i).flatMap F ++ (F i).take (d + 1)).map T) = if belowB (T (i, k)) (foreF belowB (wF H' w) (((List.range i).flatMap F ++ (F i).take d).map T)) = true then T (i, k) else foreF belowB (wF H' w) (((List.range i).flatMap F ++ (F i).take d).map T) := by
          rw [htk, List.map_append, List.map_cons, List.map_nil, fore_snoc]
        have hfit := hCm.fits hXm (by decide)
        have hX : lineF i (wF L' i) k (wF H' k) w = T (i, k) := by rw [← hT]; rfl
        generalize hC : foreF belowB (wF H' w) (((List.range i).flatMap F ++ (F i).take d).map T) = C at *
        generalize T (i, k) = X at *
        have hti := htl i (L' i) (range_at (by omega))
        have htk2 := hth k (H' k) (range_at hkN)
        have hol2 := (hkpb _ ql).trans hol
        have hoh2 := (hkpb _ qh).trans hoh
        apply zz
        refine Cd.ra (h := ?_)
        apply Run.by_eq
        · intro self
          conv => lhs; simp -implicitDefEqProofs (maxSteps := 300000) (disch := omega) [-getElem?_pos, -getElem?_neg, g9, g8, g2, hmx, hlk']
        try (with_reducible refine Run.ret ?_)
        apply zz
        apply Cd.ite rfl
        · conv => lhs; simp -implicitDefEqProofs (maxSteps := 300000) (disch := omega) [-getElem?_pos, -getElem?_neg]
        all_goals intro c1
        all_goals try (cases c1; done)
        all_goals try simp only [Bool.not_eq_true', Bool.not_eq_false', decide_eq_true_eq, decide_eq_false_iff_not] at c1
        all_goals apply zz
        apply zz
        refine Cd.drawn (pl := [(0, 0, false, false), (1, 0, false, false), (2, 0, false, false), (3, 0, false, false), (4, 12, false, false), (5, 28, false, false), (7, 0, false, false), (8, 0, false, false), (9, 0, false, false), (10, 768, false, false), (11, 1792, false, false), (13, 0, false, false), (6, 60, true, false), (12, 3964, true, false), (14, 16382, true, false), (15, 32767, true, false), (16, 65535, true, false)]) (by kernel_rfl) (by conv => lhs; simp only [List.map_cons, List.map_nil]) (by conv => lhs; simp [strip, ordered]) ?_
        apply Run.by_eq
        · intro self
          conv => lhs; simp -implicitDefEqProofs (maxSteps := 300000) (disch := omega) [filter_bt, (show Nat.testBit 60 0 = false from rfl), (show Nat.testBit 60 1 = false from rfl), (show Nat.testBit 60 2 = true from rfl), (show Nat.testBit 60 3 = true from rfl), (show Nat.testBit 60 4 = true from rfl), (show Nat.testBit 60 5 = true from rfl), (show Nat.testBit 60 7 = false from rfl), (show Nat.testBit 60 8 = false from rfl), (show Nat.testBit 60 9 = false from rfl), (show Nat.testBit 60 10 = false from rfl), (show Nat.testBit 60 11 = false from rfl), (show Nat.testBit 60 13 = false from rfl), (show Nat.testBit 3964 0 = false from rfl), (show Nat.testBit 3964 1 = false from rfl), (show Nat.testBit 3964 2 = true from rfl), (show Nat.testBit 3964 3 = true from rfl), (show Nat.testBit 3964 4 = true from rfl), (show Nat.testBit 3964 5 = true from rfl), (show Nat.testBit 3964 7 = false from rfl), (show Nat.testBit 3964 8 = true from rfl), (show Nat.testBit 3964 9 = true from rfl), (show Nat.testBit 3964 10 = true from rfl), (show Nat.testBit 3964 11 = true from rfl), (show Nat.testBit 3964 13 = false from rfl), (show Nat.testBit 16382 0 = false from rfl), (show Nat.testBit 16382 1 = true from rfl), (show Nat.testBit 16382 2 = true from rfl), (show Nat.testBit 16382 3 = true from rfl), (show Nat.testBit 16382 4 = true from rfl), (show Nat.testBit 16382 5 = true from rfl), (show Nat.testBit 16382 7 = true from rfl), (show Nat.testBit 16382 8 = true from rfl), (show Nat.testBit 16382 9 = true from rfl), (show Nat.testBit 16382 10 = true from rfl), (show Nat.testBit 16382 11 = true from rfl), (show Nat.testBit 16382 13 = true from rfl), (show ∀ i, Nat.testBit 32767 i = decide (i < 15) from fun i => Nat.testBit_two_pow_sub_one 15 i), (show ∀ i, Nat.testBit 65535 i = decide (i < 16) from fun i => Nat.testBit_two_pow_sub_one 16 i), -getElem?_pos, -getElem?_neg, g0, g1, g2, g7, g8, g9, hg1, hol2, hcl, hoh2, hch, hti, htk2, hlt, hkN, vl5, vh5]
        try (with_reducible refine Run.ret ?_)
        apply zz
        refine Run.call ((rwhole_ev (L' i) _).mono fun v wp hv => ?_)
        obtain ⟨rfl, p⟩ := hv
        have pa := p.1
        have pb := p.2
        try simp only [pushed_next', upded_next'] at pa pb
        have p1 := (pb _ (by omega)).trans hg1
        have pl := (pb _ (by omega)).trans hol2
        have ph := (pb _ (by omega)).trans hoh2
        apply Run.by_eq
        · intro self
          conv => lhs; simp -implicitDefEqProofs (maxSteps := 300000) (disch := omega) [-getElem?_pos, -getElem?_neg, g0, g1, g2, g7, g8, g9, p1, pl, hcl, ph, hch, hti, htk2, hlt, hkN, vl5, vh5]
        try (with_reducible refine Run.ret ?_)
        apply zz
        refine Run.call ((rwhole_ev (H' k) _).mono fun v wq hv => ?_)
        obtain ⟨rfl, q⟩ := hv
        have qa := q.1
        have qb := q.2
        try simp only [pushed_next', upded_next'] at qa qb
        have q1 := (qb _ (by omega)).trans p1
        have ql2 := (qb _ (by omega)).trans pl
        have qh2 := (qb _ (by omega)).trans ph
        apply Run.by_eq
        · intro self
          conv => lhs; simp -implicitDefEqProofs (maxSteps := 300000) (disch := omega) [-getElem?_pos, -getElem?_neg, g0, g1, g2, g7, g8, g9, q1, ql2, hcl, qh2, hch, hti, htk2, hlt, hkN, vl5, vh5]
        try (with_reducible refine Run.ret ?_)
        apply zz
        rw [wF_v, wF_v]
        refine Run.call ((rline_ev i k w (wF L' i) (wF H' k) _ ((hL2 _ hlt).small (by decide) (by decide)) ((hH2 _ hkN).small (by decide) (by decide)) (hL2 _ hlt).2.1 (hH2 _ hkN).2.1 (by omega) (by omega) (by omega) (by omega)).mono fun v wu hv => ?_)
        obtain ⟨rfl, u⟩ := hv
        have ua := u.1
        have ub := u.2
        try simp only [pushed_next', upded_next'] at ua ub
        rw [hX]
        have u1 := (ub _ (by omega)).trans q1
        have ul2 := (ub _ (by omega)).trans ql2
        have uh2 := (ub _ (by omega)).trans qh2
        have u0 := (ub _ (by omega)).trans ((qb _ (by omega)).trans ((pb _ (by omega)).trans hg0))
        apply Run.by_eq
        · intro self
          conv => lhs; simp -implicitDefEqProofs (maxSteps := 300000) (disch := omega) [-getElem?_pos, -getElem?_neg, g0, g1, g2, g7, g8, g9, u1, ul2, hcl, uh2, hch, hti, htk2, hlt, hkN, vl5, vh5]
        try (with_reducible refine Run.ret ?_)
        apply zz
        refine Run.call ((rleast_ev C X _ hfit).mono fun v wt hv => ?_)
        obtain ⟨rfl, t⟩ := hv
        have ta := t.1
        have tb := t.2
        try simp only [pushed_next', upded_next'] at ta tb
        have t1 := (tb _ (by omega)).trans u1
        have tl := (tb _ (by omega)).trans ul2
        have th := (tb _ (by omega)).trans uh2
        have t0 := (tb _ (by omega)).trans u0
        rw [← hst]
        generalize hC2 : foreF belowB (wF H' w) (((List.range i).flatMap F ++ (F i).take (d + 1)).map T) = C2
        apply Run.by_eq
        · intro self
          conv => lhs; simp -implicitDefEqProofs (maxSteps := 300000) (disch := omega) [-getElem?_pos, -getElem?_neg, v_eq, g0, g1, g2, g7, g8, g9, t1, tl, hcl, th, hch, hti, htk2, hlt, hkN, vl5, vh5]
        try (with_reducible refine Run.ret ?_)
        apply zz
        refine Cd.ra (h := ?_)
        apply Run.by_eq
        · intro self
          conv => lhs; simp -implicitDefEqProofs (maxSteps := 300000) (disch := omega) [-getElem?_pos, -getElem?_neg, g9]
        try (with_reducible refine Run.ret ?_)
        apply zz
        refine LoopK.nm (mx - (mn + 1) - (d + 1)) (by omega) ⟨d + 1, by omega, by omega, by simp [hmk], by simp [g0], by simp [g1], by simp [g2], by simp [g6], by simp [g7], by simp [g8], by rw [hkn]; simp, ⟨by (try simp only [pushed_next', upded_next']); omega, fun i hi => by simp -implicitDefEqProofs (disch := omega) [tb, ub, qb, pb, hkpb]⟩, by (try simp only [pushed_next', upded_next']); omega, ?_, ?_⟩
        · simp -implicitDefEqProofs (disch := omega) [t0]
        · rw [hC2]; simp -implicitDefEqProofs (disch := omega)
      · obtain rfl : d = mx - (mn + 1) := by omega
        have hall : (F i).take (mx - (mn + 1)) = F i := by rw [hFi]; apply List.take_of_length_le; simp
        rw [hall] at hg1
        have hlk' : ¬ ((mn + 1 + (mx - (mn + 1)) : Nat) : Int) < mx := by omega
        generalize hk : mn + 1 + (mx - (mn + 1)) = k at *
        apply zz
        refine Cd.ra (h := ?_)
        apply Run.by_eq
        · intro self
          conv => lhs; simp -implicitDefEqProofs (maxSteps := 300000) (disch := omega) [-getElem?_pos, -getElem?_neg, g9, g8, g2, hmx, hlk']
        try (with_reducible refine Run.ret ?_)
        apply zz
        apply Cd.ite rfl
        · conv => lhs; simp -implicitDefEqProofs (maxSteps := 300000) (disch := omega) [-getElem?_pos, -getElem?_neg]
        all_goals intro c1
        all_goals try (cases c1; done)
        all_goals try simp only [Bool.not_eq_true', Bool.not_eq_false', decide_eq_true_eq, decide_eq_false_iff_not] at c1
        all_goals apply zz
        exact ⟨rfl, by simp [hmk], by simp [g0], by simp [g1], by simp [g2], by simp [g6], by simp [g7], by simp [g8], hkp, hnx, hg0, hg1⟩
    clear hmk g0 g1 g2 g6 g7 g8 hkp hnx hg0 hg1
    rintro x f2 s2 ⟨rfl, hmk, g0, g1, g2, g6, g7, g8, hkp, hnx, hg0, hg1⟩
    apply zz
    refine Cd.ra (h := ?_)
    apply Run.by_eq
    · intro self
      conv => lhs; simp -implicitDefEqProofs (maxSteps := 300000) (disch := omega) [-getElem?_pos, -getElem?_neg, g8]
    try (with_reducible refine Run.ret ?_)
    apply zz
    refine LoopK.nm (n - (i + 1)) (by omega) ⟨i + 1, by omega, rfl, by simp [hmk], by simp [g0], by simp [g1], by simp [g2], by simp [g6], by simp [g7], by simp, hkp, hnx, hg0, ?_⟩
    rw [List.range_succ, List.flatMap_append]; simpa using hg1
  · obtain rfl : i = n := by omega
    rw [← hac] at hg1
    apply zz
    refine Cd.ra (h := ?_)
    apply Run.by_eq
    · intro self
      conv => lhs; simp -implicitDefEqProofs (maxSteps := 300000) (disch := omega) [-getElem?_pos, -getElem?_neg, g8, g0]
    try (with_reducible refine Run.ret ?_)
    apply zz
    apply Cd.ite rfl
    · conv => lhs; simp -implicitDefEqProofs (maxSteps := 300000) (disch := omega) [-getElem?_pos, -getElem?_neg]
    all_goals intro c0
    all_goals try (cases c0; done)
    all_goals try simp only [Bool.not_eq_true', Bool.not_eq_false', decide_eq_true_eq, decide_eq_false_iff_not] at c0
    all_goals apply zz
    have hkpb := hkp.2
    generalize foreF belowB (wF H' w) ((rtowardL i w).map T) = C at *
    apply zz
    refine Cd.ra (h := ?_)
    apply Run.by_eq
    · intro self
      conv => lhs; simp -implicitDefEqProofs (maxSteps := 300000) (disch := omega) [-getElem?_pos, -getElem?_neg, g6, g7, hg0, hg1]
    try (with_reducible refine Run.ret ?_)
    apply zz
    apply Leave.mk (by first | exact .inl rfl | exact .inr rfl) (by simp only [Fr.marks_put, fr0_marks, hmk, g6])
    · conv => lhs; simp -implicitDefEqProofs (disch := omega) [Try.results50, hmk, g6]
    exact ⟨rfl, ⟨by (try simp only [pushed_next', upded_next']); omega, fun i hi => by simp -implicitDefEqProofs (disch := omega) [hkpb]⟩⟩
end Go.Proofs.Ytnhokodcmeekhaa
