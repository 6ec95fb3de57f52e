/-
  The law's self-check returns true in every world, and leaves what was there as it was: its answer is calculated by the kernel. They hold with no condition but those that are written in each theorem.
-/
import Derived.Test.YtnhokodcmeekhaaProg
import Derived.Test.YtnhokodcmeekhaaRows
import Derived.ProofKit
import Derived.Deep.Slices
import Derived.Lib.SmallJoins
import Derived.Laws.IdiomArrays
import Derived.Deep.Strs
import Derived.Test.YtnhokodcmeekhaaPC1
import Derived.Test.YtnhokodcmeekhaaPC2
import Derived.Test.YtnhokodcmeekhaaPC3
set_option linter.unusedSimpArgs false
set_option linter.unusedVariables false
namespace Go.Proofs.Ytnhokodcmeekhaa
open Go Kern
/-! The lows and highs of the program are those of the reference -/
theorem fore_one {bf : Frac → Frac → Bool} (a f : Frac) : foreF bf a [f] = if bf f a = true then f else a := rfl
theorem above_ones (x y : Int) : aboveB ⟨x, 1⟩ ⟨y, 1⟩ = decide (y < x) := by
  unfold aboveB
  simp only [Int.mul_one]
theorem bndS_end {n : Nat} {p : (Nat → Frac) × (Nat → Frac)} {q : Nat → Int × Int} {x : SampD} (hp : ∀ w, w < n → p.1 w = ⟨(q w).1, 1⟩ ∧ p.2 w = ⟨(q w).2, 1⟩) (hx : 0 ≤ x.week ∧ x.week < n) :
    ∀ w, w < n → (bndS p x).1 w = ⟨(endS w (q w) x).1, 1⟩ ∧ (bndS p x).2 w = ⟨(endS w (q w) x).2, 1⟩ := by
  intro w hw
  unfold bndS endS updF
  by_cases e : x.week = w
  · have e2 : w = x.week.toNat := by omega
    obtain ⟨h1, h2⟩ := hp w hw
    simp only [if_pos e, if_pos e2, ← e2, h1, h2, fore_one, belowB, above_ones]
    constructor
    · rw [if_pos trivial]
      by_cases h : (q w).1 < x.val - x.off
      · rw [if_pos (by simpa using h), Int.max_eq_right (by omega)]
      · rw [if_neg (by simpa using h), Int.max_eq_left (by omega)]
    · rw [if_pos trivial]
      by_cases h : x.val + x.off < (q w).2
      · rw [if_pos (by simpa using h), Int.min_eq_right (by omega)]
      · rw [if_neg (by simpa using h), Int.min_eq_left (by omega)]
  · have e2 : ¬ w = x.week.toNat := by omega
    simp only [if_neg e, if_neg e2]
    exact hp w hw
theorem bnd_end_fold {n : Nat} : ∀ (ss : List SampD) (p : (Nat → Frac) × (Nat → Frac)) (q : Nat → Int × Int), (∀ w, w < n → p.1 w = ⟨(q w).1, 1⟩ ∧ p.2 w = ⟨(q w).2, 1⟩) → (∀ x ∈ ss, sampErr n x = 0) → ∀ w, w < n → (ss.foldl bndS p).1 w = ⟨(ss.foldl (endS w) (q w)).1, 1⟩ ∧ (ss.foldl bndS p).2 w = ⟨(ss.foldl (endS w) (q w)).2, 1⟩
  | [], _, _, h, _ => h
  | x :: r, p, q, h, hx => bnd_end_fold r (bndS p x) (fun w => endS w (q w) x) (bndS_end h (sampErr_ok (hx x (.head _))).1) fun y hy => hx y (.tail _ hy)
theorem bnd_end {n : Nat} {lo hi : Int} {ss : List SampD} (h : fieldErr n lo hi ss = 0) (w : Nat) (hw : w < n) : (bndN n lo hi ss).1 w = ⟨(endN lo hi ss w).1, 1⟩ ∧ (bndN n lo hi ss).2 w = ⟨(endN lo hi ss w).2, 1⟩ := by
  obtain ⟨_, _, _, h2⟩ := fieldErr_ok h
  refine bnd_end_fold ss _ (fun _ => (lo, hi)) (fun w hw => ?_) h2 w hw
  simp [iniF, hw]
theorem clash_holds {n : Nat} {L H : Nat → Frac} {L' H' : Nat → Int} (h : ∀ w, w < n → L w = ⟨L' w, 1⟩ ∧ H w = ⟨H' w, 1⟩) {i j k : Nat} (hi : i < n) (hj : j < n) (hk : k < n) : clashB L H i j k = holdsB L' H' i j k := by
  unfold clashB holdsB
  rw [(h i hi).1, (h j hj).1, (h k hk).1, (h j hj).2]
  split
  · rename_i e
    obtain ⟨rfl, rfl⟩ := e
    exact above_ones _ _
  · by_cases h1 : i < j
    · by_cases h2 : j < k
      · rw [decide_eq_true h1, decide_eq_true h2]
        unfold lineF lineO aboveB
        rw [if_neg (by omega)]
        simp only [Int.mul_one, Int.one_mul]
      · rw [decide_eq_false h2, Bool.false_and, Bool.false_and]
    · rw [decide_eq_false h1, Bool.false_and, Bool.false_and]
theorem verF_eq (n lo hi : Int) (ss : List SampD) (ws : List Int) : verF n lo hi ss ws = rverF n lo hi ss ws := by
  unfold verF rverF
  by_cases h : fieldErr n lo hi ss = 0
  · rw [if_pos h, if_pos h]
    obtain ⟨⟨hn1, _⟩, _⟩ := fieldErr_ok h
    obtain ⟨m, rfl⟩ : ∃ m : Nat, n = m := ⟨n.toNat, by omega⟩
    unfold verIn
    by_cases h2 : ws.length = 3
    · rw [if_pos h2, if_pos h2]
      by_cases h3 : (ws.all fun w => weekB m w) = true
      · rw [if_pos h3, if_pos h3]
        obtain ⟨i, j, k, rfl⟩ : ∃ i j k : Int, ws = [i, j, k] := by
          match ws, h2 with
          | [i, j, k], _ => exact ⟨i, j, k, rfl⟩
        have hz := List.all_eq_true.1 h3
        have w0 := weekB_ok (hz i (by simp))
        have w1 := weekB_ok (hz j (by simp))
        have w2 := weekB_ok (hz k (by simp))
        simp only [List.getD_cons_zero, List.getD_cons_succ]
        rw [Int.toNat_natCast, clash_holds (bnd_end h) (by omega) (by omega) (by omega)]
      · rw [if_neg h3, if_neg h3]
    · rw [if_neg h2, if_neg h2]
  · rw [if_neg h, if_neg h]
end Go.Proofs.Ytnhokodcmeekhaa
namespace Go.Proofs.Ytnhokodcmeekhaa
open Go Kern
/-! The reference's clash -/
@[simp] theorem newObj_41 {f : Fr} {pl0 : Array (Nat × Operand)} : Kern.newObj TT (.buildSlice 41 3 pl0) f = ob (fillL f.eval (placesA 1 pl0.toList) (repeatL [.int .i64 0] 3)) fun c => some (.cells c none) :=
  newObj_buildSlice 41 3 pl0 und_41 size_3 zero_3 rfl
@[simp] theorem three_1 (a : Value) : overL [a] (repeatL [Value.int .i64 0] 3) = some [a, .int .i64 0, .int .i64 0] := rfl
@[simp] theorem three_2 (a b z : Value) : putL 1 [b] [a, z, z] = some [a, b, z] := rfl
@[simp] theorem three_3 (a b c z : Value) : putL 2 [c] [a, b, z] = some [a, b, c] := rfl
/-- Three weeks in a block of their own, of which something is true. -/
def Trip (n : Nat) (C : Nat → Nat → Nat → Bool) (r : Value) (s : St) : Prop :=
  ∃ i j k : Nat, i < n ∧ j < n ∧ k < n ∧ C i j k = true ∧ ∃ b, r = .slice (some ⟨b, 0, none⟩) 3 3 ∧ b < s.next ∧ s.heap.get b = some (.cells [.int .i64 i, .int .i64 j, .int .i64 k] none)
theorem Trip.ints {n : Nat} {C : Nat → Nat → Nat → Bool} {r : Value} {s : St} (h : Trip n C r s) : ∃ i j k : Nat, i < n ∧ j < n ∧ k < n ∧ C i j k = true ∧ IntsAt s r [(i : Int), (j : Int), (k : Int)] ∧ ∃ a, r = .slice (some a) 3 3 := by
  obtain ⟨i, j, k, h1, h2, h3, h4, b, rfl, h5, h6⟩ := h
  exact ⟨i, j, k, h1, h2, h3, h4, ints_of_cells (xs := [(i : Int), (j : Int), (k : Int)]) h5 h6, _, rfl⟩
set_option maxRecDepth 100000 in
set_option maxHeartbeats 4000000 in
theorem rclash_ev (n : Nat) (L H : Nat → Int) (vl vh : Value) (s : St) (hl : IntsAt s vl ((List.range n).map L)) (hh : IntsAt s vh ((List.range n).map H)) (hn : n ≤ 30) (hL : ∀ w, w < n → -60000 ≤ L w ∧ L w ≤ 60000) (hH : ∀ w, w < n → -60000 ≤ H w ∧ H w ≤ 60000) :
    Ev TT 46 [vl, vh] s fun r s' => Keep s s' ∧ ((r = .slice none 0 0 ∧ ∀ i j k, i < n → j < n → k < n → holdsB L H i j k = false) ∨ Trip n (holdsB L H) r s') := by
  have hho := fun (i j k : Nat) (s1 : St) (k1 : Keep s s1) hi hj hk => holds_ev n L H vl vh i j k s1 (hl.keep k1) (hh.keep k1) hn hi hj hk hL hH
  obtain ⟨al, cl, rfl⟩ := hl.shape
  obtain ⟨ah, ch, rfl⟩ := hh.shape
  rw [List.length_map, List.length_map, List.length_range] at hl hh hho ⊢
  rw [List.length_map, List.length_map, List.length_range] at hho ⊢
  have vl := slAt_veq hl 4
  have vh := slAt_veq hh 4
  refine Ev.intro (fn := Try.f46) rfl (by kernel_rfl) rfl rfl ?_
  apply zz
  refine Cd.ra (h := ?_)
  apply Run.by_eq
  · intro self
    conv => lhs; simp -implicitDefEqProofs (maxSteps := 300000) (disch := omega) [-getElem?_pos, -getElem?_neg]
  try (with_reducible refine Run.ret ?_)
  apply zz
  refine Cd.ra (h := ?_)
  apply Run.by_eq
  · intro self
    conv => lhs; simp -implicitDefEqProofs (maxSteps := 300000) (disch := omega) [-getElem?_pos, -getElem?_neg]
  try (with_reducible refine Run.ret ?_)
  apply zz
  refine Cd.ra (h := ?_)
  apply Run.by_eq
  · intro self
    conv => lhs; simp -implicitDefEqProofs (maxSteps := 300000) (disch := omega) [-getElem?_pos, -getElem?_neg]
  try (with_reducible refine Run.ret ?_)
  apply zz
  refine Cd.mono (Q := fun x f1 s1 => (x = Ex.ret ∧ f1.marks = [] ∧ Keep s s1 ∧ Trip n (holdsB L H) (f1.get 4) s1) ∨ (x = Ex.exit 0 ∧ f1.marks = [] ∧ Keep s s1 ∧ ∀ i j k, i < n → j < n → k < n → holdsB L H i j k = false)) (Cd.inv (fun z f s' => ∃ i : Nat, i ≤ n ∧ z = n - i ∧ f.marks = [] ∧ f.get 0 = .slice al n cl ∧ f.get 1 = .slice ah n ch ∧ f.get 5 = .int .i64 n ∧ f.get 6 = .int .i64 i ∧ Keep s s' ∧ ∀ x j k, x < i → j < n → k < n → holdsB L H x j k = false) n ?_ ?_) ?_
  · exact ⟨0, by omega, rfl, by simp, by simp, by simp, by simp, by simp, ⟨by (try simp only [pushed_next', upded_next']); omega, fun i hi => by simp -implicitDefEqProofs (disch := omega) []⟩, fun x j k h => by omega⟩
  · rintro z f s1 ⟨i, hi, rfl, hm, g0, g1, g5, g6, hkp, hz⟩
    by_cases hlt : i < n
    · have hlt' : (i : Int) < n := by omega
      apply zz
      refine Cd.ra (h := ?_)
      apply Run.by_eq
      · intro self
        conv => lhs; simp -implicitDefEqProofs (maxSteps := 300000) (disch := omega) [-getElem?_pos, -getElem?_neg, g6, g5, hlt']
      try (with_reducible refine Run.ret ?_)
      apply zz
      apply Cd.ite rfl
      · conv => lhs; simp -implicitDefEqProofs (maxSteps := 300000) (disch := omega) [-getElem?_pos, -getElem?_neg]
      all_goals intro c3
      all_goals try (cases c3; done)
      all_goals try simp only [Bool.not_eq_true', Bool.not_eq_false', decide_eq_true_eq, decide_eq_false_iff_not] at c3
      all_goals apply zz
      apply zz
      refine Cd.ra (h := ?_)
      apply Run.by_eq
      · intro self
        conv => lhs; simp -implicitDefEqProofs (maxSteps := 300000) (disch := omega) [-getElem?_pos, -getElem?_neg]
      try (with_reducible refine Run.ret ?_)
      apply zz
      refine Cd.mono (Q := fun x f1 s1 => (x = Ex.ret ∧ f1.marks = [] ∧ Keep s s1 ∧ Trip n (holdsB L H) (f1.get 4) s1) ∨ (x = Ex.exit 2 ∧ f1.marks = [] ∧ f1.get 0 = .slice al n cl ∧ f1.get 1 = .slice ah n ch ∧ f1.get 5 = .int .i64 n ∧ f1.get 6 = .int .i64 i ∧ Keep s s1 ∧ ∀ j k, j < n → k < n → holdsB L H i j k = false)) (Cd.inv (fun z f s' => ∃ j : Nat, j ≤ n ∧ z = n - j ∧ f.marks = [] ∧ f.get 0 = .slice al n cl ∧ f.get 1 = .slice ah n ch ∧ f.get 5 = .int .i64 n ∧ f.get 6 = .int .i64 i ∧ f.get 7 = .int .i64 j ∧ Keep s s' ∧ ∀ x k, x < j → k < n → holdsB L H i x k = false) n ?_ ?_) ?_
      · exact ⟨0, by omega, rfl, by simp [hm], by simp [g0], by simp [g1], by simp [g5], by simp [g6], by simp, hkp, fun x k h => by omega⟩
      · clear hm g0 g1 g5 g6 hkp f
        rintro z f s1 ⟨j, hj, rfl, hm, g0, g1, g5, g6, g7, hkp, hz2⟩
        by_cases hlt2 : j < n
        · have hlt2' : (j : Int) < n := by omega
          apply zz
          refine Cd.ra (h := ?_)
          apply Run.by_eq
          · intro self
            conv => lhs; simp -implicitDefEqProofs (maxSteps := 300000) (disch := omega) [-getElem?_pos, -getElem?_neg, g7, g5, hlt2']
          try (with_reducible refine Run.ret ?_)
          apply zz
          apply Cd.ite rfl
          · conv => lhs; simp -implicitDefEqProofs (maxSteps := 300000) (disch := omega) [-getElem?_pos, -getElem?_neg]
          all_goals intro c4
          all_goals try (cases c4; done)
          all_goals try simp only [Bool.not_eq_true', Bool.not_eq_false', decide_eq_true_eq, decide_eq_false_iff_not] at c4
          all_goals apply zz
          apply zz
          refine Cd.ra (h := ?_)
          apply Run.by_eq
          · intro self
            conv => lhs; simp -implicitDefEqProofs (maxSteps := 300000) (disch := omega) [-getElem?_pos, -getElem?_neg]
          try (with_reducible refine Run.ret ?_)
          apply zz
          refine Cd.mono (Q := fun x f1 s1 => (x = Ex.ret ∧ f1.marks = [] ∧ Keep s s1 ∧ Trip n (holdsB L H) (f1.get 4) s1) ∨ (x = Ex.exit 4 ∧ f1.marks = [] ∧ f1.get 0 = .slice al n cl ∧ f1.get 1 = .slice ah n ch ∧ f1.get 5 = .int .i64 n ∧ f1.get 6 = .int .i64 i ∧ f1.get 7 = .int .i64 j ∧ Keep s s1 ∧ ∀ k, k < n → holdsB L H i j k = false)) (Cd.inv (fun z f s' => ∃ k : Nat, k ≤ n ∧ z = n - k ∧ f.marks = [] ∧ f.get 0 = .slice al n cl ∧ f.get 1 = .slice ah n ch ∧ f.get 5 = .int .i64 n ∧ f.get 6 = .int .i64 i ∧ f.get 7 = .int .i64 j ∧ f.get 8 = .int .i64 k ∧ Keep s s' ∧ ∀ x, x < k → holdsB L H i j x = false) n ?_ ?_) ?_
          · exact ⟨0, by omega, rfl, by simp [hm], by simp [g0], by simp [g1], by simp [g5], by simp [g6], by simp [g7], by simp, hkp, fun x h => by omega⟩
          · clear hm g0 g1 g5 g6 g7 hkp f
            rintro z f s1 ⟨k, hk, rfl, hm, g0, g1, g5, g6, g7, g8, hkp, hz3⟩
            have hkpb := hkp.2
            have hkpa := hkp.1
            by_cases hlt3 : k < n
            · have hlt3' : (k : Int) < n := by omega
              apply zz
              refine Cd.ra (h := ?_)
              apply Run.by_eq
              · intro self
                conv => lhs; simp -implicitDefEqProofs (maxSteps := 300000) (disch := omega) [-getElem?_pos, -getElem?_neg, g8, g5, hlt3']
              try (with_reducible refine Run.ret ?_)
              apply zz
              apply Cd.ite rfl
              · conv => lhs; simp -implicitDefEqProofs (maxSteps := 300000) (disch := omega) [-getElem?_pos, -getElem?_neg]
              all_goals intro c5
              all_goals try (cases c5; done)
              all_goals try simp only [Bool.not_eq_true', Bool.not_eq_false', decide_eq_true_eq, decide_eq_false_iff_not] at c5
              all_goals apply zz
              apply zz
              refine Cd.ra (h := ?_)
              apply Run.by_eq
              · intro self
                conv => lhs; simp -implicitDefEqProofs (maxSteps := 300000) (disch := omega) [-getElem?_pos, -getElem?_neg, g0, g1, g6, g7, g8, vl, vh]
              try (with_reducible refine Run.ret ?_)
              apply zz
              refine Run.call ((hho i j k _ hkp hlt hlt2 hlt3).mono fun v wy hv => ?_)
              obtain ⟨rfl, y⟩ := hv
              have ya := y.1
              have yb := y.2
              try simp only [pushed_next', upded_next'] at ya yb
              cases hc : holdsB L H i j k with
              | true =>
                apply Run.by_eq
                · intro self
                  conv => lhs; simp -implicitDefEqProofs (maxSteps := 300000) (disch := omega) [-getElem?_pos, -getElem?_neg]
                try (with_reducible refine Run.ret ?_)
                apply zz
                apply Cd.ite rfl
                · conv => lhs; simp -implicitDefEqProofs (maxSteps := 300000) (disch := omega) [-getElem?_pos, -getElem?_neg]
                all_goals intro c6
                all_goals try (cases c6; done)
                all_goals try simp only [Bool.not_eq_true', Bool.not_eq_false', decide_eq_true_eq, decide_eq_false_iff_not] at c6
                all_goals apply zz
                apply zz
                refine Cd.ra (h := ?_)
                apply Run.by_eq
                · intro self
                  conv => lhs; simp -implicitDefEqProofs (maxSteps := 300000) (disch := omega) [-getElem?_pos, -getElem?_neg, g6, g7, g8]
                try (with_reducible refine Run.ret ?_)
                apply zz
                exact .inl ⟨rfl, by simp [hm], ⟨by (try simp only [pushed_next', upded_next']); omega, fun i hi => by simp -implicitDefEqProofs (disch := omega) [yb, hkpb]⟩, i, j, k, hlt, hlt2, hlt3, hc, wy.next, by simp, by simp, by simp -implicitDefEqProofs (disch := omega)⟩
              | false =>
                apply Run.by_eq
                · intro self
                  conv => lhs; simp -implicitDefEqProofs (maxSteps := 300000) (disch := omega) [-getElem?_pos, -getElem?_neg]
                try (with_reducible refine Run.ret ?_)
                apply zz
                apply Cd.ite rfl
                · conv => lhs; simp -implicitDefEqProofs (maxSteps := 300000) (disch := omega) [-getElem?_pos, -getElem?_neg]
                all_goals intro c6
                all_goals try (cases c6; done)
                all_goals try simp only [Bool.not_eq_true', Bool.not_eq_false', decide_eq_true_eq, decide_eq_false_iff_not] at c6
                all_goals apply zz
                apply zz
                refine Cd.ra (h := ?_)
                apply Run.by_eq
                · intro self
                  conv => lhs; simp -implicitDefEqProofs (maxSteps := 300000) (disch := omega) [-getElem?_pos, -getElem?_neg, g8]
                try (with_reducible refine Run.ret ?_)
                apply zz
                refine LoopK.nm (n - (k + 1)) (by omega) ⟨k + 1, by omega, rfl, by simp [hm], by simp [g0], by simp [g1], by simp [g5], by simp [g6], by simp [g7], by simp, ⟨by (try simp only [pushed_next', upded_next']); omega, fun i hi => by simp -implicitDefEqProofs (disch := omega) [yb, hkpb]⟩, fun x hx => ?_⟩
                by_cases e : x = k
                · subst e; exact hc
                · exact hz3 x (by omega)
            · obtain rfl : k = n := by omega
              apply zz
              refine Cd.ra (h := ?_)
              apply Run.by_eq
              · intro self
                conv => lhs; simp -implicitDefEqProofs (maxSteps := 300000) (disch := omega) [-getElem?_pos, -getElem?_neg, g8, g5]
              try (with_reducible refine Run.ret ?_)
              apply zz
              apply Cd.ite rfl
              · conv => lhs; simp -implicitDefEqProofs (maxSteps := 300000) (disch := omega) [-getElem?_pos, -getElem?_neg]
              all_goals intro c5
              all_goals try (cases c5; done)
              all_goals try simp only [Bool.not_eq_true', Bool.not_eq_false', decide_eq_true_eq, decide_eq_false_iff_not] at c5
              all_goals apply zz
              exact .inr ⟨rfl, by simp [hm], by simp [g0], by simp [g1], by simp [g5], by simp [g6], by simp [g7], hkp, fun k hk => hz3 k hk⟩
          clear hm g0 g1 g5 g6 g7 hkp f
          rintro x f s1 (⟨rfl, hm, hkp, hT⟩ | ⟨rfl, hm, g0, g1, g5, g6, g7, hkp, hz3⟩)
          · exact .inl ⟨rfl, hm, hkp, hT⟩
          apply zz
          refine Cd.ra (h := ?_)
          apply Run.by_eq
          · intro self
            conv => lhs; simp -implicitDefEqProofs (maxSteps := 300000) (disch := omega) [-getElem?_pos, -getElem?_neg, g7]
          try (with_reducible refine Run.ret ?_)
          apply zz
          refine LoopK.nm (n - (j + 1)) (by omega) ⟨j + 1, by omega, rfl, by simp [hm], by simp [g0], by simp [g1], by simp [g5], by simp [g6], by simp, hkp, fun x k hx hk => ?_⟩
          by_cases e : x = j
          · subst e; exact hz3 k hk
          · exact hz2 x k (by omega) hk
        · obtain rfl : j = n := by omega
          apply zz
          refine Cd.ra (h := ?_)
          apply Run.by_eq
          · intro self
            conv => lhs; simp -implicitDefEqProofs (maxSteps := 300000) (disch := omega) [-getElem?_pos, -getElem?_neg, g7, g5]
          try (with_reducible refine Run.ret ?_)
          apply zz
          apply Cd.ite rfl
          · conv => lhs; simp -implicitDefEqProofs (maxSteps := 300000) (disch := omega) [-getElem?_pos, -getElem?_neg]
          all_goals intro c4
          all_goals try (cases c4; done)
          all_goals try simp only [Bool.not_eq_true', Bool.not_eq_false', decide_eq_true_eq, decide_eq_false_iff_not] at c4
          all_goals apply zz
          exact .inr ⟨rfl, by simp [hm], by simp [g0], by simp [g1], by simp [g5], by simp [g6], hkp, fun j k hj hk => hz2 j k hj hk⟩
      clear hm g0 g1 g5 g6 hkp f
      rintro x f s1 (⟨rfl, hm, hkp, hT⟩ | ⟨rfl, hm, g0, g1, g5, g6, hkp, hz2⟩)
      · exact .inl ⟨rfl, hm, hkp, hT⟩
      apply zz
      refine Cd.ra (h := ?_)
      apply Run.by_eq
      · intro self
        conv => lhs; simp -implicitDefEqProofs (maxSteps := 300000) (disch := omega) [-getElem?_pos, -getElem?_neg, g6]
      try (with_reducible refine Run.ret ?_)
      apply zz
      refine LoopK.nm (n - (i + 1)) (by omega) ⟨i + 1, by omega, rfl, by simp [hm], by simp [g0], by simp [g1], by simp [g5], by simp, hkp, fun x j k hx hj hk => ?_⟩
      by_cases e : x = i
      · subst e; exact hz2 j k hj hk
      · exact hz x j k (by omega) hj hk
    · obtain rfl : i = n := by omega
      apply zz
      refine Cd.ra (h := ?_)
      apply Run.by_eq
      · intro self
        conv => lhs; simp -implicitDefEqProofs (maxSteps := 300000) (disch := omega) [-getElem?_pos, -getElem?_neg, g6, g5]
      try (with_reducible refine Run.ret ?_)
      apply zz
      apply Cd.ite rfl
      · conv => lhs; simp -implicitDefEqProofs (maxSteps := 300000) (disch := omega) [-getElem?_pos, -getElem?_neg]
      all_goals intro c3
      all_goals try (cases c3; done)
      all_goals try simp only [Bool.not_eq_true', Bool.not_eq_false', decide_eq_true_eq, decide_eq_false_iff_not] at c3
      all_goals apply zz
      exact .inr ⟨rfl, by simp [hm], hkp, fun i j k hi hj hk => hz i j k hi hj hk⟩
  rintro x f s1 (⟨rfl, hm, hkp, hT⟩ | ⟨rfl, hm, hkp, hz⟩)
  · apply zz
    apply Leave.mk (by first | exact .inl rfl | exact .inr rfl) (by simpa using hm)
    · conv => lhs; simp -implicitDefEqProofs (disch := omega) [Try.results46]
    exact ⟨hkp, .inr hT⟩
  apply zz
  refine Cd.ra (h := ?_)
  apply Run.by_eq
  · intro self
    conv => lhs; simp -implicitDefEqProofs (maxSteps := 300000) (disch := omega) [-getElem?_pos, -getElem?_neg]
  try (with_reducible refine Run.ret ?_)
  apply zz
  apply Leave.mk (by first | exact .inl rfl | exact .inr rfl) (by simp only [Fr.marks_put, fr0_marks, hm])
  · conv => lhs; simp -implicitDefEqProofs (disch := omega) [Try.results46, hm]
  exact ⟨hkp, .inl ⟨rfl, hz⟩⟩
end Go.Proofs.Ytnhokodcmeekhaa
namespace Go.Proofs.Ytnhokodcmeekhaa
open Go Kern
/-! The reference's Clash -/
/-- What Clash answers: weeks and an error. -/
def ClashA (e0 : Int) (n : Nat) (C : Nat → Nat → Nat → Bool) (w : Value) (e : Int) (s : St) : Prop :=
  (e0 ≠ 0 ∧ e = e0 ∧ w = .slice none 0 0) ∨ (e0 = 0 ∧ e = 5 ∧ w = .slice none 0 0 ∧ ∀ i j k, i < n → j < n → k < n → C i j k = false) ∨ (e0 = 0 ∧ e = 0 ∧ Trip n C w s)
set_option maxRecDepth 100000 in
set_option maxHeartbeats 4000000 in
theorem refClash_ev (n lo hi : Int) (v : Value) (ss : List SampD) (s : St) (hs : SmAt s v ss) (hl : ss.length ≤ 1000000) : Ev TT 21 [fieldV n lo hi v] s fun r s' => Keep s s' ∧ ∃ w e, r = .tuple #[w, .int .i64 e] ∧ ClashA (fieldErr n lo hi ss) n.toNat (holdsB (fun w => (endN lo hi ss w).1) (fun w => (endN lo hi ss w).2)) w e s' := by
  have hck := refCheck_ev n lo hi v ss
  have hbo := fun (m : Nat) (e : n = m) (s : St) (h : SmAt s v ss) hc => ends_ev m lo hi v ss s h hc
  obtain ⟨a, c, rfl⟩ := hs.shape
  rw [List.length_map] at hs hck hbo ⊢
  unfold fieldV at hck hbo ⊢
  refine Ev.intro (fn := Try.f21) rfl (by kernel_rfl) rfl rfl ?_
  apply zz
  refine Cd.ra (h := ?_)
  apply Run.by_eq
  · intro self
    conv => lhs; simp -implicitDefEqProofs (maxSteps := 300000) (disch := omega) [-getElem?_pos, -getElem?_neg]
  try (with_reducible refine Run.ret ?_)
  apply zz
  refine Cd.ra (h := ?_)
  apply Run.by_eq
  · intro self
    conv => lhs; simp -implicitDefEqProofs (maxSteps := 300000) (disch := omega) [-getElem?_pos, -getElem?_neg]
  try (with_reducible refine Run.ret ?_)
  apply zz
  refine Run.call ((hck _ (hs.keep ⟨by (try simp only [pushed_next', upded_next']); omega, fun i hi => by simp -implicitDefEqProofs (disch := omega) []⟩) hl).mono fun v wy hv => ?_)
  obtain ⟨rfl, y⟩ := hv
  have ya := y.1
  have yb := y.2
  try simp only [pushed_next', upded_next'] at ya yb
  apply Run.by_eq
  · intro self
    conv => lhs; simp -implicitDefEqProofs (maxSteps := 300000) (disch := omega) [-getElem?_pos, -getElem?_neg, yb]
  try (with_reducible refine Run.ret ?_)
  apply zz
  by_cases h1 : fieldErr n lo hi ss = 0
  case neg =>
    apply zz
    refine Cd.ra (h := ?_)
    apply Run.by_eq
    · intro self
      conv => lhs; simp -implicitDefEqProofs (maxSteps := 300000) (disch := omega) [-getElem?_pos, -getElem?_neg, h1]
    try (with_reducible refine Run.ret ?_)
    apply zz
    apply Cd.ite rfl
    · conv => lhs; simp -implicitDefEqProofs (maxSteps := 300000) (disch := omega) [-getElem?_pos, -getElem?_neg]
    all_goals intro c0
    all_goals try (cases c0; done)
    all_goals try simp only [Bool.not_eq_true', Bool.not_eq_false', decide_eq_true_eq, decide_eq_false_iff_not] at c0
    all_goals apply zz
    apply zz
    refine Cd.ra (h := ?_)
    apply Run.by_eq
    · intro self
      conv => lhs; simp -implicitDefEqProofs (maxSteps := 300000) (disch := omega) [-getElem?_pos, -getElem?_neg]
    try (with_reducible refine Run.ret ?_)
    apply zz
    apply Leave.mk (by first | exact .inl rfl | exact .inr rfl) (by simp only [Fr.marks_put, fr0_marks])
    · conv => lhs; simp -implicitDefEqProofs (disch := omega) [Try.results21]
    exact ⟨⟨by (try simp only [pushed_next', upded_next']); omega, fun i hi => by simp -implicitDefEqProofs (disch := omega) [yb]⟩, _, _, rfl, .inl ⟨h1, rfl, rfl⟩⟩
  apply zz
  refine Cd.ra (h := ?_)
  apply Run.by_eq
  · intro self
    conv => lhs; simp -implicitDefEqProofs (maxSteps := 300000) (disch := omega) [-getElem?_pos, -getElem?_neg, h1]
  try (with_reducible refine Run.ret ?_)
  apply zz
  apply Cd.ite rfl
  · conv => lhs; simp -implicitDefEqProofs (maxSteps := 300000) (disch := omega) [-getElem?_pos, -getElem?_neg]
  all_goals intro c0
  all_goals try (cases c0; done)
  all_goals try simp only [Bool.not_eq_true', Bool.not_eq_false', decide_eq_true_eq, decide_eq_false_iff_not] at c0
  all_goals apply zz
  obtain ⟨⟨hn1, hn30⟩, hr, _, hss⟩ := fieldErr_ok h1
  obtain ⟨m, rfl⟩ : ∃ m : Nat, n = m := ⟨n.toNat, by omega⟩
  have va : veq 4 (Value.slice a ss.length c) (Value.slice a ss.length c) = true := slAt_veq hs 3
  apply zz
  refine Cd.ra (h := ?_)
  apply Run.by_eq
  · intro self
    conv => lhs; simp -implicitDefEqProofs (maxSteps := 300000) (disch := omega) [-getElem?_pos, -getElem?_neg, yb, va]
  try (with_reducible refine Run.ret ?_)
  apply zz
  refine Run.call ((hbo m rfl _ (hs.keep ⟨by (try simp only [pushed_next', upded_next']); omega, fun i hi => by simp -implicitDefEqProofs (disch := omega) [yb]⟩) h1).mono fun v wz hv => ?_)
  obtain ⟨z, q1, q2, rfl, hq1, hq2⟩ := hv
  have za := z.1
  have zb := z.2
  have hE := fun w => endN_all h1 w
  obtain ⟨a1, c1', rfl⟩ := hq1.shape
  obtain ⟨a2, c2', rfl⟩ := hq2.shape
  rw [List.length_map, List.length_map, List.length_range] at hq1 hq2
  rw [List.length_map, List.length_map, List.length_map, List.length_map, List.length_range]
  have v1 := slAt_veq hq1 4
  have v2 := slAt_veq hq2 4
  apply Run.by_eq
  · intro self
    conv => lhs; simp -implicitDefEqProofs (maxSteps := 300000) (disch := omega) [-getElem?_pos, -getElem?_neg, zb, yb]
  try (with_reducible refine Run.ret ?_)
  apply zz
  refine Cd.ra (h := ?_)
  apply Run.by_eq
  · intro self
    conv => lhs; simp -implicitDefEqProofs (maxSteps := 300000) (disch := omega) [-getElem?_pos, -getElem?_neg, v1, v2]
  try (with_reducible refine Run.ret ?_)
  apply zz
  refine Run.call ((rclash_ev m _ _ _ _ _ hq1 hq2 (by omega) (fun w _ => (hE w).1) (fun w _ => (hE w).2)).mono fun v wu hv => ?_)
  obtain ⟨u, hu⟩ := hv
  have ua := u.1
  have ub := u.2
  rcases hu with ⟨rfl, hu⟩ | hT
  · apply Run.by_eq
    · intro self
      conv => lhs; simp -implicitDefEqProofs (maxSteps := 300000) (disch := omega) [-getElem?_pos, -getElem?_neg]
    try (with_reducible refine Run.ret ?_)
    apply zz
    refine Cd.ra (h := ?_)
    apply Run.by_eq
    · intro self
      conv => lhs; simp -implicitDefEqProofs (maxSteps := 300000) (disch := omega) [-getElem?_pos, -getElem?_neg]
    try (with_reducible refine Run.ret ?_)
    apply zz
    apply Cd.ite rfl
    · conv => lhs; simp -implicitDefEqProofs (maxSteps := 300000) (disch := omega) [-getElem?_pos, -getElem?_neg]
    all_goals intro c5
    all_goals try (cases c5; done)
    all_goals try simp only [Bool.not_eq_true', Bool.not_eq_false', decide_eq_true_eq, decide_eq_false_iff_not] at c5
    all_goals apply zz
    apply zz
    refine Cd.ra (h := ?_)
    apply Run.by_eq
    · intro self
      conv => lhs; simp -implicitDefEqProofs (maxSteps := 300000) (disch := omega) [-getElem?_pos, -getElem?_neg]
    try (with_reducible refine Run.ret ?_)
    apply zz
    apply Leave.mk (by first | exact .inl rfl | exact .inr rfl) (by simp only [Fr.marks_put, fr0_marks])
    · conv => lhs; simp -implicitDefEqProofs (disch := omega) [Try.results21]
    exact ⟨⟨by (try simp only [pushed_next', upded_next']); omega, fun i hi => by simp -implicitDefEqProofs (disch := omega) [ub, zb, yb]⟩, _, _, rfl, .inr (.inl ⟨h1, rfl, rfl, fun i j k => by rw [Int.toNat_natCast]; exact hu i j k⟩)⟩
  · have hT0 := hT
    obtain ⟨i, j, k, _, _, _, _, b, rfl, _⟩ := hT0
    apply Run.by_eq
    · intro self
      conv => lhs; simp -implicitDefEqProofs (maxSteps := 300000) (disch := omega) [-getElem?_pos, -getElem?_neg]
    try (with_reducible refine Run.ret ?_)
    apply zz
    refine Cd.ra (h := ?_)
    apply Run.by_eq
    · intro self
      conv => lhs; simp -implicitDefEqProofs (maxSteps := 300000) (disch := omega) [-getElem?_pos, -getElem?_neg]
    try (with_reducible refine Run.ret ?_)
    apply zz
    apply Cd.ite rfl
    · conv => lhs; simp -implicitDefEqProofs (maxSteps := 300000) (disch := omega) [-getElem?_pos, -getElem?_neg]
    all_goals intro c5
    all_goals try (cases c5; done)
    all_goals try simp only [Bool.not_eq_true', Bool.not_eq_false', decide_eq_true_eq, decide_eq_false_iff_not] at c5
    all_goals apply zz
    apply zz
    refine Cd.ra (h := ?_)
    apply Run.by_eq
    · intro self
      conv => lhs; simp -implicitDefEqProofs (maxSteps := 300000) (disch := omega) [-getElem?_pos, -getElem?_neg]
    try (with_reducible refine Run.ret ?_)
    apply zz
    apply Leave.mk (by first | exact .inl rfl | exact .inr rfl) (by simp only [Fr.marks_put, fr0_marks])
    · conv => lhs; simp -implicitDefEqProofs (disch := omega) [Try.results21]
    exact ⟨⟨by (try simp only [pushed_next', upded_next']); omega, fun i hi => by simp -implicitDefEqProofs (disch := omega) [ub, zb, yb]⟩, _, _, rfl, .inr (.inr ⟨h1, rfl, by rw [Int.toNat_natCast]; exact hT⟩)⟩
end Go.Proofs.Ytnhokodcmeekhaa
namespace Go.Proofs.Ytnhokodcmeekhaa
open Go Kern
/-! Many marks; the closure of across -/
theorem leave_many : ∀ (ms : List Nat) (s : St), ms.Nodup → (∀ m ∈ ms, s.heap.get m = some (.deferred true)) → ∃ s', leaveF ms s = some s' ∧ s'.next = s.next ∧ ∀ i, i ∉ ms → s'.heap.get i = s.heap.get i
  | [], s, _, _ => ⟨s, rfl, rfl, fun _ _ => rfl⟩
  | m :: ms, s, hn, h => by
    obtain ⟨hn1, hn2⟩ := List.nodup_cons.1 hn
    have hg := h m (.head _)
    obtain ⟨s', h1, h2, h3⟩ := leave_many ms (s.upded m .dead) hn2 fun x hx => by
      have hx2 := h x (.tail _ hx)
      have e : x ≠ m := fun e => hn1 (e ▸ hx)
      simp -implicitDefEqProofs [hx2, e]
    refine ⟨s', ?_, h2, fun i hi => ?_⟩
    · show ob (s.heap.get m) (fun o => gd (isLive o) (ob (s.upd m .dead) fun s => leaveF ms s)) = _
      rw [hg]
      show ob (gd (bt (romAt s.heap m) false true) _) _ = _
      rw [romAt_some hg]
      exact h1
    · have hi1 : i ≠ m := fun e => hi (e ▸ .head _)
      rw [h3 i fun h => hi (.tail _ h)]
      simp -implicitDefEqProofs [hi1]
theorem Leave.many {T : Tab} {rs : List ResultVar} {Q : Value → St → Prop} {e : Ex} {f : Fr} {s : St} (he : e = .normal ∨ e = .ret) (hn : f.marks.Nodup) (hm : ∀ m ∈ f.marks, s.heap.get m = some (.deferred true))
    (h : ∀ s', s'.next = s.next → (∀ i, i ∉ f.marks → s'.heap.get i = s.heap.get i) → ∃ vs, resF T f s' rs = some vs ∧ Q (tupled vs) s') : Leave T rs Q e f s := by
  obtain ⟨s', h1, h2, h3⟩ := leave_many f.marks s hn hm
  exact ⟨he, s', h1, h s' h2 h3⟩
set_option maxRecDepth 100000 in
set_option maxHeartbeats 4000000 in
theorem acrossOf_ev (BC : List Value) (n w : Nat) (L H : Nat → Frac) (s : St) (hB : BOk BC n L H) : Ev TT 69 [.agg BC.toArray, .int .i64 w] s fun r s' => r = .func (.func 84) #[] #[.pointer (some ⟨s.next + 1, 0, none⟩), .pointer (some ⟨s.next, 0, none⟩)] ∧ Keep s s' ∧ s.next + 1 < s'.next ∧ s'.heap.get s.next = some (.cells BC none) ∧ s'.heap.get (s.next + 1) = some (.cells [.int .i64 w] none) := by
  have h2 := hB.len
  have h3 := hB.ones
  refine Ev.intro (fn := Try.f69) rfl (by kernel_rfl) rfl rfl ?_
  apply zz
  refine Cd.ra (h := ?_)
  apply Run.by_eq
  · intro self
    conv => lhs; simp -implicitDefEqProofs (maxSteps := 300000) (disch := omega) [-getElem?_pos, -getElem?_neg, h2, h3]
  try (with_reducible refine Run.ret ?_)
  apply zz
  refine Cd.ra (h := ?_)
  apply Run.by_eq
  · intro self
    conv => lhs; simp -implicitDefEqProofs (maxSteps := 300000) (disch := omega) [-getElem?_pos, -getElem?_neg]
  try (with_reducible refine Run.ret ?_)
  apply zz
  apply Leave.mk (by first | exact .inl rfl | exact .inr rfl) (by simp only [Fr.marks_put, fr0_marks])
  · conv => lhs; simp -implicitDefEqProofs (disch := omega) [Try.results69]
  refine ⟨rfl, ⟨by (try simp only [pushed_next', upded_next']); omega, fun i hi => by simp -implicitDefEqProofs (disch := omega) []⟩, by simp, ?_, ?_⟩
  · simp -implicitDefEqProofs (disch := omega)
  · simp -implicitDefEqProofs (disch := omega)
end Go.Proofs.Ytnhokodcmeekhaa
namespace Go.Proofs.Ytnhokodcmeekhaa
open Go Kern
/-! The program's clash -/
theorem veq_yield (k l : Nat) : veq (k + 1) (.func (.yield l) #[] #[]) (.func (.yield l) #[] #[]) = true := by
  simp [veq]
def NoneIn (n : Nat) (C : Nat → Nat → Nat → Bool) (w : Nat) : Prop := C w w w = false ∧ ∀ i k, i < w → w < k → k < n → C i w k = false
def MarksOk (s : St) (f : Fr) (s1 : St) : Prop := f.marks.Nodup ∧ ∀ m ∈ f.marks, s.next + 1 < m ∧ m < s1.next ∧ s1.heap.get m = some (.deferred true)
def Found (n : Nat) (C : Nat → Nat → Nat → Bool) (s : St) (f : Fr) (s1 : St) : Prop :=
  MarksOk s f s1 ∧ f.get 2 = .pointer (some ⟨s.next + 1, 0, none⟩) ∧ Keep s s1 ∧ s.next + 1 < s1.next ∧ ∃ v, s1.heap.get (s.next + 1) = some (.cells [v] none) ∧ Trip n C v s1
set_option maxRecDepth 100000 in
set_option maxHeartbeats 4000000 in
theorem clash_ev (BC : List Value) (n : Nat) (L H : Nat → Frac) (s : St) (hB : BOk BC n L H) (hn : n ≤ 30) (hW : ∀ w, w < n → Whole (L w) ∧ Whole (H w)) :
    Ev TT 55 [.agg BC.toArray] s fun r s' => Keep s s' ∧ ((r = .slice none 0 0 ∧ ∀ w, w < n → NoneIn n (clashB L H) w) ∨ Trip n (clashB L H) r s') := by
  have h2 := hB.len
  have h3 := hB.ones
  have h1 := takeL_len h2
  have hS := hB.same
  have hwk : BC[0]? = some (.int .i64 n) := hB.wk
  refine Ev.intro (fn := Try.f55) rfl (by kernel_rfl) rfl rfl ?_
  apply zz
  refine Cd.ra (h := ?_)
  apply Run.by_eq
  · intro self
    conv => lhs; simp -implicitDefEqProofs (maxSteps := 300000) (disch := omega) [-getElem?_pos, -getElem?_neg, h2, h3]
  try (with_reducible refine Run.ret ?_)
  apply zz
  refine Cd.ra (h := ?_)
  apply Run.by_eq
  · intro self
    conv => lhs; simp -implicitDefEqProofs (maxSteps := 300000) (disch := omega) [-getElem?_pos, -getElem?_neg, hwk]
  try (with_reducible refine Run.ret ?_)
  apply zz
  refine Cd.mono (Q := fun x f1 s1 => (x = Ex.ret ∧ Found n (clashB L H) s f1 s1) ∨ (x = Ex.exit 0 ∧ MarksOk s f1 s1 ∧ f1.get 2 = .pointer (some ⟨s.next + 1, 0, none⟩) ∧ Keep s s1 ∧ s.next + 1 < s1.next ∧ s1.heap.get (s.next + 1) = some (.cells [.slice none 0 0] none) ∧ ∀ w, w < n → NoneIn n (clashB L H) w)) (Cd.inv (fun z f s' => ∃ w : Nat, w ≤ n ∧ z = n - w ∧ MarksOk s f s' ∧ f.get 1 = .pointer (some ⟨s.next, 0, none⟩) ∧ f.get 2 = .pointer (some ⟨s.next + 1, 0, none⟩) ∧ f.get 6 = .int .i64 n ∧ f.get 7 = .int .i64 w ∧ Keep s s' ∧ s.next + 1 < s'.next ∧ s'.heap.get s.next = some (.cells BC none) ∧ s'.heap.get (s.next + 1) = some (.cells [.slice none 0 0] none) ∧ ∀ x, x < w → NoneIn n (clashB L H) x) n ?_ ?_) ?_
  · refine ⟨0, by omega, rfl, ⟨by simp, fun m h => by simp at h⟩, by simp, by simp, by simp, by simp, ⟨by (try simp only [pushed_next', upded_next']); omega, fun i hi => by simp -implicitDefEqProofs (disch := omega) []⟩, by simp, ?_, ?_, fun x h => by omega⟩
    · simp -implicitDefEqProofs (disch := omega)
    · simp -implicitDefEqProofs (disch := omega)
  · rintro z f s1 ⟨w, hw, rfl, hM, g1, g2, g6, g7, hkp, hnx, hb0, hb1, hz⟩
    have hkpa := hkp.1
    have hkpb := hkp.2
    by_cases hlt : w < n
    · have hlt' : (w : Int) < n := by omega
      apply zz
      refine Cd.ra (h := ?_)
      apply Run.by_eq
      · intro self
        conv => lhs; simp -implicitDefEqProofs (maxSteps := 300000) (disch := omega) [-getElem?_pos, -getElem?_neg, g7, g6, hlt']
      try (with_reducible refine Run.ret ?_)
      apply zz
      apply Cd.ite rfl
      · conv => lhs; simp -implicitDefEqProofs (maxSteps := 300000) (disch := omega) [-getElem?_pos, -getElem?_neg]
      all_goals intro c3
      all_goals try (cases c3; done)
      all_goals try simp only [Bool.not_eq_true', Bool.not_eq_false', decide_eq_true_eq, decide_eq_false_iff_not] at c3
      all_goals apply zz
      apply zz
      refine Cd.ra (h := ?_)
      apply Run.by_eq
      · intro self
        conv => lhs; simp -implicitDefEqProofs (maxSteps := 300000) (disch := omega) [-getElem?_pos, -getElem?_neg, g7]
      try (with_reducible refine Run.ret ?_)
      apply zz
      refine Cd.ra (h := ?_)
      apply Run.by_eq
      · intro self
        conv => lhs; simp -implicitDefEqProofs (maxSteps := 300000) (disch := omega) [-getElem?_pos, -getElem?_neg, g1, hb0, h1, hS]
      try (with_reducible refine Run.ret ?_)
      apply zz
      refine Run.call ((clashIn_ev BC n L H w w w _ hB hn hlt hlt hlt hW).mono fun v wy hv => ?_)
      obtain ⟨rfl, y⟩ := hv
      have ya := y.1
      have yb := y.2
      try simp only [pushed_next', upded_next'] at ya yb
      have y0 : wy.heap.get s.next = some (.cells BC none) := by rw [yb s.next (by (try simp only [pushed_next', upded_next']); omega)]; simp -implicitDefEqProofs (disch := omega) [hb0]
      have y1 : wy.heap.get (s.next + 1) = some (.cells [.slice none 0 0] none) := by rw [yb (s.next + 1) (by (try simp only [pushed_next', upded_next']); omega)]; simp -implicitDefEqProofs (disch := omega) [hb1]
      have y3 : wy.heap.get s1.next = some (.cells [.int .i64 w] none) := by rw [yb s1.next (by (try simp only [pushed_next', upded_next']); omega)]; simp -implicitDefEqProofs (disch := omega)
      have yo : ∀ i, i < s1.next → wy.heap.get i = s1.heap.get i := fun i hi => by rw [yb i (by (try simp only [pushed_next', upded_next']); omega)]; simp -implicitDefEqProofs (disch := omega)
      (try simp only [pushed_next', upded_next'] at ya)
      cases hc : clashB L H w w w with
      | true =>
        apply Run.by_eq
        · intro self
          conv => lhs; simp -implicitDefEqProofs (maxSteps := 300000) (disch := omega) [-getElem?_pos, -getElem?_neg, y3]
        try (with_reducible refine Run.ret ?_)
        apply zz
        apply Cd.ite rfl
        · conv => lhs; simp -implicitDefEqProofs (maxSteps := 300000) (disch := omega) [-getElem?_pos, -getElem?_neg]
        all_goals intro c4
        all_goals try (cases c4; done)
        all_goals try simp only [Bool.not_eq_true', Bool.not_eq_false', decide_eq_true_eq, decide_eq_false_iff_not] at c4
        all_goals apply zz
        apply zz
        refine Cd.ra (h := ?_)
        apply Run.by_eq
        · intro self
          conv => lhs; simp -implicitDefEqProofs (maxSteps := 300000) (disch := omega) [-getElem?_pos, -getElem?_neg, y3, g2, y1]
        try (with_reducible refine Run.ret ?_)
        apply zz
        refine .inl ⟨rfl, ⟨by simpa using hM.1, fun m hm => ?_⟩, by simp [g2], ⟨by (try simp only [pushed_next', upded_next']); omega, fun i hi => by simp -implicitDefEqProofs (disch := omega) [yb, hkpb]⟩, by (try simp only [pushed_next', upded_next']); omega, .slice (some ⟨wy.next, 0, none⟩) 3 3, by simp -implicitDefEqProofs (disch := omega), w, w, w, hlt, hlt, hlt, hc, wy.next, rfl, by simp, by simp -implicitDefEqProofs (disch := omega)⟩
        obtain ⟨a1, a2, a3⟩ := hM.2 m (by simpa using hm)
        refine ⟨a1, by (try simp only [pushed_next', upded_next']); omega, ?_⟩
        simp -implicitDefEqProofs (disch := omega) [yo m a2, a3]
      | false =>
        apply Run.by_eq
        · intro self
          conv => lhs; simp -implicitDefEqProofs (maxSteps := 300000) (disch := omega) [-getElem?_pos, -getElem?_neg, y3]
        try (with_reducible refine Run.ret ?_)
        apply zz
        apply Cd.ite rfl
        · conv => lhs; simp -implicitDefEqProofs (maxSteps := 300000) (disch := omega) [-getElem?_pos, -getElem?_neg]
        all_goals intro c4
        all_goals try (cases c4; done)
        all_goals try simp only [Bool.not_eq_true', Bool.not_eq_false', decide_eq_true_eq, decide_eq_false_iff_not] at c4
        all_goals apply zz
        apply zz
        refine Cd.ra (h := ?_)
        apply Run.by_eq
        · intro self
          conv => lhs; simp -implicitDefEqProofs (maxSteps := 300000) (disch := omega) [-getElem?_pos, -getElem?_neg, g1, y0, h1, hS, y3]
        try (with_reducible refine Run.ret ?_)
        apply zz
        refine Run.call ((acrossOf_ev BC n w L H _ hB).mono fun v wu hv => ?_)
        obtain ⟨rfl, u, un, u0, u1⟩ := hv
        have ub := u.2
        have ua := u.1
        apply Run.by_eq
        · intro self
          conv => lhs; simp -implicitDefEqProofs (maxSteps := 300000) (disch := omega) [-getElem?_pos, -getElem?_neg]
        try (with_reducible refine Run.ret ?_)
        apply zz
        refine Cd.rangeJ (gi := 84) (first := #[]) (captured := #[.pointer (some ⟨wy.next + 1, 0, none⟩), .pointer (some ⟨wy.next, 0, none⟩)]) rfl (by simp) ?_
        generalize hR : ALoop.mk true none _ _ _ _ _ = R0
        show Ev TT 84 [.func (.yield (wu.next + 1)) #[] #[], .pointer (some ⟨wy.next + 1, 0, none⟩), .pointer (some ⟨wy.next, 0, none⟩)] _ _
        have x0 := (ub s.next (by omega)).trans y0
        have x1 := (ub (s.next + 1) (by omega)).trans y1
        have x3 := (ub s1.next (by omega)).trans y3
        refine (across_ev n w L H BC (.func (.yield (wu.next + 1)) #[] #[]) (wy.next + 1) wy.next _ (fun i => i = s.next + 1 ∨ i = wu.next + 1)
          (fun s2 => s2.heap.get (wu.next + 1) = some (.loop R0) ∧ s2.heap.get s.next = some (.cells BC none) ∧ s2.heap.get (s.next + 1) = some (.cells [.slice none 0 0] none) ∧ s2.heap.get s1.next = some (.cells [.int .i64 w] none) ∧ wu.next + 1 < s2.next)
          (fun i k => clashB L H i w k = false)
          (fun i k s2 => s2.heap.get (wu.next + 1) = some (.loop ⟨false, some .ret, R0.n, R0.tmps, R0.params, R0.assign, R0.body⟩) ∧ clashB L H i w k = true ∧ wu.next + 1 < s2.next ∧ ∃ b, s2.heap.get (s.next + 1) = some (.cells [.slice (some ⟨b, 0, none⟩) 3 3] none) ∧ b < s2.next ∧ s2.heap.get b = some (.cells [.int .i64 i, .int .i64 w, .int .i64 k] none) ∧ b ≠ wu.next + 1)
          hB hn hlt ?_ ?_ ?_ ?_ ?_ ?_ ?_ ?_ ?_ ?_ ?_).mono fun _ s2 hres => ?_
        · simp only [pushed_next']; omega
        · simp only [pushed_next']; omega
        · simp -implicitDefEqProofs (disch := omega) [u1]
        · simp -implicitDefEqProofs (disch := omega) [u0]
        · rintro i (rfl | rfl) <;> simp only [pushed_next'] <;> omega
        · rintro (h | h) <;> omega
        · rintro (h | h) <;> omega
        · exact veq_yield _ _
        · refine ⟨?_, ?_, ?_, ?_, ?_⟩
          · simp -implicitDefEqProofs (disch := omega)
          · simp -implicitDefEqProofs (disch := omega) [x0]
          · simp -implicitDefEqProofs (disch := omega) [x1]
          · simp -implicitDefEqProofs (disch := omega) [x3]
          · simp
        · rintro sa sb ⟨j0, j1, j2, j3, j4⟩ hn1 hsame
          simp only [pushed_next'] at hsame
          exact ⟨(hsame _ (by omega)).trans j0, (hsame _ (by omega)).trans j1, (hsame _ (by omega)).trans j2, (hsame _ (by omega)).trans j3, by omega⟩
        · rintro i k sa hi hk hkn ⟨j0, j1, j2, j3, j4⟩ hsn hbx
          simp only [pushed_next'] at hsn
          show Evn TT (fun self => exRound self (wu.next + 1) _ sa) _
          subst hR
          refine Evn.roundJ j0 rfl ?_
          show Cd TT true _ _ ((Fr.mk _ []).put (some 22) _) _ _
          dsimp only
          apply zz
          refine Cd.ra (h := ?_)
          apply Run.by_eq
          · intro self
            conv => lhs; simp -implicitDefEqProofs (maxSteps := 300000) (disch := omega) [-getElem?_pos, -getElem?_neg, Fr.get_mk]
          try (with_reducible refine Run.ret ?_)
          apply zz
          have jl : ∀ (c d : AObj), ((sa.pushed c).upded sa.next d).heap.get (wu.next + 1) = sa.heap.get (wu.next + 1) := fun c d => by simp -implicitDefEqProofs (disch := omega)
          refine ⟨rfl, _, (jl _ _).trans j0, rfl, rfl, ?_⟩
          dsimp only
          generalize hLf : ALoop.mk false none _ _ _ _ _ = Lf
          apply zz
          refine Cd.ra (h := ?_)
          apply Run.by_eq
          · intro self
            conv => lhs; simp -implicitDefEqProofs (maxSteps := 300000) (disch := omega) [-getElem?_pos, -getElem?_neg, Fr.get_mk, g1, j1, j3, h1, hS]
          try (with_reducible refine Run.ret ?_)
          apply zz
          refine Run.call ((clashIn_ev BC n L H i w k _ hB hn (by omega) hlt hkn hW).mono fun v wp hv => ?_)
          obtain ⟨rfl, p⟩ := hv
          have pa := p.1
          have pb := p.2
          try simp only [pushed_next', upded_next'] at pa pb
          (try simp only [pushed_next', upded_next'] at pa)
          have hlp : wp.heap.get (wu.next + 1) = some (.loop Lf) := by rw [pb _ (by (try simp only [pushed_next', upded_next']); omega)]; simp -implicitDefEqProofs (disch := omega)
          have p0 : wp.heap.get s.next = some (.cells BC none) := by rw [pb _ (by (try simp only [pushed_next', upded_next']); omega)]; simp -implicitDefEqProofs (disch := omega) [j1]
          have p1 : wp.heap.get (s.next + 1) = some (.cells [.slice none 0 0] none) := by rw [pb _ (by (try simp only [pushed_next', upded_next']); omega)]; simp -implicitDefEqProofs (disch := omega) [j2]
          have p3 : wp.heap.get s1.next = some (.cells [.int .i64 w] none) := by rw [pb _ (by (try simp only [pushed_next', upded_next']); omega)]; simp -implicitDefEqProofs (disch := omega) [j3]
          have p4 : wp.heap.get sa.next = some (.cells [.int .i64 i, .int .i64 (L i).o, .int .i64 (L i).u, .int .i64 k, .int .i64 (L k).o, .int .i64 (L k).u] none) := by rw [pb _ (by (try simp only [pushed_next', upded_next']); omega)]; simp -implicitDefEqProofs (disch := omega)
          have po : ∀ z, z < sa.next → z ≠ wu.next + 1 → wp.heap.get z = sa.heap.get z := fun z h1 h2 => by rw [pb _ (by (try simp only [pushed_next', upded_next']); omega)]; simp -implicitDefEqProofs (disch := omega)
          cases hck : clashB L H i w k with
          | false =>
            apply Run.by_eq
            · intro self
              conv => lhs; simp -implicitDefEqProofs (maxSteps := 300000) (disch := omega) [-getElem?_pos, -getElem?_neg, p0, p3, p4, h1, hS]
            try (with_reducible refine Run.ret ?_)
            apply zz
            apply Cd.ite rfl
            · conv => lhs; simp -implicitDefEqProofs (maxSteps := 300000) (disch := omega) [-getElem?_pos, -getElem?_neg]
            all_goals intro d0
            all_goals try (cases d0; done)
            all_goals try simp only [Bool.not_eq_true', Bool.not_eq_false', decide_eq_true_eq, decide_eq_false_iff_not] at d0
            all_goals apply zz
            refine ⟨Lf, hlp, .inl ⟨rfl, rfl, ?_, ?_, ?_, ?_, ?_⟩, ?_, fun z hz hX => ?_⟩
            · rw [get_upded_same]; subst hLf; rfl
            · simp -implicitDefEqProofs (disch := omega) [p0]
            · simp -implicitDefEqProofs (disch := omega) [p1]
            · simp -implicitDefEqProofs (disch := omega) [p3]
            · simp only [upded_next']; omega
            · simp only [upded_next']; omega
            · have x4 : z ≠ wu.next + 1 := fun e => hX (.inr e)
              simp -implicitDefEqProofs (disch := omega) [po]
          | true =>
            apply Run.by_eq
            · intro self
              conv => lhs; simp -implicitDefEqProofs (maxSteps := 300000) (disch := omega) [-getElem?_pos, -getElem?_neg, p0, p3, p4, h1, hS]
            try (with_reducible refine Run.ret ?_)
            apply zz
            apply Cd.ite rfl
            · conv => lhs; simp -implicitDefEqProofs (maxSteps := 300000) (disch := omega) [-getElem?_pos, -getElem?_neg]
            all_goals intro d0
            all_goals try (cases d0; done)
            all_goals try simp only [Bool.not_eq_true', Bool.not_eq_false', decide_eq_true_eq, decide_eq_false_iff_not] at d0
            all_goals apply zz
            apply zz
            refine Cd.ra (h := ?_)
            apply Run.by_eq
            · intro self
              conv => lhs; simp -implicitDefEqProofs (maxSteps := 300000) (disch := omega) [-getElem?_pos, -getElem?_neg, Fr.get_mk, p3, p4, p1, g2]
            try (with_reducible refine Run.ret ?_)
            apply zz
            refine ⟨Lf, ?_, .inr ⟨rfl, ?_, rfl, ?_, wp.next, ?_, ?_, ?_, ?_⟩, ?_, fun z hz hX => ?_⟩
            · simp -implicitDefEqProofs (disch := omega) [hlp]
            · rw [get_upded_same]; subst hLf; rfl
            · (try simp only [pushed_next', upded_next']); omega
            · simp -implicitDefEqProofs (disch := omega)
            · (try simp only [pushed_next', upded_next']); omega
            · simp -implicitDefEqProofs (disch := omega)
            · omega
            · (try simp only [pushed_next', upded_next']); omega
            · have x4 : z ≠ wu.next + 1 := fun e => hX (.inr e)
              have x5 : z ≠ s.next + 1 := fun e => hX (.inl e)
              simp -implicitDefEqProofs (disch := omega) [po]
        obtain ⟨hJB, r2, r3⟩ := hres
        simp only [pushed_next'] at r2 r3
        have hold : ∀ i, i < wu.next → i ≠ s.next + 1 → s2.heap.get i = wu.heap.get i := fun i hi hi2 => by
          rw [r3 i (by omega) (by omega)]
          simp -implicitDefEqProofs (disch := omega)
        have hdef : s2.heap.get wu.next = some (.deferred true) := by
          rw [r3 _ (by omega) (by omega)]
          simp -implicitDefEqProofs (disch := omega)
        have hmk : ∀ m ∈ f.marks, s.next + 1 < m ∧ m < s1.next ∧ s2.heap.get m = some (.deferred true) := fun m hm => by
          obtain ⟨a1, a2, a3⟩ := hM.2 m hm
          exact ⟨a1, a2, by rw [hold m (by omega) (by omega), ub m (by omega), yo m a2]; exact a3⟩
        have hks : Keep s s2 := ⟨by omega, fun i hi => by rw [hold i (by omega) (by omega), ub i (by omega), yo i (by omega)]; exact hkpb i hi⟩
        have hnd : (wu.next :: f.marks).Nodup := List.nodup_cons.2 ⟨fun h => by have := (hmk _ h).2.1; omega, hM.1⟩
        have hmk2 : ∀ m ∈ wu.next :: f.marks, s.next + 1 < m ∧ m < wu.next + 1 ∧ s2.heap.get m = some (.deferred true) := fun m hm => by
          cases hm with
          | head => exact ⟨by omega, by omega, hdef⟩
          | tail _ hm => obtain ⟨a1, a2, a3⟩ := hmk m hm; exact ⟨a1, by omega, a3⟩
        rcases hJB with ⟨hnc, j0, j1, j2, j3, j4⟩ | ⟨i, k, hi, hk, hkn, b0, hc2, b1, b, b2, b3, b4, b5⟩
        · refine ⟨R0, j0, .inl ⟨by rw [← hR], by rw [← hR], ?_⟩⟩
          apply zz
          refine Cd.ra (h := ?_)
          apply Run.by_eq
          · intro self
            conv => lhs; simp -implicitDefEqProofs (maxSteps := 300000) (disch := omega) [-getElem?_pos, -getElem?_neg, Fr.get_mk, g7]
          try (with_reducible refine Run.ret ?_)
          apply zz
          refine LoopK.nm (n - (w + 1)) (by omega) ⟨w + 1, by omega, rfl, ⟨by simpa [Fr.marks_put] using hnd, fun m hm => ?_⟩, by simp [Fr.get_mk, g1], by simp [Fr.get_mk, g2], by simp [Fr.get_mk, g6], by simp, ⟨by (try simp only [upded_next']); omega, fun i hi => by simp -implicitDefEqProofs (disch := omega) [hks.2]⟩, by (try simp only [upded_next']); omega, by simp -implicitDefEqProofs (disch := omega) [j1], by simp -implicitDefEqProofs (disch := omega) [j2], fun x hx => ?_⟩
          · obtain ⟨a1, a2, a3⟩ := hmk2 m (by simpa [Fr.marks_put] using hm)
            exact ⟨a1, by (try simp only [upded_next']); omega, by simp -implicitDefEqProofs (disch := omega) [a3]⟩
          · by_cases e : x = w
            · subst e; exact ⟨hc, hnc⟩
            · exact hz x (by omega)
        · refine ⟨_, b0, .inr (.inl ⟨rfl, ?_⟩)⟩
          refine .inl ⟨rfl, ⟨by simpa [Fr.marks_put] using hnd, fun m hm => ?_⟩, by simp [Fr.get_mk, g2], ⟨by (try simp only [upded_next']); omega, fun i hi => by simp -implicitDefEqProofs (disch := omega) [hks.2]⟩, by (try simp only [upded_next']); omega, _, by simp -implicitDefEqProofs (disch := omega) [b2], i, w, k, by omega, hlt, hkn, hc2, b, rfl, by (try simp only [upded_next']); omega, by simp -implicitDefEqProofs (disch := omega) [b4]⟩
          obtain ⟨a1, a2, a3⟩ := hmk2 m (by simpa [Fr.marks_put] using hm)
          exact ⟨a1, by (try simp only [upded_next']); omega, by simp -implicitDefEqProofs (disch := omega) [a3]⟩
    · obtain rfl : w = n := by omega
      apply zz
      refine Cd.ra (h := ?_)
      apply Run.by_eq
      · intro self
        conv => lhs; simp -implicitDefEqProofs (maxSteps := 300000) (disch := omega) [-getElem?_pos, -getElem?_neg, g7, g6]
      try (with_reducible refine Run.ret ?_)
      apply zz
      apply Cd.ite rfl
      · conv => lhs; simp -implicitDefEqProofs (maxSteps := 300000) (disch := omega) [-getElem?_pos, -getElem?_neg]
      all_goals intro c3
      all_goals try (cases c3; done)
      all_goals try simp only [Bool.not_eq_true', Bool.not_eq_false', decide_eq_true_eq, decide_eq_false_iff_not] at c3
      all_goals apply zz
      exact .inr ⟨rfl, hM, by simp [g2], hkp, hnx, hb1, hz⟩
  rintro x f s1 (⟨rfl, hM, g2, hkp, hnx, v, hv, hT⟩ | ⟨rfl, hM, g2, hkp, hnx, hv, hz⟩)
  · apply zz
    refine Leave.many (.inr rfl) hM.1 (fun m hm => (hM.2 m hm).2.2) fun s' e1 e2 => ?_
    have hr : s'.heap.get (s.next + 1) = _ := (e2 _ fun h => by have := (hM.2 _ h).1; omega).trans hv
    refine ⟨[v], ?_, ⟨by omega, fun i hi => (e2 i fun h => by have := (hM.2 _ h).1; omega).trans (hkp.2 i hi)⟩, .inr ?_⟩
    · conv => lhs; simp -implicitDefEqProofs (disch := omega) [Try.results55, g2, hr]
    · obtain ⟨i, j, k, t1, t2, t3, t4, b, rfl, t5, t6⟩ := hT
      refine ⟨i, j, k, t1, t2, t3, t4, b, rfl, by omega, (e2 b fun h => ?_).trans t6⟩
      have := (hM.2 _ h).2.2
      rw [t6] at this; cases this
  apply zz
  refine Cd.ra (h := ?_)
  apply Run.by_eq
  · intro self
    conv => lhs; simp -implicitDefEqProofs (maxSteps := 300000) (disch := omega) [-getElem?_pos, -getElem?_neg, g2, hv]
  try (with_reducible refine Run.ret ?_)
  apply zz
  refine Leave.many (.inr rfl) (by simpa [Fr.marks_put] using hM.1) (fun m hm => ?_) fun s' e1 e2 => ?_
  · obtain ⟨a1, a2, a3⟩ := hM.2 m (by simpa [Fr.marks_put] using hm)
    simp -implicitDefEqProofs (disch := omega) [a3]
  have hnm : ∀ i, i ≤ s.next + 1 → i ∉ (f.marks) := fun i hi h => by have := (hM.2 _ h).1; omega
  have hr : s'.heap.get (s.next + 1) = some (.cells [.slice none 0 0] none) := by
    rw [e2 _ (by simpa [Fr.marks_put] using hnm _ (by omega))]
    simp -implicitDefEqProofs (disch := omega)
  refine ⟨[.slice none 0 0], ?_, ⟨by (try simp only [upded_next'] at e1); omega, fun i hi => ?_⟩, .inl ⟨rfl, hz⟩⟩
  · conv => lhs; simp -implicitDefEqProofs (disch := omega) [Try.results55, g2, hr]
  · rw [e2 i (by simpa [Fr.marks_put] using hnm i (by omega))]
    simp -implicitDefEqProofs (disch := omega) [hkp.2]
end Go.Proofs.Ytnhokodcmeekhaa
namespace Go.Proofs.Ytnhokodcmeekhaa
open Go Kern
/-! The program's Clash; both answers -/
theorem Trip.eq {n : Nat} {C D : Nat → Nat → Nat → Bool} {v : Value} {s : St} (h : Trip n C v s) (e : ∀ i j k, i < n → j < n → k < n → C i j k = D i j k) : Trip n D v s := by
  obtain ⟨i, j, k, h1, h2, h3, h4, h5⟩ := h
  exact ⟨i, j, k, h1, h2, h3, (e i j k h1 h2 h3) ▸ h4, h5⟩
theorem none_all {n : Nat} {L H : Nat → Frac} (h : ∀ w, w < n → NoneIn n (clashB L H) w) (i j k : Nat) (hi : i < n) (hj : j < n) (hk : k < n) : clashB L H i j k = false := by
  by_cases e : i = j ∧ j = k
  · obtain ⟨rfl, rfl⟩ := e
    exact (h i hi).1
  · by_cases h1 : i < j
    · by_cases h2 : j < k
      · exact (h j hj).2 i k h1 h2 hk
      · unfold clashB; rw [if_neg e, decide_eq_false h2, Bool.false_and, Bool.and_false]
    · unfold clashB; rw [if_neg e, decide_eq_false h1, Bool.false_and]
set_option maxRecDepth 100000 in
set_option maxHeartbeats 4000000 in
theorem clashTop_ev (n lo hi : Int) (v : Value) (ss : List SampD) (s : St) (hs : SmAt s v ss) (hl : ss.length ≤ 1000000) : Ev TT 20 [fieldV n lo hi v] s fun r s' => Keep s s' ∧ ∃ w e, r = .tuple #[w, .int .i64 e] ∧ ClashA (fieldErr n lo hi ss) n.toNat (holdsB (fun w => (endN lo hi ss w).1) (fun w => (endN lo hi ss w).2)) w e s' := by
  have hck := check_ev n lo hi v ss
  have hbo := fun (m : Nat) (e : n = m) (s : St) (h : SmAt s v ss) hc => boundsOf_ev m lo hi v ss s h hc
  obtain ⟨a, c, rfl⟩ := hs.shape
  rw [List.length_map] at hs hck hbo ⊢
  unfold fieldV at hck hbo ⊢
  refine Ev.intro (fn := Try.f20) rfl (by kernel_rfl) rfl rfl ?_
  apply zz
  refine Cd.ra (h := ?_)
  apply Run.by_eq
  · intro self
    conv => lhs; simp -implicitDefEqProofs (maxSteps := 300000) (disch := omega) [-getElem?_pos, -getElem?_neg]
  try (with_reducible refine Run.ret ?_)
  apply zz
  refine Cd.ra (h := ?_)
  apply Run.by_eq
  · intro self
    conv => lhs; simp -implicitDefEqProofs (maxSteps := 300000) (disch := omega) [-getElem?_pos, -getElem?_neg]
  try (with_reducible refine Run.ret ?_)
  apply zz
  refine Run.call ((hck _ (hs.keep ⟨by (try simp only [pushed_next', upded_next']); omega, fun i hi => by simp -implicitDefEqProofs (disch := omega) []⟩) hl).mono fun v wy hv => ?_)
  obtain ⟨rfl, y⟩ := hv
  have ya := y.1
  have yb := y.2
  try simp only [pushed_next', upded_next'] at ya yb
  apply Run.by_eq
  · intro self
    conv => lhs; simp -implicitDefEqProofs (maxSteps := 300000) (disch := omega) [-getElem?_pos, -getElem?_neg, yb]
  try (with_reducible refine Run.ret ?_)
  apply zz
  by_cases h1 : fieldErr n lo hi ss = 0
  case neg =>
    apply zz
    refine Cd.ra (h := ?_)
    apply Run.by_eq
    · intro self
      conv => lhs; simp -implicitDefEqProofs (maxSteps := 300000) (disch := omega) [-getElem?_pos, -getElem?_neg, h1]
    try (with_reducible refine Run.ret ?_)
    apply zz
    apply Cd.ite rfl
    · conv => lhs; simp -implicitDefEqProofs (maxSteps := 300000) (disch := omega) [-getElem?_pos, -getElem?_neg]
    all_goals intro c0
    all_goals try (cases c0; done)
    all_goals try simp only [Bool.not_eq_true', Bool.not_eq_false', decide_eq_true_eq, decide_eq_false_iff_not] at c0
    all_goals apply zz
    apply zz
    refine Cd.ra (h := ?_)
    apply Run.by_eq
    · intro self
      conv => lhs; simp -implicitDefEqProofs (maxSteps := 300000) (disch := omega) [-getElem?_pos, -getElem?_neg]
    try (with_reducible refine Run.ret ?_)
    apply zz
    apply Leave.mk (by first | exact .inl rfl | exact .inr rfl) (by simp only [Fr.marks_put, fr0_marks])
    · conv => lhs; simp -implicitDefEqProofs (disch := omega) [Try.results20]
    exact ⟨⟨by (try simp only [pushed_next', upded_next']); omega, fun i hi => by simp -implicitDefEqProofs (disch := omega) [yb]⟩, _, _, rfl, .inl ⟨h1, rfl, rfl⟩⟩
  apply zz
  refine Cd.ra (h := ?_)
  apply Run.by_eq
  · intro self
    conv => lhs; simp -implicitDefEqProofs (maxSteps := 300000) (disch := omega) [-getElem?_pos, -getElem?_neg, h1]
  try (with_reducible refine Run.ret ?_)
  apply zz
  apply Cd.ite rfl
  · conv => lhs; simp -implicitDefEqProofs (maxSteps := 300000) (disch := omega) [-getElem?_pos, -getElem?_neg]
  all_goals intro c0
  all_goals try (cases c0; done)
  all_goals try simp only [Bool.not_eq_true', Bool.not_eq_false', decide_eq_true_eq, decide_eq_false_iff_not] at c0
  all_goals apply zz
  obtain ⟨⟨hn1, hn30⟩, hr, _, hss⟩ := fieldErr_ok h1
  obtain ⟨m, rfl⟩ : ∃ m : Nat, n = m := ⟨n.toNat, by omega⟩
  have va : veq 4 (Value.slice a ss.length c) (Value.slice a ss.length c) = true := slAt_veq hs 3
  have hW := fun w hw => (List.take_length (l := ss) ▸ bnd_all (n := m) h1 ss.length w hw : _)
  have hEq : ∀ i j k, i < m → j < m → k < m → clashB (bndN m lo hi ss).1 (bndN m lo hi ss).2 i j k = holdsB (fun w => (endN lo hi ss w).1) (fun w => (endN lo hi ss w).2) i j k := fun i j k => clash_holds (bnd_end h1)
  apply zz
  refine Cd.ra (h := ?_)
  apply Run.by_eq
  · intro self
    conv => lhs; simp -implicitDefEqProofs (maxSteps := 300000) (disch := omega) [-getElem?_pos, -getElem?_neg, yb, va]
  try (with_reducible refine Run.ret ?_)
  apply zz
  refine Run.call ((hbo m rfl _ (hs.keep ⟨by (try simp only [pushed_next', upded_next']); omega, fun i hi => by simp -implicitDefEqProofs (disch := omega) [yb]⟩) h1).mono fun v wz hv => ?_)
  obtain ⟨rfl, z⟩ := hv
  have za := z.1
  have zb := z.2
  try simp only [pushed_next', upded_next'] at za zb
  apply Run.by_eq
  · intro self
    conv => lhs; simp -implicitDefEqProofs (maxSteps := 300000) (disch := omega) [-getElem?_pos, -getElem?_neg, zb, yb]
  try (with_reducible refine Run.ret ?_)
  apply zz
  refine Run.call ((clash_ev _ m _ _ _ (bOk m (bndN m lo hi ss).1 (bndN m lo hi ss).2) (by omega) hW).mono fun v wu hv => ?_)
  obtain ⟨u, hu⟩ := hv
  have ua := u.1
  have ub := u.2
  rcases hu with ⟨rfl, hu⟩ | hT
  · apply Run.by_eq
    · intro self
      conv => lhs; simp -implicitDefEqProofs (maxSteps := 300000) (disch := omega) [-getElem?_pos, -getElem?_neg]
    try (with_reducible refine Run.ret ?_)
    apply zz
    refine Cd.ra (h := ?_)
    apply Run.by_eq
    · intro self
      conv => lhs; simp -implicitDefEqProofs (maxSteps := 300000) (disch := omega) [-getElem?_pos, -getElem?_neg]
    try (with_reducible refine Run.ret ?_)
    apply zz
    apply Cd.ite rfl
    · conv => lhs; simp -implicitDefEqProofs (maxSteps := 300000) (disch := omega) [-getElem?_pos, -getElem?_neg]
    all_goals intro c5
    all_goals try (cases c5; done)
    all_goals try simp only [Bool.not_eq_true', Bool.not_eq_false', decide_eq_true_eq, decide_eq_false_iff_not] at c5
    all_goals apply zz
    apply zz
    refine Cd.ra (h := ?_)
    apply Run.by_eq
    · intro self
      conv => lhs; simp -implicitDefEqProofs (maxSteps := 300000) (disch := omega) [-getElem?_pos, -getElem?_neg]
    try (with_reducible refine Run.ret ?_)
    apply zz
    apply Leave.mk (by first | exact .inl rfl | exact .inr rfl) (by simp only [Fr.marks_put, fr0_marks])
    · conv => lhs; simp -implicitDefEqProofs (disch := omega) [Try.results20]
    exact ⟨⟨by (try simp only [pushed_next', upded_next']); omega, fun i hi => by simp -implicitDefEqProofs (disch := omega) [ub, zb, yb]⟩, _, _, rfl, .inr (.inl ⟨h1, rfl, rfl, fun i j k hi hj hk => by rw [Int.toNat_natCast] at hi hj hk; rw [← hEq i j k hi hj hk]; exact none_all hu i j k hi hj hk⟩)⟩
  · have hT0 := hT
    obtain ⟨i, j, k, _, _, _, _, b, rfl, _⟩ := hT0
    apply Run.by_eq
    · intro self
      conv => lhs; simp -implicitDefEqProofs (maxSteps := 300000) (disch := omega) [-getElem?_pos, -getElem?_neg]
    try (with_reducible refine Run.ret ?_)
    apply zz
    refine Cd.ra (h := ?_)
    apply Run.by_eq
    · intro self
      conv => lhs; simp -implicitDefEqProofs (maxSteps := 300000) (disch := omega) [-getElem?_pos, -getElem?_neg]
    try (with_reducible refine Run.ret ?_)
    apply zz
    apply Cd.ite rfl
    · conv => lhs; simp -implicitDefEqProofs (maxSteps := 300000) (disch := omega) [-getElem?_pos, -getElem?_neg]
    all_goals intro c5
    all_goals try (cases c5; done)
    all_goals try simp only [Bool.not_eq_true', Bool.not_eq_false', decide_eq_true_eq, decide_eq_false_iff_not] at c5
    all_goals apply zz
    apply zz
    refine Cd.ra (h := ?_)
    apply Run.by_eq
    · intro self
      conv => lhs; simp -implicitDefEqProofs (maxSteps := 300000) (disch := omega) [-getElem?_pos, -getElem?_neg]
    try (with_reducible refine Run.ret ?_)
    apply zz
    apply Leave.mk (by first | exact .inl rfl | exact .inr rfl) (by simp only [Fr.marks_put, fr0_marks])
    · conv => lhs; simp -implicitDefEqProofs (disch := omega) [Try.results20]
    exact ⟨⟨by (try simp only [pushed_next', upded_next']); omega, fun i hi => by simp -implicitDefEqProofs (disch := omega) [ub, zb, yb]⟩, _, _, rfl, .inr (.inr ⟨h1, rfl, by rw [Int.toNat_natCast]; exact hT.eq hEq⟩)⟩
end Go.Proofs.Ytnhokodcmeekhaa
namespace Go.Proofs.Ytnhokodcmeekhaa
open Go Kern
/-! The law of clashes -/
theorem ClashA.both {e0 : Int} {n : Nat} {C : Nat → Nat → Nat → Bool} {w w' : Value} {e e' : Int} {s s' : St} (h : ClashA e0 n C w e s) (h' : ClashA e0 n C w' e' s') : e' = e ∧ ((e ≠ 0 ∧ w = .slice none 0 0) ∨ (e = 0 ∧ e0 = 0 ∧ Trip n C w s)) := by
  rcases h with ⟨h1, rfl, h3⟩ | ⟨h1, rfl, h3, h4⟩ | ⟨h1, rfl, h3⟩
  · rcases h' with ⟨_, rfl, _⟩ | ⟨k1, _⟩ | ⟨k1, _⟩
    · exact ⟨rfl, .inl ⟨h1, h3⟩⟩
    · exact absurd k1 h1
    · exact absurd k1 h1
  · rcases h' with ⟨k1, _⟩ | ⟨k1, rfl, _⟩ | ⟨k1, rfl, k3⟩
    · exact absurd h1 k1
    · exact ⟨rfl, .inl ⟨by decide, h3⟩⟩
    · obtain ⟨i, j, k, t1, t2, t3, t4, _⟩ := k3
      rw [h4 i j k t1 t2 t3] at t4; cases t4
  · rcases h' with ⟨k1, _⟩ | ⟨k1, rfl, _, k4⟩ | ⟨k1, rfl, k3⟩
    · exact absurd h1 k1
    · obtain ⟨i, j, k, t1, t2, t3, t4, _⟩ := h3
      rw [k4 i j k t1 t2 t3] at t4; cases t4
    · exact ⟨rfl, .inr ⟨rfl, h1, h3⟩⟩
theorem rverF_trip {n lo hi : Int} {ss : List SampD} {i j k : Nat} (h : fieldErr n lo hi ss = 0) (hi' : i < n.toNat) (hj : j < n.toNat) (hk : k < n.toNat) (hc : holdsB (fun w => (endN lo hi ss w).1) (fun w => (endN lo hi ss w).2) i j k = true) : rverF n lo hi ss [(i : Int), (j : Int), (k : Int)] = 0 := by
  unfold rverF verIn
  rw [if_pos h, if_pos (show [(i : Int), (j : Int), (k : Int)].length = 3 from rfl), if_pos (by simp [weekB]; omega)]
  simp only [List.getD_cons_zero, List.getD_cons_succ, Int.toNat_natCast]
  rw [if_pos hc]
set_option maxRecDepth 100000 in
set_option maxHeartbeats 4000000 in
theorem lawC_ev (n lo hi : Int) (v w : Value) (ss : List SampD) (ws : List Int) (s : St) (hs : SmAt s v ss) (hw : IntsAt s w ws) : Ev TT 4 [fieldV n lo hi v, w] s fun r _ => r = .bool true := by
  obtain ⟨aw, cw, rfl⟩ := hw.shape
  rw [List.length_map] at hw ⊢
  have hgi := given_ev n lo hi v ss
  have hcl := clashTop_ev n lo hi v ss
  have hve := fun s1 => verify_ev n lo hi v (.slice aw ws.length cw) ss ws s1
  obtain ⟨a, c, rfl⟩ := hs.shape
  rw [List.length_map] at hs hgi hcl hve ⊢
  unfold fieldV at hgi hcl hve ⊢
  refine Ev.intro (fn := Try.f4) rfl (by kernel_rfl) rfl rfl ?_
  apply zz
  refine Cd.ra (h := ?_)
  apply Run.by_eq
  · intro self
    conv => lhs; simp -implicitDefEqProofs (maxSteps := 300000) (disch := omega) [-getElem?_pos, -getElem?_neg]
  try (with_reducible refine Run.ret ?_)
  apply zz
  by_cases e2 : 200 < (ss.length : Int)
  · apply zz
    refine Cd.ra (h := ?_)
    apply Run.by_eq
    · intro self
      conv => lhs; simp -implicitDefEqProofs (maxSteps := 300000) (disch := omega) [-getElem?_pos, -getElem?_neg, e2]
    try (with_reducible refine Run.ret ?_)
    apply zz
    apply Cd.ite rfl
    · conv => lhs; simp -implicitDefEqProofs (maxSteps := 300000) (disch := omega) [-getElem?_pos, -getElem?_neg]
    all_goals intro c0
    all_goals try (cases c0; done)
    all_goals try simp only [Bool.not_eq_true', Bool.not_eq_false', decide_eq_true_eq, decide_eq_false_iff_not] at c0
    all_goals apply zz
    apply zz
    refine Cd.ra (h := ?_)
    apply Run.by_eq
    · intro self
      conv => lhs; simp -implicitDefEqProofs (maxSteps := 300000) (disch := omega) [-getElem?_pos, -getElem?_neg]
    try (with_reducible refine Run.ret ?_)
    apply zz
    refine Run.call (Ev.stub rfl ?_)
    apply Run.by_eq
    · intro self
      conv => lhs; simp -implicitDefEqProofs (maxSteps := 300000) (disch := omega) [-getElem?_pos, -getElem?_neg]
    try (with_reducible refine Run.ret ?_)
    apply zz
    apply Leave.mk (by first | exact .inl rfl | exact .inr rfl) (by simp only [Fr.marks_put, fr0_marks])
    · conv => lhs; simp -implicitDefEqProofs (disch := omega) [Try.results4]
    rfl
  by_cases e3 : 10 < (ws.length : Int)
  · apply zz
    refine Cd.ra (h := ?_)
    apply Run.by_eq
    · intro self
      conv => lhs; simp -implicitDefEqProofs (maxSteps := 300000) (disch := omega) [-getElem?_pos, -getElem?_neg, e2, e3]
    try (with_reducible refine Run.ret ?_)
    apply zz
    apply Cd.ite rfl
    · conv => lhs; simp -implicitDefEqProofs (maxSteps := 300000) (disch := omega) [-getElem?_pos, -getElem?_neg]
    all_goals intro c0
    all_goals try (cases c0; done)
    all_goals try simp only [Bool.not_eq_true', Bool.not_eq_false', decide_eq_true_eq, decide_eq_false_iff_not] at c0
    all_goals apply zz
    apply zz
    refine Cd.ra (h := ?_)
    apply Run.by_eq
    · intro self
      conv => lhs; simp -implicitDefEqProofs (maxSteps := 300000) (disch := omega) [-getElem?_pos, -getElem?_neg]
    try (with_reducible refine Run.ret ?_)
    apply zz
    refine Run.call (Ev.stub rfl ?_)
    apply Run.by_eq
    · intro self
      conv => lhs; simp -implicitDefEqProofs (maxSteps := 300000) (disch := omega) [-getElem?_pos, -getElem?_neg]
    try (with_reducible refine Run.ret ?_)
    apply zz
    apply Leave.mk (by first | exact .inl rfl | exact .inr rfl) (by simp only [Fr.marks_put, fr0_marks])
    · conv => lhs; simp -implicitDefEqProofs (disch := omega) [Try.results4]
    rfl
  apply zz
  refine Cd.ra (h := ?_)
  apply Run.by_eq
  · intro self
    conv => lhs; simp -implicitDefEqProofs (maxSteps := 300000) (disch := omega) [-getElem?_pos, -getElem?_neg, e2, e3]
  try (with_reducible refine Run.ret ?_)
  apply zz
  apply Cd.ite rfl
  · conv => lhs; simp -implicitDefEqProofs (maxSteps := 300000) (disch := omega) [-getElem?_pos, -getElem?_neg]
  all_goals intro c0
  all_goals try (cases c0; done)
  all_goals try simp only [Bool.not_eq_true', Bool.not_eq_false', decide_eq_true_eq, decide_eq_false_iff_not] at c0
  all_goals apply zz
  have hl : ss.length ≤ 1000 := by omega
  have va : veq 4 (Value.slice a ss.length c) (Value.slice a ss.length c) = true := slAt_veq hs 3
  apply zz
  refine Cd.ra (h := ?_)
  apply Run.by_eq
  · intro self
    conv => lhs; simp -implicitDefEqProofs (maxSteps := 300000) (disch := omega) [-getElem?_pos, -getElem?_neg, va]
  try (with_reducible refine Run.ret ?_)
  apply zz
  refine Run.call ((hgi _ (hs.keep ⟨by (try simp only [pushed_next', upded_next']); omega, fun i hi => by simp -implicitDefEqProofs (disch := omega) []⟩) hl).mono fun r2 wy hv => ?_)
  obtain ⟨y, q, rfl, hq⟩ := hv
  have yb := y.2
  have ya := y.1
  try simp only [pushed_next', upded_next'] at ya yb
  have y0 : wy.heap.get s.next = some (.cells [.int .i64 n, .int .i64 lo, .int .i64 hi, .slice a ss.length c] none) := by rw [yb _ (by (try simp only [pushed_next', upded_next']); omega)]; simp -implicitDefEqProofs (disch := omega)
  have hrc := refClash_ev n lo hi q ss
  have hrv := fun l cc xs s1 => refVerify_ev n lo hi q (.slice l xs.length cc) ss xs s1
  obtain ⟨a2, c2, rfl⟩ := hq.shape
  rw [List.length_map] at hq hrc hrv ⊢
  unfold fieldV at hrc hrv
  have vb : veq 4 (Value.slice a2 ss.length c2) (Value.slice a2 ss.length c2) = true := slAt_veq hq 3
  apply Run.by_eq
  · intro self
    conv => lhs; simp -implicitDefEqProofs (maxSteps := 300000) (disch := omega) [-getElem?_pos, -getElem?_neg, y0]
  try (with_reducible refine Run.ret ?_)
  apply zz
  refine Cd.ra (h := ?_)
  apply Run.by_eq
  · intro self
    conv => lhs; simp -implicitDefEqProofs (maxSteps := 300000) (disch := omega) [-getElem?_pos, -getElem?_neg, y0, va]
  try (with_reducible refine Run.ret ?_)
  apply zz
  refine Run.call ((hcl _ (hs.keep ⟨by (try simp only [pushed_next', upded_next']); omega, fun i hi => by simp -implicitDefEqProofs (disch := omega) [yb]⟩) (by omega)).mono fun r3 wz hv => ?_)
  obtain ⟨z, w1, e1, rfl, hA⟩ := hv
  have zb := z.2
  have za := z.1
  try simp only [pushed_next', upded_next'] at za zb
  apply Run.by_eq
  · intro self
    conv => lhs; simp -implicitDefEqProofs (maxSteps := 300000) (disch := omega) [-getElem?_pos, -getElem?_neg]
  try (with_reducible refine Run.ret ?_)
  apply zz
  have z0 : wz.heap.get s.next = some (.cells [.int .i64 n, .int .i64 lo, .int .i64 hi, .slice a ss.length c] none) := by rw [zb _ (by omega)]; simp -implicitDefEqProofs (disch := omega) [y0]
  have z1 : wz.heap.get wy.next = some (.cells [.int .i64 n, .int .i64 lo, .int .i64 hi, .slice a2 ss.length c2] none) := by rw [zb _ (by omega)]; simp -implicitDefEqProofs (disch := omega)
  have kyz : Keep wy wz := ⟨by omega, fun i hi => by rw [zb i (by omega)]; simp -implicitDefEqProofs (disch := omega)⟩
  have ksz : Keep s wz := ⟨by omega, fun i hi => by rw [kyz.2 i (by omega), yb i (by omega)]; simp -implicitDefEqProofs (disch := omega)⟩
  apply zz
  refine Cd.ra (h := ?_)
  apply Run.by_eq
  · intro self
    conv => lhs; simp -implicitDefEqProofs (maxSteps := 300000) (disch := omega) [-getElem?_pos, -getElem?_neg, z1, vb]
  try (with_reducible refine Run.ret ?_)
  apply zz
  refine Run.call ((hrc _ (hq.keep kyz) (by omega)).mono fun r4 wu hv => ?_)
  obtain ⟨u, w2, e2, rfl, hB⟩ := hv
  have ub := u.2
  have ua := u.1
  have u0 := (ub s.next (by omega)).trans z0
  have u1 := (ub wy.next (by omega)).trans z1
  obtain ⟨rfl, hres⟩ := hA.both hB
  have ksu : Keep s wu := ⟨by omega, fun i hi => by rw [ub i (by omega)]; exact ksz.2 i hi⟩
  have kyu : Keep wy wu := ⟨by omega, fun i hi => by rw [ub i (by omega)]; exact kyz.2 i hi⟩
  have vw := slAt_veq hw 4
  apply Run.by_eq
  · intro self
    conv => lhs; simp -implicitDefEqProofs (maxSteps := 300000) (disch := omega) [-getElem?_pos, -getElem?_neg]
  try (with_reducible refine Run.ret ?_)
  apply zz
  refine Cd.drawnH (pl := [(0, 0, false, false), (1, 0, false, false), (2, 3, false, false), (3, 7, false, false), (4, 15, false, false), (5, 15, false, false), (7, 15, false, false), (8, 15, false, false), (6, 63, true, false), (9, 511, true, false), (10, 1023, false, false), (11, 2047, false, false)]) [false, false, false, false, false, false, true, true, false, false, false, false] (by kernel_rfl) (by decide) (by decide) (by conv => lhs; simp only [List.map_cons, List.map_nil]) (by conv => lhs; simp [strip, orderedG, flagH]) ?_
  apply Run.by_eq
  · intro self
    conv => lhs; simp -implicitDefEqProofs (maxSteps := 300000) (disch := omega) [-getElem?_pos, -getElem?_neg, u0, u1, va, vb, vw]
  try (with_reducible refine Run.ret ?_)
  apply zz
  refine Run.call ((hve _ (hs.keep ksu) (by omega) (hw.keep ksu) (by omega)).mono fun v wp hv => ?_)
  obtain ⟨rfl, p⟩ := hv
  have pa := p.1
  have pb := p.2
  try simp only [pushed_next', upded_next'] at pa pb
  have p1 := (pb wy.next (by omega)).trans u1
  have kyp : Keep wy wp := ⟨by omega, fun i hi => by rw [pb i (by omega)]; exact kyu.2 i hi⟩
  have ksp : Keep s wp := ⟨by omega, fun i hi => by rw [pb i (by omega)]; exact ksu.2 i hi⟩
  apply Run.by_eq
  · intro self
    conv => lhs; simp -implicitDefEqProofs (maxSteps := 300000) (disch := omega) [-getElem?_pos, -getElem?_neg, p1, vb, vw]
  try (with_reducible refine Run.ret ?_)
  apply zz
  refine Run.call ((hrv aw cw ws _ (hq.keep kyp) (by omega) (hw.keep ksp) (by omega)).mono fun v wq hv => ?_)
  obtain ⟨rfl, q⟩ := hv
  have qa := q.1
  have qb := q.2
  try simp only [pushed_next', upded_next'] at qa qb
  have hvf := verF_eq n lo hi ss ws
  rw [hvf]
  have q1 := (qb wy.next (by omega)).trans p1
  have kyq : Keep wy wq := ⟨by omega, fun i hi => by rw [qb i (by omega)]; exact kyp.2 i hi⟩
  have ksq : Keep s wq := ⟨by omega, fun i hi => by rw [qb i (by omega)]; exact ksp.2 i hi⟩
  apply Run.by_eq
  · intro self
    conv => lhs; simp -implicitDefEqProofs (maxSteps := 300000) (disch := omega) [-getElem?_pos, -getElem?_neg, q1, vb, vw]
  try (with_reducible refine Run.ret ?_)
  apply zz
  apply Cd.ite rfl
  · conv => lhs; simp -implicitDefEqProofs (maxSteps := 300000) (disch := omega) [-getElem?_pos, -getElem?_neg]
  all_goals intro d0
  all_goals try (cases d0; done)
  all_goals try simp only [Bool.not_eq_true', Bool.not_eq_false', decide_eq_true_eq, decide_eq_false_iff_not] at d0
  all_goals apply zz
  rcases hres with ⟨hne, rfl⟩ | ⟨rfl, h1, hT⟩
  · apply zz
    refine Cd.ra (h := ?_)
    apply Run.by_eq
    · intro self
      conv => lhs; simp -implicitDefEqProofs (maxSteps := 300000) (disch := omega) [-getElem?_pos, -getElem?_neg, hne]
    try (with_reducible refine Run.ret ?_)
    apply zz
    apply Cd.ite rfl
    · conv => lhs; simp -implicitDefEqProofs (maxSteps := 300000) (disch := omega) [-getElem?_pos, -getElem?_neg]
    all_goals intro d1
    all_goals try (cases d1; done)
    all_goals try simp only [Bool.not_eq_true', Bool.not_eq_false', decide_eq_true_eq, decide_eq_false_iff_not] at d1
    all_goals apply zz
    apply zz
    refine Cd.ra (h := ?_)
    apply Run.by_eq
    · intro self
      conv => lhs; simp -implicitDefEqProofs (maxSteps := 300000) (disch := omega) [-getElem?_pos, -getElem?_neg]
    try (with_reducible refine Run.ret ?_)
    apply zz
    refine Run.call (Ev.stub rfl ?_)
    apply Run.by_eq
    · intro self
      conv => lhs; simp -implicitDefEqProofs (maxSteps := 300000) (disch := omega) [-getElem?_pos, -getElem?_neg]
    try (with_reducible refine Run.ret ?_)
    apply zz
    apply Leave.mk (by first | exact .inl rfl | exact .inr rfl) (by simp only [Fr.marks_put, fr0_marks])
    · conv => lhs; simp -implicitDefEqProofs (disch := omega) [Try.results4]
    rfl
  · apply zz
    refine Cd.ra (h := ?_)
    apply Run.by_eq
    · intro self
      conv => lhs; simp -implicitDefEqProofs (maxSteps := 300000) (disch := omega) [-getElem?_pos, -getElem?_neg]
    try (with_reducible refine Run.ret ?_)
    apply zz
    apply Cd.ite rfl
    · conv => lhs; simp -implicitDefEqProofs (maxSteps := 300000) (disch := omega) [-getElem?_pos, -getElem?_neg]
    all_goals intro d1
    all_goals try (cases d1; done)
    all_goals try simp only [Bool.not_eq_true', Bool.not_eq_false', decide_eq_true_eq, decide_eq_false_iff_not] at d1
    all_goals apply zz
    have hT0 := hT
    obtain ⟨i, j, k, t1, t2, t3, t4, hi3, _⟩ := hT.ints
    obtain ⟨_, _, _, _, _, _, _, b, rfl, _⟩ := hT0
    have kzq : Keep wz wq := ⟨by omega, fun i hi => by rw [qb i (by omega), pb i (by omega), ub i (by omega)]⟩
    have vt := slAt_veq hi3 4
    apply zz
    refine Cd.ra (h := ?_)
    apply Run.by_eq
    · intro self
      conv => lhs; simp -implicitDefEqProofs (maxSteps := 300000) (disch := omega) [-getElem?_pos, -getElem?_neg, q1, vb, vt]
    try (with_reducible refine Run.ret ?_)
    apply zz
    refine Run.call ((hrv (some ⟨b, 0, none⟩) 3 [(i : Int), (j : Int), (k : Int)] _ (hq.keep kyq) (by omega) (hi3.keep kzq) (by simp)).mono fun r5 wr hv => ?_)
    obtain ⟨rfl, r⟩ := hv
    rw [rverF_trip h1 t1 t2 t3 t4]
    apply Run.by_eq
    · intro self
      conv => lhs; simp -implicitDefEqProofs (maxSteps := 300000) (disch := omega) [-getElem?_pos, -getElem?_neg]
    try (with_reducible refine Run.ret ?_)
    apply zz
    refine Run.call (Ev.stub rfl ?_)
    apply Run.by_eq
    · intro self
      conv => lhs; simp -implicitDefEqProofs (maxSteps := 300000) (disch := omega) [-getElem?_pos, -getElem?_neg]
    try (with_reducible refine Run.ret ?_)
    apply zz
    apply Leave.mk (by first | exact .inl rfl | exact .inr rfl) (by simp only [Fr.marks_put, fr0_marks])
    · conv => lhs; simp -implicitDefEqProofs (disch := omega) [Try.results4]
    rfl
end Go.Proofs.Ytnhokodcmeekhaa
namespace Go.Proofs.Ytnhokodcmeekhaa
open Go RowKit
theorem fitsW : Kern.tabFits Try.prog = true := by kernel_rfl
theorem works_true : Kern.isTrue ((Kern.run (Kern.tabOf Try.prog) 30000).call 13 [] ⟨.leaf, 0⟩) = true := by kernel_rfl
theorem works_calls (w : World) : Calls Try.prog 13 #[] w fun e w' => e = .returned (.bool true) ∧ Below w.heap.size w w' :=
  Kern.calls_of_run (Kern.tabOf_ok fitsW) rfl (Kern.StubOk.none rfl) works_true w
end Go.Proofs.Ytnhokodcmeekhaa
namespace Go.Proofs.Ytnhokodcmeekhaa
open Go Kern RowKit
/-- A slice of the world whose elements are known, cell by cell. -/
def SlW (W : World) (n : Nat) (v : Value) (l : List (List Value)) : Prop :=
  (l = [] ∧ v = .slice none 0 0) ∨ ∃ (b off cap : Nat) (C : Array Value) (e : TypeId) (fr : Nat × Nat), v = .slice (some ⟨b, off, none⟩) l.length cap ∧ W.heap[b]? = some (.cells C e fr) ∧
    (l ≠ [] → off + l.flatten.length ≤ C.size ∧ (C.toList.drop off).take l.flatten.length = l.flatten)
theorem romAt_pushed {s : St} {o : AObj} {i : Nat} (h : i ≠ s.next) : romAt (s.pushed o).heap i = romAt s.heap i := by
  unfold romAt; rw [get_pushed_old _ _ _ h]
theorem WRel_rom {N : Nat} {σ : Ren} {s : St} {w : World} (hw : WRel N σ s w) {b sh : Nat} {c : List Value} {C : Array Value} {e : TypeId} {fr : Nat × Nat} (hb : w.heap[b]? = some (.cells C e fr)) (hN : b < N) (hs : sh + c.length ≤ C.size)
    (h : LRel σ c ((C.toList.drop sh).take c.length)) : WRel N (σ.add s.next b sh none) (s.pushed (.rom c)) w := by
  have hle := Ren.le_add (b := b) (sh := sh) (x := none) (hw.fresh (Nat.le_refl s.next))
  have hlt : b < w.heap.size := (Array.getElem?_eq_some_iff.1 hb).1
  refine ⟨hw.base, ?_, ?_, ?_, ?_⟩
  · intro i b' sh' x' hi
    by_cases ei : i = s.next
    · subst ei
      rw [Ren.add_same] at hi; cases hi
      have : romAt (s.pushed (.rom c)).heap s.next = true := by unfold romAt; rw [get_pushed_new]; rfl
      exact ⟨⟨fun k => (by rw [this] at k; cases k), fun _ => hN⟩, hlt⟩
    · rw [Ren.add_ne ei] at hi
      rw [romAt_pushed ei]
      exact hw.lt hi
  · intro i hi
    rw [Ren.add_ne (by have : s.next + 1 ≤ i := hi; omega)]
    exact hw.fresh (by have : s.next + 1 ≤ i := hi; omega)
  · intro i b' sh' x' o hi ho
    by_cases ei : i = s.next
    · subst ei
      rw [Ren.add_same] at hi; cases hi
      rw [get_pushed_new] at ho; cases ho
      exact ⟨_, hb, .rom rfl hs (h.mono hle)⟩
    · rw [Ren.add_ne ei] at hi
      rw [get_pushed_old _ _ _ ei] at ho
      obtain ⟨O, h1, h2⟩ := hw.real hi ho
      exact ⟨O, h1, h2.mono hle⟩
  · intro i j b' sh1 x1 sh2 x2 o1 o2 hi hj h1 h2 d1 d2 hr
    by_cases ei : i = s.next
    · subst ei
      rw [get_pushed_new] at h1; cases h1; cases hr
    · rw [Ren.add_ne ei] at hi
      rw [get_pushed_old _ _ _ ei] at h1
      by_cases ej : j = s.next
      · subst ej
        rw [Ren.add_same] at hj; cases hj
        have : romAt s.heap i = false := by unfold romAt; rw [h1]; exact hr
        exact absurd ((hw.lt hi).1.1 this) (by omega)
      · rw [Ren.add_ne ej] at hj
        rw [get_pushed_old _ _ _ ej] at h2
        exact hw.inj hi hj h1 h2 d1 d2 hr
/-- A slice of the world gets a read-only block of the calculation. -/
theorem attach {N : Nat} {σ : Ren} {s : St} {w : World} (hw : WRel N σ s w) (hN : N = w.heap.size) {n : Nat} {v : Value} {l : List (List Value)} (h : SlW w n v l) (hl : ∀ x ∈ l, x.length = n) (hc : l.flatten.all closed1 = true) :
    ∃ τ s' v', σ.le τ ∧ WRel N τ s' w ∧ VRel τ v' v ∧ SlAt n s' v' l ∧ Keep s s' := by
  rcases h with ⟨rfl, rfl⟩ | ⟨b, off, cap, C, e, fr, rfl, hb, hf⟩
  · exact ⟨σ, s, .slice none 0 0, σ.le_refl, hw, .sliceNil _ _, .nil 0, Keep.refl _⟩
  have hlt : b < w.heap.size := (Array.getElem?_eq_some_iff.1 hb).1
  by_cases he : l = []
  · subst he
    have hw2 := WRel_rom hw (sh := 0) (c := []) hb (by omega) (by simp) (by simpa using LRel.nil)
    refine ⟨_, _, .slice (some ⟨s.next, off, none⟩) 0 cap, Ren.le_add (hw.fresh (Nat.le_refl _)), hw2, ?_, ?_, (Keep.refl s).pushed _⟩
    · have := VRel.slice (σ := σ.add s.next b 0 none) (i := s.next) (o := off) (o' := off) (b := b) (s := 0) (l := 0) (c := cap) (c' := cap) (x := none) Ren.add_same ⟨rfl, rfl⟩
      rw [Nat.zero_add] at this
      exact this
    · exact SlAt.mk (l := []) (Nat.lt_succ_self _) (get_pushed_new _ _) rfl (fun i e h => by simp at h)
  · obtain ⟨h1, h2⟩ := hf he
    have hw2 := WRel_rom hw (sh := off) (c := l.flatten) hb (by omega) h1 (by rw [h2]; exact closedL_rel hc)
    refine ⟨_, _, .slice (some ⟨s.next, 0, none⟩) l.length cap, Ren.le_add (hw.fresh (Nat.le_refl _)), hw2, ?_, ?_, (Keep.refl s).pushed _⟩
    · exact VRel.slice (σ := σ.add s.next b off none) (i := s.next) (o := 0) (o' := 0) (b := b) (s := off) (l := l.length) (c := cap) (c' := cap) (x := none) Ren.add_same ⟨rfl, rfl⟩
    · exact SlAt.mk (Nat.lt_succ_self _) (get_pushed_new _ _) rfl (fun i e h => by rw [Nat.zero_add]; exact drop_flat hl h)
theorem stubOk : StubOk Try.prog TT :=
  ⟨fun {g} h => by cases h; exact ⟨Try.f13, by kernel_rfl, by kernel_rfl, rfl⟩, fun {g} h w => by cases h; exact works_calls w⟩
/-- What the calculation finds true holds of the call in the world. -/
theorem calls_of_ev {g : FuncId} {args : List Value} {s : St} (h : Ev TT g args s fun r _ => r = .bool true) {N : Nat} {σ : Ren} {w : World} (hw : WRel N σ s w) (hN : N = w.heap.size) {args' : Array Value} (ha : LRel σ args args'.toList) :
    Calls Try.prog g args' w fun e w' => e = .returned (.bool true) ∧ Below w.heap.size w w' := by
  obtain ⟨m, ⟨v, s'⟩, h1, h2⟩ := h
  have h2' : v = .bool true := h2
  subst h2'
  refine ((run_ok tabOk rfl stubOk m).call (h1 m (Nat.le_refl _)) hw ha).mono fun e w' he => ?_
  obtain ⟨τ, v', rfl, hx, _, hv⟩ := he
  rw [hv.of_bool]
  exact ⟨rfl, hN ▸ hx.below⟩
end Go.Proofs.Ytnhokodcmeekhaa
namespace Go.Proofs.Ytnhokodcmeekhaa
open Go Kern RowKit Go.ChangeShapes Go.WideShapes Go.ChangeAt
open Go.ChangeMaps (open_string)
theorem take_eq_of {α : Type} {L cs : List α} {k n : Nat} (hl : cs.length = n) (h : ∀ j, j < n → L[k + j]? = cs[j]?) : (L.drop k).take n = cs := by
  apply List.ext_getElem?
  intro j
  rw [List.getElem?_take, List.getElem?_drop]
  by_cases hj : j < n
  · rw [if_pos hj]; exact h j hj
  · rw [if_neg hj, List.getElem?_eq_none (by omega)]
theorem rows_flat {α : Type} {L : List α} {k n : Nat} (g : Nat → List α) : ∀ {len : Nat}, (∀ i, i < len → (L.drop (k + i * n)).take n = g i) → ((List.range len).map g).flatten = (L.drop k).take (len * n)
  | 0, _ => by simp
  | len + 1, h => by
    rw [List.range_succ, List.map_append, List.flatten_append, rows_flat g (fun i hi => h i (by omega)), List.map_cons, List.map_nil, List.flatten_cons, List.flatten_nil, List.append_nil, ← h len (by omega),
      Nat.add_mul, Nat.one_mul, List.take_add, List.drop_drop]
/-- A slice that the row reads, as a list of its elements' cells. -/
theorem slW_of {H : Type} {enc : TypeId × Value → H} {P : Program} {W : World} {t e : TypeId} {n fuel : Nat} {v : Value} {x : DataW H × List MemPlace} (ht : P.underlying t = some (.slice e)) (hn : P.cellsOf e = n) (hn0 : 0 < n)
    (hok : Cell.ok P W .any 0 t v) (h : DataW.trod enc P W 0 (fun _ => true) true fuel t [v] = some x) :
    ∃ l, SlW W n v l ∧ (∀ y ∈ l, y.length = n) ∧ ∀ y ∈ l, ∃ m z, DataW.trod enc P W 0 (fun _ => true) true m e y = some z := by
  rcases Go.Deep.open_slice ht h with ⟨hcs, _⟩ | ⟨a, len, cap, m, q, D, Pl, hcs, _, hlc, _, hm, _, hel⟩
  · simp at hcs; subst hcs
    exact ⟨[], .inl ⟨rfl, rfl⟩, by simp, by simp⟩
  · simp at hcs; subst hcs
    simp only [Cell.ok, ht] at hok
    obtain ⟨_, _, _, hsp, row, cells, hsh, _⟩ := hok
    obtain ⟨b, off, spot⟩ := a
    simp only at hsp; subst hsp
    obtain ⟨C, E, fr, hb⟩ : ∃ C E fr, W.heap[b]? = some (.cells C E fr) := by
      unfold World.shape? at hsh
      simp only at hsh
      split at hsh
      · rename_i c el fr hh; exact ⟨c, el, fr, hh⟩
      all_goals cases hsh
    rw [hn] at hel
    simp at hm; subst hm
    have hrow : ∀ i, i < len → ∃ cs', cs'.length = n ∧ (∀ j, j < n → C.toList[off + i * n + j]? = cs'[j]?) ∧ ∃ z, DataW.trod enc P W 0 (fun _ => true) true q e cs' = some z := fun i hi => by
      obtain ⟨cs', h1, h2⟩ := hel i (by omega)
      obtain ⟨_, h3, h4⟩ := World.cells?_some h1
      refine ⟨cs', h3, fun j hj => ?_, _, h2⟩
      have := h4 j hj
      rw [addr_add, addr_add] at this
      simp only [World.cell?, hb] at this
      simpa using this
    have hg : ∀ i, i < len → ((C.toList.drop (off + i * n)).take n).length = n ∧ ∃ z, DataW.trod enc P W 0 (fun _ => true) true q e ((C.toList.drop (off + i * n)).take n) = some z := fun i hi => by
      obtain ⟨cs', h1, h2, z, h3⟩ := hrow i hi
      rw [take_eq_of h1 h2]
      exact ⟨h1, z, h3⟩
    have hfl := rows_flat (L := C.toList) (k := off) (n := n) (len := len) (fun i => (C.toList.drop (off + i * n)).take n) fun _ _ => rfl
    refine ⟨(List.range len).map fun i => (C.toList.drop (off + i * n)).take n, .inr ⟨b, off, m, C, E, fr, by simp, hb, fun hne => ?_⟩, fun y hy => ?_, fun y hy => ?_⟩
    · rw [hfl]
      have hlen : 0 < len := by
        rcases Nat.eq_zero_or_pos len with h | h
        · subst h; simp at hne
        · exact h
      obtain ⟨cs', h1, h2, _⟩ := hrow (len - 1) (by omega)
      have h3 := h2 (n - 1) (by omega)
      rw [List.getElem?_eq_getElem (l := cs') (by omega)] at h3
      have h4 := (List.getElem?_eq_some_iff.1 h3).1
      have h5 : len * n = (len - 1) * n + n := by rw [← Nat.succ_mul]; congr 1; omega
      have h6 : off + len * n ≤ C.size := by simp at h4; omega
      have h7 : ((C.toList.drop off).take (len * n)).length = len * n := by simp; omega
      rw [h7]
      exact ⟨h6, rfl⟩
    · obtain ⟨i, hi, rfl⟩ := List.mem_map.1 hy
      exact (hg i (by simpa using hi)).1
    · obtain ⟨i, hi, rfl⟩ := List.mem_map.1 hy
      obtain ⟨z, hz⟩ := (hg i (by simpa using hi)).2
      exact ⟨_, z, hz⟩
theorem list_of {α β : Type} {g : β → α} : ∀ {l : List α}, (∀ y ∈ l, ∃ f, y = g f) → ∃ fs : List β, l = fs.map g
  | [], _ => ⟨[], rfl⟩
  | y :: r, h => by
    obtain ⟨f, rfl⟩ := h y (.head _)
    obtain ⟨fs, rfl⟩ := list_of (l := r) fun z hz => h z (.tail _ hz)
    exact ⟨f :: fs, rfl⟩
theorem un3 : Try.prog.underlying 3 = some (.int .i64) := by kernel_rfl
theorem ce3 : Try.prog.cellsOf 3 = 1 := by kernel_rfl
theorem un24 : Try.prog.underlying 24 = some (.slice 82) := by kernel_rfl
theorem un41 : Try.prog.underlying 41 = some (.slice 3) := by kernel_rfl
theorem un23 : ∃ f0 f1 : Field, Try.prog.underlying 23 = some (.struct #[f0, f1]) ∧ (f0.type = 3 ∧ f0.offset = 0) ∧ (f1.type = 3 ∧ f1.offset = 1) := ⟨_, _, Try.underlying23, ⟨rfl, rfl⟩, ⟨rfl, rfl⟩⟩
theorem un26 : ∃ f0 f1 f2 : Field, Try.prog.underlying 26 = some (.struct #[f0, f1, f2]) ∧ (f0.type = 3 ∧ f0.offset = 0) ∧ (f1.type = 23 ∧ f1.offset = 1) ∧ (f2.type = 24 ∧ f2.offset = 3) := ⟨_, _, _, Try.underlying26, ⟨rfl, rfl⟩, ⟨rfl, rfl⟩, ⟨rfl, rfl⟩⟩
theorem un82 : ∃ f0 f1 f2 : Field, Try.prog.underlying 82 = some (.struct #[f0, f1, f2]) ∧ (f0.type = 3 ∧ f0.offset = 0) ∧ (f1.type = 3 ∧ f1.offset = 1) ∧ (f2.type = 3 ∧ f2.offset = 2) := ⟨_, _, _, Try.underlying82, ⟨rfl, rfl⟩, ⟨rfl, rfl⟩, ⟨rfl, rfl⟩⟩
theorem ce82 : Try.prog.cellsOf 82 = 3 := by kernel_rfl
theorem ce23 : Try.prog.cellsOf 23 = 2 := by kernel_rfl
theorem ce24 : Try.prog.cellsOf 24 = 1 := by kernel_rfl
theorem ce26 : Try.prog.cellsOf 26 = 4 := by kernel_rfl
theorem ct26 : Try.prog.cellTypes Try.prog.depth 26 = some [3, 3, 3, 24] := by kernel_rfl
section
variable {H : Type} {enc : TypeId × Value → H} {W : World}
theorem int_of {m : Nat} {cs : List Value} {z : DataW H × List MemPlace} (h : DataW.trod enc Try.prog W 0 (fun _ => true) true m 3 cs = some z) : ∃ x : Int, cs = [Value.int .i64 x] := by
  obtain ⟨x, e, _, _⟩ := DataW.trod_int un3 h
  exact ⟨x, e⟩
theorem samp_of {m : Nat} {cs : List Value} {z : DataW H × List MemPlace} (hl : cs.length = 3) (h : DataW.trod enc Try.prog W 0 (fun _ => true) true m 82 cs = some z) : ∃ f : SampD, cs = f.cs := by
  match cs, hl with
  | [c0, c1, c2], _ =>
    obtain ⟨f0, f1, f2, hu, ⟨t0, o0⟩, ⟨t1, o1⟩, t2, o2⟩ := un82
    obtain ⟨y0, y1, y2, n, _, _, h0, h1, h2⟩ := Go.Deep.trod_struct3 hu h
    rw [t0, o0, ce3] at h0
    rw [t1, o1, ce3] at h1
    rw [t2, o2, ce3] at h2
    obtain ⟨x0, e0⟩ := int_of h0
    obtain ⟨x1, e1⟩ := int_of h1
    obtain ⟨x2, e2⟩ := int_of h2
    simp at e0 e1 e2
    subst e0 e1 e2
    exact ⟨⟨x0, x1, x2⟩, rfl⟩
set_option maxRecDepth 100000 in
/-- A field, as the row reads it. -/
theorem field_of {v : Value} {d : DataW H} {p : List MemPlace} (hv : Value.okWide Try.prog W .any 0 26 v) (h : DataW.Trod enc Try.prog W 0 (fun _ => true) true 26 v d p) :
    ∃ (n lo hi : Int) (fl : Value) (ss : List SampD), v = fieldV n lo hi fl ∧ SlW W 3 fl (ss.map SampD.cs) := by
  obtain ⟨f0, f1, f2, hu, ⟨t0, o0⟩, ⟨t1, o1⟩, t2, o2⟩ := un26
  have hv' := hv
  simp only [Value.okWide, hu] at hv'
  obtain ⟨cs, rfl, hsz, ts, hts, _, hrow⟩ := hv'
  rw [ct26] at hts; cases hts
  rw [ce26] at hsz
  obtain ⟨fuel, hf⟩ := h
  obtain ⟨l⟩ := cs
  match l, hsz with
  | [c0, c1, c2, c3], _ =>
    obtain ⟨y0, y1, y2, m, _, _, h0, h1, h2⟩ := Go.Deep.trod_struct3 hu hf
    rw [t0, o0, ce3] at h0
    rw [t1, o1, ce23] at h1
    rw [t2, o2, ce24] at h2
    obtain ⟨n, e0⟩ := int_of h0
    obtain ⟨g0, g1, hu2, ⟨s0, q0⟩, s1, q1⟩ := un23
    obtain ⟨z0, z1, m2, _, _, k0, k1⟩ := trod_struct2 hu2 h1
    rw [s0, q0, ce3] at k0
    rw [s1, q1, ce3] at k1
    obtain ⟨lo, e1⟩ := int_of k0
    obtain ⟨hi, e2⟩ := int_of k1
    simp [Value.cells] at e0 e1 e2 h2
    subst e0 e1 e2
    obtain ⟨w, hw, hok⟩ := hrow 3 c3 rfl
    simp at hw; subst hw
    obtain ⟨a, len, cap, rfl⟩ : ∃ a len cap, c3 = .slice a len cap := by
      simp only [Cell.okWide, un24] at hok
      cases c3 <;> simp_all [Cell.ok]
    have hok' : Cell.ok Try.prog W .any 0 24 (.slice a len cap) := by
      simp only [Cell.okWide, un24] at hok; exact hok
    obtain ⟨l, g1, g2, g3⟩ := slW_of un24 ce82 (by omega) hok' h2
    obtain ⟨ss, rfl⟩ := list_of (g := SampD.cs) fun y hy => by
      obtain ⟨m, z, hz⟩ := g3 y hy
      exact samp_of (g2 y hy) hz
    exact ⟨n, lo, hi, _, ss, rfl, g1⟩
set_option maxRecDepth 100000 in
theorem ints_of {v : Value} {d : DataW H} {p : List MemPlace} (hv : Value.okWide Try.prog W .any 0 41 v) (h : DataW.Trod enc Try.prog W 0 (fun _ => true) true 41 v d p) :
    ∃ xs : List Int, SlW W 1 v (xs.map fun x => [Value.int .i64 x]) := by
  obtain ⟨a, len, cap, rfl⟩ := okWide_slice un41 hv
  have hok' : Cell.ok Try.prog W .any 0 41 (.slice a len cap) := by
    simp only [Value.okWide, un41, Cell.okWide] at hv; exact hv
  obtain ⟨fuel, hf⟩ := h
  obtain ⟨l, g1, g2, g3⟩ := slW_of un41 ce3 (by omega) hok' hf
  obtain ⟨xs, rfl⟩ := list_of (g := fun x : Int => [Value.int .i64 x]) fun y hy => by
    obtain ⟨m, z, hz⟩ := g3 y hy
    exact int_of hz
  exact ⟨xs, g1⟩
end
end Go.Proofs.Ytnhokodcmeekhaa
namespace Go.Proofs.Ytnhokodcmeekhaa
open Go Kern RowKit Go.ChangeShapes Go.WideShapes Go.ChangeAt
theorem lawC_calls (n lo hi : Int) (v w : Value) (ss : List SampD) (xs : List Int) (W : World) (hf : SlW W 3 v (ss.map SampD.cs)) (hx : SlW W 1 w (xs.map fun x => [Value.int .i64 x])) :
    Calls Try.prog 4 #[fieldV n lo hi v, w] W fun e w' => e = .returned (.bool true) ∧ Below W.heap.size W w' := by
  have hw0 : WRel W.heap.size (fun _ => none) ⟨.leaf, 0⟩ W := ⟨Nat.le_refl _, (fun h => by cases h), fun _ => rfl, (fun h => by cases h), (fun h => by cases h)⟩
  obtain ⟨σ1, s1, v', _, hw1, hv, hs1, k1⟩ := attach hw0 rfl hf (fun x hx => by obtain ⟨f, _, rfl⟩ := List.mem_map.1 hx; rfl) (by
    rw [List.all_eq_true]; intro y hy
    obtain ⟨z, hz, hy⟩ := List.mem_flatten.1 hy
    obtain ⟨f, _, rfl⟩ := List.mem_map.1 hz
    simp [SampD.cs] at hy
    rcases hy with rfl | rfl | rfl <;> rfl)
  obtain ⟨σ2, s2, w', hle, hw2, hw', hs2, k2⟩ := attach hw1 rfl hx (fun x hx => by obtain ⟨f, _, rfl⟩ := List.mem_map.1 hx; rfl) (by
    rw [List.all_eq_true]; intro y hy
    obtain ⟨z, hz, hy⟩ := List.mem_flatten.1 hy
    obtain ⟨f, _, rfl⟩ := List.mem_map.1 hz
    simp at hy
    subst hy; rfl)
  refine calls_of_ev (lawC_ev n lo hi v' w' ss xs s2 (hs1.keep k2) hs2) hw2 rfl ?_
  exact .cons (.agg (.cons (.int _ _) (.cons (.int _ _) (.cons (.int _ _) (.cons (hv.mono hle) .nil))))) (.cons hw' .nil)
theorem Try.own : ownKnob Try.prog.godebug = none := by kernel_rfl
theorem laidB : laidOutB Try.prog = true := by kernel_rfl
theorem again_of {H : Type} {enc : TypeId × Value → H} {t : TypeId} {W W' : World} {v : Value} {d : DataW H} {p : List MemPlace} (hr : Try.prog.readableRec t = true) (ht : t < Try.prog.types.size)
    (h : DataW.Trod enc Try.prog W 0 (fun _ => true) true t v d p) (hb : Below W.heap.size W W') : DataW.Trod enc Try.prog W' 0 (fun b => decide (b < W.heap.size)) true t v d p :=
  Below.trod laidB hr ht h hb (DataW.TrodAll.lt (trodAll_mk1 h))
set_option maxRecDepth 100000 in
theorem clashes_lifted (os : Os) (started : os.Started) (H : Type) (enc : TypeId × Value → H) :
    ReturnsInHanded {} Try.checked os 4 .any (Rows.ripeClashesSpec.pre6 enc Try.prog Try.f4 Rows.ripeClashesRow.domain false) (Rows.ripeClashesSpec.post enc Try.prog Try.f4 false true false false) := by
  refine returnsInHanded_of_change (C := Try.checked) Try.own started (by kernel_rfl) Try.func4
    (ChangeSpec.witness6 (enc := enc) (C := Try.checked) false ⟨#[], #[.agg #[.int .i64 0, .int .i64 0, .int .i64 0, .slice none 0 0], .slice none 0 0], []⟩ 8 (by kernel_rfl) (by kernel_rfl) (by kernel_rfl) (by kernel_rfl)) ?_
  intro W base args ds gs before hval hW hcnd _
  have hW' := hW
  obtain ⟨p, q, hA0, hV, rfl, hfz, hnd⟩ := hW
  have hA : DataW.TrodAll enc Try.prog W 0 (fun _ => true) true Try.f4.params.toList args.toList ds p := hA0
  rw [Try.params4] at hA
  obtain ⟨v0, v1, d0, d1, p0, p1, rfl, rfl, rfl, h0, h1⟩ := trodAll_two hA
  obtain ⟨rfl, rfl⟩ := trodVars_none hV
  obtain ⟨n, lo, hi, fl, ss, rfl, hf⟩ := field_of (hval 0 26 v0 rfl rfl) h0
  obtain ⟨xs, hx⟩ := ints_of (hval 1 41 v1 rfl rfl) h1
  refine (lawC_calls n lo hi fl v1 ss xs W hf hx).mono fun e W' ⟨he, hb⟩ => ?_
  subst he
  exact ⟨_, rfl, [_, _], [], _, [], _, [], hW', trodAll_mk1 (shut_bool Try.underlying4 _), trodAll_mk2 (again_of (by kernel_rfl) (of_decide_eq_true (by kernel_rfl)) h0 hb) (again_of (by kernel_rfl) (of_decide_eq_true (by kernel_rfl)) h1 hb), rfl, hb.frame _, fun h => by cases h⟩

theorem clashes_holds : Rows.RipeClashesSaid :=
  OpenClaim.holds_of_wide 4 Try.f4 rfl rfl rfl rfl rfl rfl rfl ⟨rfl, rfl, rfl, rfl, rfl⟩ rfl rfl rfl rfl rfl (by kernel_rfl) Try.func4 (by kernel_rfl)
    (of_decide_eq_true (by kernel_rfl)) (by unfold Func.isWrapper; first | (rw [if_pos (by decide +kernel)]; kernel_rfl) | (rw [if_neg (by decide +kernel)]; exact ⟨rfl, rfl⟩))
    (fun os started H enc _ => clashes_lifted os started H enc)
end Go.Proofs.Ytnhokodcmeekhaa
