/-
  Parts are yielded as stated to a loop that may be left. It holds with no condition but those that are written in each theorem.
-/
import Derived.Test.YtifkpaomhnlahaaA12
namespace Go.Proofs.Ytifkpaomhnlahaa
open Go Kern
set_option maxRecDepth 100000 in
set_option maxHeartbeats 4000000 in
theorem iterJ_ev (n : Nat) (v yv : Value) (fs : List FlowD) (bp : Nat) (s : St) (X : Nat → Prop) (J : Nat → St → Prop) (B : Nat → St → Prop) (hn : n ≤ 8) (hf : FlAt s v fs) (hl : fs.length ≤ 1000000)
    (hbp : bp < s.next) (hgp : s.heap.get bp = some (.cells [.int .i64 n, v] none)) (hX : ∀ i, X i → i < s.next) (hXp : ¬ X bp) (hJ0 : J 0 s)
    (hJs : ∀ k s1 s2, J k s1 → s1.next ≤ s2.next → (∀ i, i < s.next → s2.heap.get i = s1.heap.get i) → J k s2)
    (hskip : ∀ k s1, k < n → isLead (rtF (-1) fs 0 id) n k = false → J k s1 → J (k + 1) s1)
    (hyield : ∀ k s1 w, k < n → isLead (rtF (-1) fs 0 id) n k = true → J k s1 → s.next ≤ s1.next → IntsAt s1 w (clsN (rtF (-1) fs 0 id) k n) → (∃ bw, s.next ≤ bw ∧ w = .slice (some ⟨bw, 0, none⟩) (clsN (rtF (-1) fs 0 id) k n).length (clsN (rtF (-1) fs 0 id) k n).length) →
      Evn TT (fun self => callV self yv [.int .i64 (leads (rtF (-1) fs 0 id) n k).length, w] s1) fun p => ((p.1 = .bool true ∧ J (k + 1) p.2) ∨ (p.1 = .bool false ∧ B k p.2)) ∧ s1.next ≤ p.2.next ∧ ∀ i, i < s1.next → ¬ X i → p.2.heap.get i = s1.heap.get i) :
    Ev TT 59 [yv, .pointer (some ⟨bp, 0, none⟩)] s fun _ s' => (J n s' ∨ ∃ k, k < n ∧ isLead (rtF (-1) fs 0 id) n k = true ∧ B k s') ∧ s.next ≤ s'.next ∧ ∀ i, i < s.next → ¬ X i → s'.heap.get i = s.heap.get i := by
  refine Ev.intro (fn := Try.f59) rfl (by kernel_rfl) rfl rfl ?_
  with_reducible repeat first|apply Z0|apply Z1|apply Z2|apply Z3|apply Z4|apply Z5|refine Z6 rfl ?_|apply Z7|apply Z8|apply Z9|apply Z10|apply Z11|apply Z12|apply Z13|apply Z14|apply Z15|apply Z16
  with_reducible repeat first|apply Z0|apply Z1|apply Z2|apply Z3|apply Z4|apply Z5|refine Z6 rfl ?_|apply Z7|apply Z8|apply Z9|apply Z10|apply Z11|apply Z12|apply Z13|apply Z14|apply Z15|apply Z16
  refine Cd.reg (by kernel_rfl) (by conv => lhs; simp only [List.map_cons, List.map_nil]) (by conv => lhs; simp only [List.map_cons, List.map_nil, strip]) ?_
  apply Run.by_eq
  · intro self
    conv => lhs; simp -implicitDefEqProofs (maxSteps := 300000) (disch := omega) [-getElem?_pos, -getElem?_neg, hgp]
  try (with_reducible refine Run.ret ?_)
  with_reducible repeat first|apply Z0|apply Z1|apply Z2|apply Z3|apply Z4|apply Z5|refine Z6 rfl ?_|apply Z7|apply Z8|apply Z9|apply Z10|apply Z11|apply Z12|apply Z13|apply Z14|apply Z15|apply Z16
  refine Run.call ((joins_ev n (-1) v fs _ hf hl).mono fun r w1 hv => ?_)
  obtain ⟨hk1, b, es, rfl, hbs, hH, hF⟩ := hv
  generalize rtF (-1) fs 0 id = rt at *
  have k1a := hk1.1
  have k1b := hk1.2
  have hHl := hH.1
  apply Run.by_eq
  · intro self
    conv => lhs; simp -implicitDefEqProofs (maxSteps := 300000) (disch := omega) [-getElem?_pos, -getElem?_neg]
  try (with_reducible refine Run.ret ?_)
  with_reducible repeat first|apply Z0|apply Z1|apply Z2|apply Z3|apply Z4|apply Z5|refine Z6 rfl ?_|apply Z7|apply Z8|apply Z9|apply Z10|apply Z11|apply Z12|apply Z13|apply Z14|apply Z15|apply Z16
  with_reducible repeat first|apply Z0|apply Z1|apply Z2|apply Z3|apply Z4|apply Z5|refine Z6 rfl ?_|apply Z7|apply Z8|apply Z9|apply Z10|apply Z11|apply Z12|apply Z13|apply Z14|apply Z15|apply Z16
  refine Cd.reg (by kernel_rfl) (by conv => lhs; simp only [List.map_cons, List.map_nil]) (by conv => lhs; simp only [List.map_cons, List.map_nil, strip]) ?_
  apply Run.by_eq
  · intro self
    conv => lhs; simp -implicitDefEqProofs (maxSteps := 300000) (disch := omega) [-getElem?_pos, -getElem?_neg]
  try (with_reducible refine Run.ret ?_)
  with_reducible repeat first|apply Z0|apply Z1|apply Z2|apply Z3|apply Z4|apply Z5|refine Z6 rfl ?_|apply Z7|apply Z8|apply Z9|apply Z10|apply Z11|apply Z12|apply Z13|apply Z14|apply Z15|apply Z16
  with_reducible repeat first|apply Z0|apply Z1|apply Z2|apply Z3|apply Z4|apply Z5|refine Z6 rfl ?_|apply Z7|apply Z8|apply Z9|apply Z10|apply Z11|apply Z12|apply Z13|apply Z14|apply Z15|apply Z16
  refine Cd.reg (by kernel_rfl) (by conv => lhs; simp only [List.map_cons, List.map_nil]) (by conv => lhs; simp only [List.map_cons, List.map_nil, strip]) ?_
  apply Run.by_eq
  · intro self
    conv => lhs; simp -implicitDefEqProofs (maxSteps := 300000) (disch := omega) [-getElem?_pos, -getElem?_neg, k1b, hgp]
  try (with_reducible refine Run.ret ?_)
  with_reducible repeat first|apply Z0|apply Z1|apply Z2|apply Z3|apply Z4|apply Z5|refine Z6 rfl ?_|apply Z7|apply Z8|apply Z9|apply Z10|apply Z11|apply Z12|apply Z13|apply Z14|apply Z15|apply Z16
  refine Cd.inv (fun z f s' => ∃ k : Nat, k ≤ n ∧ z = n - k ∧ f.marks = [] ∧ f.get 12 = .int .i64 k ∧ f.get 11 = .int .i64 n ∧ f.get 0 = yv ∧ f.get 1 = .pointer (some ⟨bp, 0, none⟩) ∧ f.get 3 = .pointer (some ⟨w1.next, 0, none⟩) ∧ f.get 4 = .int .i64 (leads rt n k).length ∧ w1.next < s'.next ∧ (∀ i, i < s.next → ¬ X i → s'.heap.get i = s.heap.get i) ∧ s'.heap.get w1.next = some (.cells [.map (some b)] none) ∧ HeadsAt s' b es ∧ J k s') n ?_ ?_
  · refine ⟨0, by omega, rfl, by simp, by simp, by simp, by simp, by simp, by simp, by simp [leads], by simp, fun i hi hx => ?_, by simp, ⟨by (try simp only [pushed_next', upded_next']); omega, ?_⟩, hJs 0 s _ hJ0 (by (try simp only [pushed_next', upded_next']); omega) fun i hi => ?_⟩
    · simp -implicitDefEqProofs (disch := omega) [k1b]
    · simp -implicitDefEqProofs (disch := omega) [hH.2]
    · simp -implicitDefEqProofs (disch := omega) [k1b]
  rintro z f s' ⟨k, hk, rfl, hm, h12, h11, h0, h1, h3, h4, hnx, hold, hgh, hHA, hJ⟩
  have hgp' : s'.heap.get bp = some (.cells [.int .i64 n, v] none) := (hold bp hbp hXp).trans hgp
  by_cases hlt : k < n
  · with_reducible repeat first|apply Z0|apply Z1|apply Z2|apply Z3|apply Z4|apply Z5|refine Z6 rfl ?_|apply Z7|apply Z8|apply Z9|apply Z10|apply Z11|apply Z12|apply Z13|apply Z14|apply Z15|apply Z16
    refine Cd.reg (by kernel_rfl) (by conv => lhs; simp only [List.map_cons, List.map_nil]) (by conv => lhs; simp only [List.map_cons, List.map_nil, strip]) ?_
    apply Run.by_eq
    · intro self
      conv => lhs; simp -implicitDefEqProofs (maxSteps := 300000) (disch := omega) [-getElem?_pos, -getElem?_neg, h12, h11]
    try (with_reducible refine Run.ret ?_)
    with_reducible repeat first|apply Z0|apply Z1|apply Z2|apply Z3|apply Z4|apply Z5|refine Z6 rfl ?_|apply Z7|apply Z8|apply Z9|apply Z10|apply Z11|apply Z12|apply Z13|apply Z14|apply Z15|apply Z16
    with_reducible repeat first|apply Z0|apply Z1|apply Z2|apply Z3|apply Z4|apply Z5|refine Z6 rfl ?_|apply Z7|apply Z8|apply Z9|apply Z10|apply Z11|apply Z12|apply Z13|apply Z14|apply Z15|apply Z16
    apply Cd.ite rfl
    · conv => lhs; simp -implicitDefEqProofs (maxSteps := 300000) (disch := omega) [-getElem?_pos, -getElem?_neg]
    all_goals intro c0
    all_goals try (cases c0; done)
    all_goals try simp only [Bool.not_eq_true', Bool.not_eq_false', decide_eq_true_eq, decide_eq_false_iff_not] at c0
    all_goals with_reducible repeat first|apply Z0|apply Z1|apply Z2|apply Z3|apply Z4|apply Z5|refine Z6 rfl ?_|apply Z7|apply Z8|apply Z9|apply Z10|apply Z11|apply Z12|apply Z13|apply Z14|apply Z15|apply Z16
    · with_reducible repeat first|apply Z0|apply Z1|apply Z2|apply Z3|apply Z4|apply Z5|refine Z6 rfl ?_|apply Z7|apply Z8|apply Z9|apply Z10|apply Z11|apply Z12|apply Z13|apply Z14|apply Z15|apply Z16
      refine Cd.reg (by kernel_rfl) (by conv => lhs; simp only [List.map_cons, List.map_nil]) (by conv => lhs; simp only [List.map_cons, List.map_nil, strip]) ?_
      apply Run.by_eq
      · intro self
        conv => lhs; simp -implicitDefEqProofs (maxSteps := 300000) (disch := omega) [-getElem?_pos, -getElem?_neg, h12]
      try (with_reducible refine Run.ret ?_)
      with_reducible repeat first|apply Z0|apply Z1|apply Z2|apply Z3|apply Z4|apply Z5|refine Z6 rfl ?_|apply Z7|apply Z8|apply Z9|apply Z10|apply Z11|apply Z12|apply Z13|apply Z14|apply Z15|apply Z16
      with_reducible repeat first|apply Z0|apply Z1|apply Z2|apply Z3|apply Z4|apply Z5|refine Z6 rfl ?_|apply Z7|apply Z8|apply Z9|apply Z10|apply Z11|apply Z12|apply Z13|apply Z14|apply Z15|apply Z16
      refine Cd.reg (by kernel_rfl) (by conv => lhs; simp only [List.map_cons, List.map_nil]) (by conv => lhs; simp only [List.map_cons, List.map_nil, strip]) ?_
      apply Run.by_eq
      · intro self
        conv => lhs; simp -implicitDefEqProofs (maxSteps := 300000) (disch := omega) [-getElem?_pos, -getElem?_neg]
      try (with_reducible refine Run.ret ?_)
      with_reducible repeat first|apply Z0|apply Z1|apply Z2|apply Z3|apply Z4|apply Z5|refine Z6 rfl ?_|apply Z7|apply Z8|apply Z9|apply Z10|apply Z11|apply Z12|apply Z13|apply Z14|apply Z15|apply Z16
      with_reducible repeat first|apply Z0|apply Z1|apply Z2|apply Z3|apply Z4|apply Z5|refine Z6 rfl ?_|apply Z7|apply Z8|apply Z9|apply Z10|apply Z11|apply Z12|apply Z13|apply Z14|apply Z15|apply Z16
      refine Cd.reg (by kernel_rfl) (by conv => lhs; simp only [List.map_cons, List.map_nil]) (by conv => lhs; simp only [List.map_cons, List.map_nil, strip]) ?_
      apply Run.by_eq
      · intro self
        conv => lhs; simp -implicitDefEqProofs (maxSteps := 300000) (disch := omega) [-getElem?_pos, -getElem?_neg, h1, hgp']
      try (with_reducible refine Run.ret ?_)
      with_reducible repeat first|apply Z0|apply Z1|apply Z2|apply Z3|apply Z4|apply Z5|refine Z6 rfl ?_|apply Z7|apply Z8|apply Z9|apply Z10|apply Z11|apply Z12|apply Z13|apply Z14|apply Z15|apply Z16
      refine Cd.inv (fun z2 f2 s2 => ∃ j : Nat, j ≤ n ∧ z2 = n - j ∧ f2.marks = [] ∧ f2.get 17 = .int .i64 j ∧ f2.get 16 = .int .i64 n ∧ f2.get 12 = .int .i64 k ∧ f2.get 11 = .int .i64 n ∧ f2.get 0 = yv ∧ f2.get 1 = .pointer (some ⟨bp, 0, none⟩) ∧ f2.get 3 = .pointer (some ⟨w1.next, 0, none⟩) ∧ f2.get 4 = .int .i64 (leads rt n k).length ∧ f2.get 5 = .int .i64 k ∧ OwnU (w1.next + 1) s2 (f2.get 6) (clsN rt k j) ∧ w1.next < s2.next ∧ (∀ i, i < s.next → ¬ X i → s2.heap.get i = s.heap.get i) ∧ s2.heap.get w1.next = some (.cells [.map (some b)] none) ∧ HeadsAt s2 b es ∧ J k s2) n ?_ ?_
      · refine ⟨0, by omega, rfl, by simp [hm], by simp, by simp, by simp [h12], by simp [h11], by simp [h0], by simp [h1], by simp [h3], by simp [h4], by simp, .inl ⟨rfl, by simp⟩, hnx, hold, hgh, hHA, hJ⟩
      rintro z2 f2 s2 ⟨j, hj, rfl, gm, g17, g16, g12, g11, g0, g1, g3, g4, g5, hU, gnx, gold, ggh, gHA, gJ⟩
      have gHl := gHA.1
      by_cases hjn : j < n
      · with_reducible repeat first|apply Z0|apply Z1|apply Z2|apply Z3|apply Z4|apply Z5|refine Z6 rfl ?_|apply Z7|apply Z8|apply Z9|apply Z10|apply Z11|apply Z12|apply Z13|apply Z14|apply Z15|apply Z16
        refine Cd.reg (by kernel_rfl) (by conv => lhs; simp only [List.map_cons, List.map_nil]) (by conv => lhs; simp only [List.map_cons, List.map_nil, strip]) ?_
        apply Run.by_eq
        · intro self
          conv => lhs; simp -implicitDefEqProofs (maxSteps := 300000) (disch := omega) [-getElem?_pos, -getElem?_neg, g17, g16]
        try (with_reducible refine Run.ret ?_)
        with_reducible repeat first|apply Z0|apply Z1|apply Z2|apply Z3|apply Z4|apply Z5|refine Z6 rfl ?_|apply Z7|apply Z8|apply Z9|apply Z10|apply Z11|apply Z12|apply Z13|apply Z14|apply Z15|apply Z16
        with_reducible repeat first|apply Z0|apply Z1|apply Z2|apply Z3|apply Z4|apply Z5|refine Z6 rfl ?_|apply Z7|apply Z8|apply Z9|apply Z10|apply Z11|apply Z12|apply Z13|apply Z14|apply Z15|apply Z16
        apply Cd.ite rfl
        · conv => lhs; simp -implicitDefEqProofs (maxSteps := 300000) (disch := omega) [-getElem?_pos, -getElem?_neg]
        all_goals intro d0
        all_goals try (cases d0; done)
        all_goals try simp only [Bool.not_eq_true', Bool.not_eq_false', decide_eq_true_eq, decide_eq_false_iff_not] at d0
        all_goals with_reducible repeat first|apply Z0|apply Z1|apply Z2|apply Z3|apply Z4|apply Z5|refine Z6 rfl ?_|apply Z7|apply Z8|apply Z9|apply Z10|apply Z11|apply Z12|apply Z13|apply Z14|apply Z15|apply Z16
        · with_reducible repeat first|apply Z0|apply Z1|apply Z2|apply Z3|apply Z4|apply Z5|refine Z6 rfl ?_|apply Z7|apply Z8|apply Z9|apply Z10|apply Z11|apply Z12|apply Z13|apply Z14|apply Z15|apply Z16
          refine Cd.reg (by kernel_rfl) (by conv => lhs; simp only [List.map_cons, List.map_nil]) (by conv => lhs; simp only [List.map_cons, List.map_nil, strip]) ?_
          apply Run.by_eq
          · intro self
            conv => lhs; simp -implicitDefEqProofs (maxSteps := 300000) (disch := omega) [-getElem?_pos, -getElem?_neg, g17]
          try (with_reducible refine Run.ret ?_)
          with_reducible repeat first|apply Z0|apply Z1|apply Z2|apply Z3|apply Z4|apply Z5|refine Z6 rfl ?_|apply Z7|apply Z8|apply Z9|apply Z10|apply Z11|apply Z12|apply Z13|apply Z14|apply Z15|apply Z16
          with_reducible repeat first|apply Z0|apply Z1|apply Z2|apply Z3|apply Z4|apply Z5|refine Z6 rfl ?_|apply Z7|apply Z8|apply Z9|apply Z10|apply Z11|apply Z12|apply Z13|apply Z14|apply Z15|apply Z16
          refine Cd.reg (by kernel_rfl) (by conv => lhs; simp only [List.map_cons, List.map_nil]) (by conv => lhs; simp only [List.map_cons, List.map_nil, strip]) ?_
          apply Run.by_eq
          · intro self
            conv => lhs; simp -implicitDefEqProofs (maxSteps := 300000) (disch := omega) [-getElem?_pos, -getElem?_neg, g3, ggh, g5]
          try (with_reducible refine Run.ret ?_)
          with_reducible repeat first|apply Z0|apply Z1|apply Z2|apply Z3|apply Z4|apply Z5|refine Z6 rfl ?_|apply Z7|apply Z8|apply Z9|apply Z10|apply Z11|apply Z12|apply Z13|apply Z14|apply Z15|apply Z16
          refine Run.call ((joined_ev b es rt j k _ gHA hF).mono fun v wq hv => ?_)
          obtain ⟨rfl, q⟩ := hv
          have qa := q.1
          have qb := q.2
          try simp only [pushed_next', upded_next'] at qa qb
          apply Run.by_eq
          · intro self
            conv => lhs; simp -implicitDefEqProofs (maxSteps := 300000) (disch := omega) [-getElem?_pos, -getElem?_neg]
          try (with_reducible refine Run.ret ?_)
          with_reducible repeat first|apply Z0|apply Z1|apply Z2|apply Z3|apply Z4|apply Z5|refine Z6 rfl ?_|apply Z7|apply Z8|apply Z9|apply Z10|apply Z11|apply Z12|apply Z13|apply Z14|apply Z15|apply Z16
          have hcn := clsN_succ rt k j
          by_cases hr : rt j = rt k
          · rw [if_pos hr] at hcn
            with_reducible repeat first|apply Z0|apply Z1|apply Z2|apply Z3|apply Z4|apply Z5|refine Z6 rfl ?_|apply Z7|apply Z8|apply Z9|apply Z10|apply Z11|apply Z12|apply Z13|apply Z14|apply Z15|apply Z16
            apply Cd.ite rfl
            · conv => lhs; simp -implicitDefEqProofs (maxSteps := 300000) (disch := omega) [-getElem?_pos, -getElem?_neg, hr]
            all_goals intro d1
            all_goals try (cases d1; done)
            all_goals try simp only [Bool.not_eq_true', Bool.not_eq_false', decide_eq_true_eq, decide_eq_false_iff_not] at d1
            all_goals with_reducible repeat first|apply Z0|apply Z1|apply Z2|apply Z3|apply Z4|apply Z5|refine Z6 rfl ?_|apply Z7|apply Z8|apply Z9|apply Z10|apply Z11|apply Z12|apply Z13|apply Z14|apply Z15|apply Z16
            rcases hU with ⟨hce, hw⟩ | ⟨bu, hw, hne, hb1, hb2, hb3⟩
            · with_reducible repeat first|apply Z0|apply Z1|apply Z2|apply Z3|apply Z4|apply Z5|refine Z6 rfl ?_|apply Z7|apply Z8|apply Z9|apply Z10|apply Z11|apply Z12|apply Z13|apply Z14|apply Z15|apply Z16
              refine Cd.reg (by kernel_rfl) (by conv => lhs; simp only [List.map_cons, List.map_nil]) (by conv => lhs; simp only [List.map_cons, List.map_nil, strip]) ?_
              apply Run.by_eq
              · intro self
                conv => lhs; simp -implicitDefEqProofs (maxSteps := 300000) (disch := omega) [-getElem?_pos, -getElem?_neg, hw, appV_nil (size := 1) (g := none) (new := [.int .i64 (j : Int)]) (get_pushed_new _ _) rfl rfl]
              try (with_reducible refine Run.ret ?_)
              with_reducible repeat first|apply Z0|apply Z1|apply Z2|apply Z3|apply Z4|apply Z5|refine Z6 rfl ?_|apply Z7|apply Z8|apply Z9|apply Z10|apply Z11|apply Z12|apply Z13|apply Z14|apply Z15|apply Z16
              with_reducible repeat first|apply Z0|apply Z1|apply Z2|apply Z3|apply Z4|apply Z5|refine Z6 rfl ?_|apply Z7|apply Z8|apply Z9|apply Z10|apply Z11|apply Z12|apply Z13|apply Z14|apply Z15|apply Z16
              refine Cd.reg (by kernel_rfl) (by conv => lhs; simp only [List.map_cons, List.map_nil]) (by conv => lhs; simp only [List.map_cons, List.map_nil, strip]) ?_
              apply Run.by_eq
              · intro self
                conv => lhs; simp -implicitDefEqProofs (maxSteps := 300000) (disch := omega) [-getElem?_pos, -getElem?_neg, g17]
              try (with_reducible refine Run.ret ?_)
              with_reducible repeat first|apply Z0|apply Z1|apply Z2|apply Z3|apply Z4|apply Z5|refine Z6 rfl ?_|apply Z7|apply Z8|apply Z9|apply Z10|apply Z11|apply Z12|apply Z13|apply Z14|apply Z15|apply Z16
              refine LoopK.nm (n - (j + 1)) (by omega) ⟨j + 1, by omega, rfl, by simp [gm], by simp, by simp [g16], by simp [g12], by simp [g11], by simp [g0], by simp [g1], by simp [g3], by simp [g4], by simp [g5], ?_, by (try simp only [pushed_next', upded_next']); omega, fun i hi hx => ?_, ?_, ⟨by (try simp only [pushed_next', upded_next']); omega, ?_⟩, hJs k s2 _ gJ (by (try simp only [pushed_next', upded_next']); omega) fun i hi => ?_⟩
              · rw [hcn, hce]
                exact .inr ⟨wq.next + 1, by simp, by simp, by omega, by simp, by simp⟩
              · rw [← gold i hi hx]; simp -implicitDefEqProofs (disch := omega) [qb]
              · simp -implicitDefEqProofs (disch := omega) [qb, ggh]
              · simp -implicitDefEqProofs (disch := omega) [qb, gHA.2]
              · simp -implicitDefEqProofs (disch := omega) [qb]
            · have hcl := clsN_length rt k j
              have hm1 : (wq.pushed (.cells [.int .i64 (j : Int)] none)).heap.get bu = some (.cells ((clsN rt k j).map (Value.int .i64)) (some 1)) := by simp -implicitDefEqProofs (disch := omega) [qb, hb3]
              have hap := appV_more (size := 1) (n := (clsN rt k j).length) (b2 := wq.next) hm1 (get_pushed_new _ _) rfl rfl (by simp) (by omega)
              with_reducible repeat first|apply Z0|apply Z1|apply Z2|apply Z3|apply Z4|apply Z5|refine Z6 rfl ?_|apply Z7|apply Z8|apply Z9|apply Z10|apply Z11|apply Z12|apply Z13|apply Z14|apply Z15|apply Z16
              refine Cd.reg (by kernel_rfl) (by conv => lhs; simp only [List.map_cons, List.map_nil]) (by conv => lhs; simp only [List.map_cons, List.map_nil, strip]) ?_
              apply Run.by_eq
              · intro self
                conv => lhs; simp -implicitDefEqProofs (maxSteps := 300000) (disch := omega) [-getElem?_pos, -getElem?_neg, hw, hap]
              try (with_reducible refine Run.ret ?_)
              with_reducible repeat first|apply Z0|apply Z1|apply Z2|apply Z3|apply Z4|apply Z5|refine Z6 rfl ?_|apply Z7|apply Z8|apply Z9|apply Z10|apply Z11|apply Z12|apply Z13|apply Z14|apply Z15|apply Z16
              with_reducible repeat first|apply Z0|apply Z1|apply Z2|apply Z3|apply Z4|apply Z5|refine Z6 rfl ?_|apply Z7|apply Z8|apply Z9|apply Z10|apply Z11|apply Z12|apply Z13|apply Z14|apply Z15|apply Z16
              refine Cd.reg (by kernel_rfl) (by conv => lhs; simp only [List.map_cons, List.map_nil]) (by conv => lhs; simp only [List.map_cons, List.map_nil, strip]) ?_
              apply Run.by_eq
              · intro self
                conv => lhs; simp -implicitDefEqProofs (maxSteps := 300000) (disch := omega) [-getElem?_pos, -getElem?_neg, g17]
              try (with_reducible refine Run.ret ?_)
              with_reducible repeat first|apply Z0|apply Z1|apply Z2|apply Z3|apply Z4|apply Z5|refine Z6 rfl ?_|apply Z7|apply Z8|apply Z9|apply Z10|apply Z11|apply Z12|apply Z13|apply Z14|apply Z15|apply Z16
              refine LoopK.nm (n - (j + 1)) (by omega) ⟨j + 1, by omega, rfl, by simp [gm], by simp, by simp [g16], by simp [g12], by simp [g11], by simp [g0], by simp [g1], by simp [g3], by simp [g4], by simp [g5], ?_, by (try simp only [pushed_next', upded_next']); omega, fun i hi hx => ?_, ?_, ⟨by (try simp only [pushed_next', upded_next']); omega, ?_⟩, hJs k s2 _ gJ (by (try simp only [pushed_next', upded_next']); omega) fun i hi => ?_⟩
              · rw [hcn]
                exact .inr ⟨wq.next + 1, by simp, by simp, by omega, by simp, by simp⟩
              · rw [← gold i hi hx]; simp -implicitDefEqProofs (disch := omega) [qb]
              · simp -implicitDefEqProofs (disch := omega) [qb, ggh]
              · simp -implicitDefEqProofs (disch := omega) [qb, gHA.2]
              · simp -implicitDefEqProofs (disch := omega) [qb]
          · rw [if_neg hr] at hcn
            with_reducible repeat first|apply Z0|apply Z1|apply Z2|apply Z3|apply Z4|apply Z5|refine Z6 rfl ?_|apply Z7|apply Z8|apply Z9|apply Z10|apply Z11|apply Z12|apply Z13|apply Z14|apply Z15|apply Z16
            apply Cd.ite rfl
            · conv => lhs; simp -implicitDefEqProofs (maxSteps := 300000) (disch := omega) [-getElem?_pos, -getElem?_neg, hr]
            all_goals intro d1
            all_goals try (cases d1; done)
            all_goals try simp only [Bool.not_eq_true', Bool.not_eq_false', decide_eq_true_eq, decide_eq_false_iff_not] at d1
            all_goals with_reducible repeat first|apply Z0|apply Z1|apply Z2|apply Z3|apply Z4|apply Z5|refine Z6 rfl ?_|apply Z7|apply Z8|apply Z9|apply Z10|apply Z11|apply Z12|apply Z13|apply Z14|apply Z15|apply Z16
            with_reducible repeat first|apply Z0|apply Z1|apply Z2|apply Z3|apply Z4|apply Z5|refine Z6 rfl ?_|apply Z7|apply Z8|apply Z9|apply Z10|apply Z11|apply Z12|apply Z13|apply Z14|apply Z15|apply Z16
            refine Cd.reg (by kernel_rfl) (by conv => lhs; simp only [List.map_cons, List.map_nil]) (by conv => lhs; simp only [List.map_cons, List.map_nil, strip]) ?_
            apply Run.by_eq
            · intro self
              conv => lhs; simp -implicitDefEqProofs (maxSteps := 300000) (disch := omega) [-getElem?_pos, -getElem?_neg, g17]
            try (with_reducible refine Run.ret ?_)
            with_reducible repeat first|apply Z0|apply Z1|apply Z2|apply Z3|apply Z4|apply Z5|refine Z6 rfl ?_|apply Z7|apply Z8|apply Z9|apply Z10|apply Z11|apply Z12|apply Z13|apply Z14|apply Z15|apply Z16
            refine LoopK.nm (n - (j + 1)) (by omega) ⟨j + 1, by omega, rfl, by simp [gm], by simp, by simp [g16], by simp [g12], by simp [g11], by simp [g0], by simp [g1], by simp [g3], by simp [g4], by simp [g5], ?_, by (try simp only [pushed_next', upded_next']); omega, fun i hi hx => ?_, ?_, ⟨by (try simp only [pushed_next', upded_next']); omega, ?_⟩, hJs k s2 _ gJ (by (try simp only [pushed_next', upded_next']); omega) fun i hi => ?_⟩
            · rw [hcn]
              rcases hU with ⟨hce, hw⟩ | ⟨bu, hw, hne, hb1, hb2, hb3⟩
              · exact .inl ⟨hce, by simp [hw]⟩
              · exact .inr ⟨bu, by simp [hw], hne, hb1, by omega, by rw [qb _ hb2]; exact hb3⟩
            · rw [← gold i hi hx]; simp -implicitDefEqProofs (disch := omega) [qb]
            · simp -implicitDefEqProofs (disch := omega) [qb, ggh]
            · simp -implicitDefEqProofs (disch := omega) [qb, gHA.2]
            · simp -implicitDefEqProofs (disch := omega) [qb]
        · simp at d0; omega
      · obtain rfl : j = n := by omega
        with_reducible repeat first|apply Z0|apply Z1|apply Z2|apply Z3|apply Z4|apply Z5|refine Z6 rfl ?_|apply Z7|apply Z8|apply Z9|apply Z10|apply Z11|apply Z12|apply Z13|apply Z14|apply Z15|apply Z16
        refine Cd.reg (by kernel_rfl) (by conv => lhs; simp only [List.map_cons, List.map_nil]) (by conv => lhs; simp only [List.map_cons, List.map_nil, strip]) ?_
        apply Run.by_eq
        · intro self
          conv => lhs; simp -implicitDefEqProofs (maxSteps := 300000) (disch := omega) [-getElem?_pos, -getElem?_neg, g17, g16]
        try (with_reducible refine Run.ret ?_)
        with_reducible repeat first|apply Z0|apply Z1|apply Z2|apply Z3|apply Z4|apply Z5|refine Z6 rfl ?_|apply Z7|apply Z8|apply Z9|apply Z10|apply Z11|apply Z12|apply Z13|apply Z14|apply Z15|apply Z16
        with_reducible repeat first|apply Z0|apply Z1|apply Z2|apply Z3|apply Z4|apply Z5|refine Z6 rfl ?_|apply Z7|apply Z8|apply Z9|apply Z10|apply Z11|apply Z12|apply Z13|apply Z14|apply Z15|apply Z16
        apply Cd.ite rfl
        · conv => lhs; simp -implicitDefEqProofs (maxSteps := 300000) (disch := omega) [-getElem?_pos, -getElem?_neg]
        all_goals intro d0
        all_goals try (cases d0; done)
        all_goals try simp only [Bool.not_eq_true', Bool.not_eq_false', decide_eq_true_eq, decide_eq_false_iff_not] at d0
        all_goals with_reducible repeat first|apply Z0|apply Z1|apply Z2|apply Z3|apply Z4|apply Z5|refine Z6 rfl ?_|apply Z7|apply Z8|apply Z9|apply Z10|apply Z11|apply Z12|apply Z13|apply Z14|apply Z15|apply Z16
        obtain ⟨hd, tl, hcl⟩ : ∃ hd tl, clsN rt k j = hd :: tl := by
          cases hc : clsN rt k j with
          | nil => exact absurd hc (cls_self rt hlt)
          | cons a l => exact ⟨a, l, rfl⟩
        have hints := hU.ints
        rcases hU with ⟨hce, hw⟩ | ⟨bu, hw, hne, hb1, hb2, hb3⟩
        · rw [hcl] at hce; cases hce
        rw [hcl] at hb3 hw
        simp only [List.map_cons, List.length_cons] at hb3 hw
        rw [hw] at hints
        have hskipEnd : isLead rt j k = false → ∀ (f3 : Fr) (s3 : St), f3.marks = [] → f3.get 12 = .int .i64 k → f3.get 11 = .int .i64 j → f3.get 0 = yv → f3.get 1 = .pointer (some ⟨bp, 0, none⟩) → f3.get 3 = .pointer (some ⟨w1.next, 0, none⟩) → f3.get 4 = .int .i64 (leads rt j k).length → Keep s2 s3 →
            ∃ k' : Nat, k' = k + 1 ∧ (leads rt j k').length = (leads rt j k).length ∧ w1.next < s3.next ∧ (∀ i, i < s.next → ¬ X i → s3.heap.get i = s.heap.get i) ∧ s3.heap.get w1.next = some (.cells [.map (some b)] none) ∧ HeadsAt s3 b es ∧ J k' s3 := fun hL f3 s3 _ _ _ _ _ _ _ hk3 => by
          refine ⟨k + 1, rfl, by rw [leads_succ, hL]; rfl, Nat.lt_of_lt_of_le gnx hk3.1, fun i hi hx => (hk3.2 i (by omega)).trans (gold i hi hx), (hk3.2 _ gnx).trans ggh, gHA.keep hk3, hskip k s3 hlt hL (hJs k s2 s3 gJ hk3.1 fun i hi => hk3.2 i (by omega))⟩
        by_cases hdk : hd = (k : Int)
        · subst hdk
          with_reducible repeat first|apply Z0|apply Z1|apply Z2|apply Z3|apply Z4|apply Z5|refine Z6 rfl ?_|apply Z7|apply Z8|apply Z9|apply Z10|apply Z11|apply Z12|apply Z13|apply Z14|apply Z15|apply Z16
          refine Cd.reg (by kernel_rfl) (by conv => lhs; simp only [List.map_cons, List.map_nil]) (by conv => lhs; simp only [List.map_cons, List.map_nil, strip]) ?_
          apply Run.by_eq
          · intro self
            conv => lhs; simp -implicitDefEqProofs (maxSteps := 300000) (disch := omega) [-getElem?_pos, -getElem?_neg, hw, hb3, g5, g3, ggh]
          try (with_reducible refine Run.ret ?_)
          with_reducible repeat first|apply Z0|apply Z1|apply Z2|apply Z3|apply Z4|apply Z5|refine Z6 rfl ?_|apply Z7|apply Z8|apply Z9|apply Z10|apply Z11|apply Z12|apply Z13|apply Z14|apply Z15|apply Z16
          refine Run.call ((joined_ev b es rt k (-1) _ gHA hF).mono fun v wq hv => ?_)
          obtain ⟨rfl, q⟩ := hv
          have qa := q.1
          have qb := q.2
          try simp only [pushed_next', upded_next'] at qa qb
          apply Run.by_eq
          · intro self
            conv => lhs; simp -implicitDefEqProofs (maxSteps := 300000) (disch := omega) [-getElem?_pos, -getElem?_neg]
          try (with_reducible refine Run.ret ?_)
          with_reducible repeat first|apply Z0|apply Z1|apply Z2|apply Z3|apply Z4|apply Z5|refine Z6 rfl ?_|apply Z7|apply Z8|apply Z9|apply Z10|apply Z11|apply Z12|apply Z13|apply Z14|apply Z15|apply Z16
          by_cases hro : rt k = rt (-1)
          · have hL : isLead rt j k = false := by unfold isLead; simp [hro]
            with_reducible repeat first|apply Z0|apply Z1|apply Z2|apply Z3|apply Z4|apply Z5|refine Z6 rfl ?_|apply Z7|apply Z8|apply Z9|apply Z10|apply Z11|apply Z12|apply Z13|apply Z14|apply Z15|apply Z16
            apply Cd.ite rfl
            · conv => lhs; simp -implicitDefEqProofs (maxSteps := 300000) (disch := omega) [-getElem?_pos, -getElem?_neg, hro]
            all_goals intro d2
            all_goals try (cases d2; done)
            all_goals try simp only [Bool.not_eq_true', Bool.not_eq_false', decide_eq_true_eq, decide_eq_false_iff_not] at d2
            all_goals with_reducible repeat first|apply Z0|apply Z1|apply Z2|apply Z3|apply Z4|apply Z5|refine Z6 rfl ?_|apply Z7|apply Z8|apply Z9|apply Z10|apply Z11|apply Z12|apply Z13|apply Z14|apply Z15|apply Z16
            with_reducible repeat first|apply Z0|apply Z1|apply Z2|apply Z3|apply Z4|apply Z5|refine Z6 rfl ?_|apply Z7|apply Z8|apply Z9|apply Z10|apply Z11|apply Z12|apply Z13|apply Z14|apply Z15|apply Z16
            refine Cd.reg (by kernel_rfl) (by conv => lhs; simp only [List.map_cons, List.map_nil]) (by conv => lhs; simp only [List.map_cons, List.map_nil, strip]) ?_
            apply Run.by_eq
            · intro self
              conv => lhs; simp -implicitDefEqProofs (maxSteps := 300000) (disch := omega) [-getElem?_pos, -getElem?_neg, g12]
            try (with_reducible refine Run.ret ?_)
            with_reducible repeat first|apply Z0|apply Z1|apply Z2|apply Z3|apply Z4|apply Z5|refine Z6 rfl ?_|apply Z7|apply Z8|apply Z9|apply Z10|apply Z11|apply Z12|apply Z13|apply Z14|apply Z15|apply Z16
            obtain ⟨k', rfl, e1, e2, e3, e4, e5, e6⟩ := hskipEnd hL f2 wq gm g12 g11 g0 g1 g3 g4 q
            exact LoopK.nm (j - (k + 1)) (by omega) ⟨k + 1, by omega, rfl, by simp [gm], by simp, by simp [g11], by simp [g0], by simp [g1], by simp [g3], by simp [g4, e1], e2, e3, e4, e5, e6⟩
          · have hL : isLead rt j k = true := by unfold isLead; simp [hro, hcl]
            with_reducible repeat first|apply Z0|apply Z1|apply Z2|apply Z3|apply Z4|apply Z5|refine Z6 rfl ?_|apply Z7|apply Z8|apply Z9|apply Z10|apply Z11|apply Z12|apply Z13|apply Z14|apply Z15|apply Z16
            apply Cd.ite rfl
            · conv => lhs; simp -implicitDefEqProofs (maxSteps := 300000) (disch := omega) [-getElem?_pos, -getElem?_neg, hro]
            all_goals intro d2
            all_goals try (cases d2; done)
            all_goals try simp only [Bool.not_eq_true', Bool.not_eq_false', decide_eq_true_eq, decide_eq_false_iff_not] at d2
            all_goals with_reducible repeat first|apply Z0|apply Z1|apply Z2|apply Z3|apply Z4|apply Z5|refine Z6 rfl ?_|apply Z7|apply Z8|apply Z9|apply Z10|apply Z11|apply Z12|apply Z13|apply Z14|apply Z15|apply Z16
            with_reducible repeat first|apply Z0|apply Z1|apply Z2|apply Z3|apply Z4|apply Z5|refine Z6 rfl ?_|apply Z7|apply Z8|apply Z9|apply Z10|apply Z11|apply Z12|apply Z13|apply Z14|apply Z15|apply Z16
            refine Cd.reg (by kernel_rfl) (by conv => lhs; simp only [List.map_cons, List.map_nil]) (by conv => lhs; simp only [List.map_cons, List.map_nil, strip]) ?_
            apply Run.by_eq
            · intro self
              conv => lhs; simp -implicitDefEqProofs (maxSteps := 300000) (disch := omega) [-getElem?_pos, -getElem?_neg, g0, g4, hw]
            try (with_reducible refine Run.ret ?_)
            with_reducible repeat first|apply Z0|apply Z1|apply Z2|apply Z3|apply Z4|apply Z5|refine Z6 rfl ?_|apply Z7|apply Z8|apply Z9|apply Z10|apply Z11|apply Z12|apply Z13|apply Z14|apply Z15|apply Z16
            refine Run.callV ((hyield k wq _ hlt hL (hJs k s2 wq gJ q.1 fun i hi => q.2 i (by omega)) (by omega) (hints.keep q) ⟨bu, by omega, by rw [hcl]; rfl⟩).mono fun p hp => ?_)
            obtain ⟨pv, ps⟩ := p
            obtain ⟨p1, p2, p3⟩ := hp
            simp only [] at p1 p2 p3
            have hll : (leads rt j k).length ≤ k := by unfold leads; exact Nat.le_trans (List.length_filter_le _ _) (by simp)
            have hXo : ∀ i, s.next ≤ i → ¬ X i := fun i hi hx => absurd (hX i hx) (by omega)
            rcases p1 with ⟨rfl, p1⟩ | ⟨rfl, p1⟩
            · apply Run.by_eq
              · intro self
                conv => lhs; simp -implicitDefEqProofs (maxSteps := 300000) (disch := omega) [-getElem?_pos, -getElem?_neg]
              try (with_reducible refine Run.ret ?_)
              with_reducible repeat first|apply Z0|apply Z1|apply Z2|apply Z3|apply Z4|apply Z5|refine Z6 rfl ?_|apply Z7|apply Z8|apply Z9|apply Z10|apply Z11|apply Z12|apply Z13|apply Z14|apply Z15|apply Z16
              with_reducible repeat first|apply Z0|apply Z1|apply Z2|apply Z3|apply Z4|apply Z5|refine Z6 rfl ?_|apply Z7|apply Z8|apply Z9|apply Z10|apply Z11|apply Z12|apply Z13|apply Z14|apply Z15|apply Z16
              apply Cd.ite rfl
              · conv => lhs; simp -implicitDefEqProofs (maxSteps := 300000) (disch := omega) [-getElem?_pos, -getElem?_neg]
              all_goals intro d3
              all_goals try (cases d3; done)
              all_goals try simp only [Bool.not_eq_true', Bool.not_eq_false', decide_eq_true_eq, decide_eq_false_iff_not] at d3
              all_goals with_reducible repeat first|apply Z0|apply Z1|apply Z2|apply Z3|apply Z4|apply Z5|refine Z6 rfl ?_|apply Z7|apply Z8|apply Z9|apply Z10|apply Z11|apply Z12|apply Z13|apply Z14|apply Z15|apply Z16
              with_reducible repeat first|apply Z0|apply Z1|apply Z2|apply Z3|apply Z4|apply Z5|refine Z6 rfl ?_|apply Z7|apply Z8|apply Z9|apply Z10|apply Z11|apply Z12|apply Z13|apply Z14|apply Z15|apply Z16
              refine Cd.reg (by kernel_rfl) (by conv => lhs; simp only [List.map_cons, List.map_nil]) (by conv => lhs; simp only [List.map_cons, List.map_nil, strip]) ?_
              apply Run.by_eq
              · intro self
                conv => lhs; simp -implicitDefEqProofs (maxSteps := 300000) (disch := omega) [-getElem?_pos, -getElem?_neg, g4]
              try (with_reducible refine Run.ret ?_)
              with_reducible repeat first|apply Z0|apply Z1|apply Z2|apply Z3|apply Z4|apply Z5|refine Z6 rfl ?_|apply Z7|apply Z8|apply Z9|apply Z10|apply Z11|apply Z12|apply Z13|apply Z14|apply Z15|apply Z16
              with_reducible repeat first|apply Z0|apply Z1|apply Z2|apply Z3|apply Z4|apply Z5|refine Z6 rfl ?_|apply Z7|apply Z8|apply Z9|apply Z10|apply Z11|apply Z12|apply Z13|apply Z14|apply Z15|apply Z16
              refine Cd.reg (by kernel_rfl) (by conv => lhs; simp only [List.map_cons, List.map_nil]) (by conv => lhs; simp only [List.map_cons, List.map_nil, strip]) ?_
              apply Run.by_eq
              · intro self
                conv => lhs; simp -implicitDefEqProofs (maxSteps := 300000) (disch := omega) [-getElem?_pos, -getElem?_neg, g12]
              try (with_reducible refine Run.ret ?_)
              with_reducible repeat first|apply Z0|apply Z1|apply Z2|apply Z3|apply Z4|apply Z5|refine Z6 rfl ?_|apply Z7|apply Z8|apply Z9|apply Z10|apply Z11|apply Z12|apply Z13|apply Z14|apply Z15|apply Z16
              refine LoopK.nm (j - (k + 1)) (by omega) ⟨k + 1, by omega, rfl, by simp [gm], by simp, by simp [g11], by simp [g0], by simp [g1], by simp [g3], ?_, by omega, fun i hi hx => ?_, ?_, ⟨by omega, ?_⟩, p1⟩
              · rw [leads_succ, hL]; simp
              · rw [p3 i (by omega) hx, qb i (by omega)]; exact gold i hi hx
              · rw [p3 _ (by omega) (hXo _ (by omega)), qb _ (by omega)]; exact ggh
              · rw [p3 _ (by omega) (hXo _ hbs), qb _ (by omega)]; exact gHA.2
            · apply Run.by_eq
              · intro self
                conv => lhs; simp -implicitDefEqProofs (maxSteps := 300000) (disch := omega) [-getElem?_pos, -getElem?_neg]
              try (with_reducible refine Run.ret ?_)
              with_reducible repeat first|apply Z0|apply Z1|apply Z2|apply Z3|apply Z4|apply Z5|refine Z6 rfl ?_|apply Z7|apply Z8|apply Z9|apply Z10|apply Z11|apply Z12|apply Z13|apply Z14|apply Z15|apply Z16
              with_reducible repeat first|apply Z0|apply Z1|apply Z2|apply Z3|apply Z4|apply Z5|refine Z6 rfl ?_|apply Z7|apply Z8|apply Z9|apply Z10|apply Z11|apply Z12|apply Z13|apply Z14|apply Z15|apply Z16
              apply Cd.ite rfl
              · conv => lhs; simp -implicitDefEqProofs (maxSteps := 300000) (disch := omega) [-getElem?_pos, -getElem?_neg]
              all_goals intro d3
              all_goals try (cases d3; done)
              all_goals try simp only [Bool.not_eq_true', Bool.not_eq_false', decide_eq_true_eq, decide_eq_false_iff_not] at d3
              all_goals with_reducible repeat first|apply Z0|apply Z1|apply Z2|apply Z3|apply Z4|apply Z5|refine Z6 rfl ?_|apply Z7|apply Z8|apply Z9|apply Z10|apply Z11|apply Z12|apply Z13|apply Z14|apply Z15|apply Z16
              apply Leave.mk (by first | exact .inl rfl | exact .inr rfl) (by simp only [Fr.marks_put, fr0_marks, gm])
              · conv => lhs; simp -implicitDefEqProofs (disch := omega) [Try.results59, gm]
              refine ⟨.inr ⟨k, hlt, hL, p1⟩, by omega, fun i hi hx => ?_⟩
              rw [p3 i (by omega) hx, qb i (by omega)]; exact gold i hi hx
        · have hL : isLead rt j k = false := by unfold isLead; simp [hcl, hdk]
          with_reducible repeat first|apply Z0|apply Z1|apply Z2|apply Z3|apply Z4|apply Z5|refine Z6 rfl ?_|apply Z7|apply Z8|apply Z9|apply Z10|apply Z11|apply Z12|apply Z13|apply Z14|apply Z15|apply Z16
          refine Cd.reg (by kernel_rfl) (by conv => lhs; simp only [List.map_cons, List.map_nil]) (by conv => lhs; simp only [List.map_cons, List.map_nil, strip]) ?_
          apply Run.by_eq
          · intro self
            conv => lhs; simp -implicitDefEqProofs (maxSteps := 300000) (disch := omega) [-getElem?_pos, -getElem?_neg, hw, hb3, g5, hdk]
          try (with_reducible refine Run.ret ?_)
          with_reducible repeat first|apply Z0|apply Z1|apply Z2|apply Z3|apply Z4|apply Z5|refine Z6 rfl ?_|apply Z7|apply Z8|apply Z9|apply Z10|apply Z11|apply Z12|apply Z13|apply Z14|apply Z15|apply Z16
          with_reducible repeat first|apply Z0|apply Z1|apply Z2|apply Z3|apply Z4|apply Z5|refine Z6 rfl ?_|apply Z7|apply Z8|apply Z9|apply Z10|apply Z11|apply Z12|apply Z13|apply Z14|apply Z15|apply Z16
          apply Cd.ite rfl
          · conv => lhs; simp -implicitDefEqProofs (maxSteps := 300000) (disch := omega) [-getElem?_pos, -getElem?_neg]
          all_goals intro d2
          all_goals try (cases d2; done)
          all_goals try simp only [Bool.not_eq_true', Bool.not_eq_false', decide_eq_true_eq, decide_eq_false_iff_not] at d2
          all_goals with_reducible repeat first|apply Z0|apply Z1|apply Z2|apply Z3|apply Z4|apply Z5|refine Z6 rfl ?_|apply Z7|apply Z8|apply Z9|apply Z10|apply Z11|apply Z12|apply Z13|apply Z14|apply Z15|apply Z16
          with_reducible repeat first|apply Z0|apply Z1|apply Z2|apply Z3|apply Z4|apply Z5|refine Z6 rfl ?_|apply Z7|apply Z8|apply Z9|apply Z10|apply Z11|apply Z12|apply Z13|apply Z14|apply Z15|apply Z16
          refine Cd.reg (by kernel_rfl) (by conv => lhs; simp only [List.map_cons, List.map_nil]) (by conv => lhs; simp only [List.map_cons, List.map_nil, strip]) ?_
          apply Run.by_eq
          · intro self
            conv => lhs; simp -implicitDefEqProofs (maxSteps := 300000) (disch := omega) [-getElem?_pos, -getElem?_neg, g12]
          try (with_reducible refine Run.ret ?_)
          with_reducible repeat first|apply Z0|apply Z1|apply Z2|apply Z3|apply Z4|apply Z5|refine Z6 rfl ?_|apply Z7|apply Z8|apply Z9|apply Z10|apply Z11|apply Z12|apply Z13|apply Z14|apply Z15|apply Z16
          obtain ⟨k', rfl, e1, e2, e3, e4, e5, e6⟩ := hskipEnd hL f2 s2 gm g12 g11 g0 g1 g3 g4 (Keep.refl _)
          exact LoopK.nm (j - (k + 1)) (by omega) ⟨k + 1, by omega, rfl, by simp [gm], by simp, by simp [g11], by simp [g0], by simp [g1], by simp [g3], by simp [g4, e1], e2, e3, e4, e5, e6⟩
    · simp at c0; omega
  · obtain rfl : k = n := by omega
    with_reducible repeat first|apply Z0|apply Z1|apply Z2|apply Z3|apply Z4|apply Z5|refine Z6 rfl ?_|apply Z7|apply Z8|apply Z9|apply Z10|apply Z11|apply Z12|apply Z13|apply Z14|apply Z15|apply Z16
    refine Cd.reg (by kernel_rfl) (by conv => lhs; simp only [List.map_cons, List.map_nil]) (by conv => lhs; simp only [List.map_cons, List.map_nil, strip]) ?_
    apply Run.by_eq
    · intro self
      conv => lhs; simp -implicitDefEqProofs (maxSteps := 300000) (disch := omega) [-getElem?_pos, -getElem?_neg, h12, h11]
    try (with_reducible refine Run.ret ?_)
    with_reducible repeat first|apply Z0|apply Z1|apply Z2|apply Z3|apply Z4|apply Z5|refine Z6 rfl ?_|apply Z7|apply Z8|apply Z9|apply Z10|apply Z11|apply Z12|apply Z13|apply Z14|apply Z15|apply Z16
    with_reducible repeat first|apply Z0|apply Z1|apply Z2|apply Z3|apply Z4|apply Z5|refine Z6 rfl ?_|apply Z7|apply Z8|apply Z9|apply Z10|apply Z11|apply Z12|apply Z13|apply Z14|apply Z15|apply Z16
    apply Cd.ite rfl
    · conv => lhs; simp -implicitDefEqProofs (maxSteps := 300000) (disch := omega) [-getElem?_pos, -getElem?_neg]
    all_goals intro c0
    all_goals try (cases c0; done)
    all_goals try simp only [Bool.not_eq_true', Bool.not_eq_false', decide_eq_true_eq, decide_eq_false_iff_not] at c0
    all_goals with_reducible repeat first|apply Z0|apply Z1|apply Z2|apply Z3|apply Z4|apply Z5|refine Z6 rfl ?_|apply Z7|apply Z8|apply Z9|apply Z10|apply Z11|apply Z12|apply Z13|apply Z14|apply Z15|apply Z16
    apply Leave.mk (by first | exact .inl rfl | exact .inr rfl) (by simp only [Fr.marks_put, fr0_marks, hm])
    · conv => lhs; simp -implicitDefEqProofs (disch := omega) [Try.results59, hm]
    exact ⟨.inl hJ, by omega, hold⟩
end Go.Proofs.Ytifkpaomhnlahaa
