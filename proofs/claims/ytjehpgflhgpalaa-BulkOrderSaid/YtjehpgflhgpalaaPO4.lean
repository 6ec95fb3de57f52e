/-
  What hangs on an end is settled as stated, for every tree. A balance is settled as stated, for every plant. If no part has an excess, as much comes to each unit as goes from it. A flow that is found carries what its side has as excess. Prove and the reference's Prove answer as stated, for every plant. Close answers as stated, for every plant. Regions that draw their order and make blocks, as equations. The reference's Close answers as stated, for every plant. Slices are copied and appended whole, as stated. Verify answers as stated, for every plant and balance. The reference's Verify answers as stated, for every plant and balance. A plant with no excess has a balance also when a flow is measured in addition, as far as it may be. A set of units that no flow leaves but measured ones has no excess, if there is a balance. One mass of a mill by numbers is as its list says, and one bit of a number. What a mill by numbers is: ends, masses and what units have left. Any balance tells what is found of flows. The masses of a mill are a balance, and the mill is a valid plant. A mill by numbers is made as stated, for every list of ends and masses. Bits of a byte, and what Refutes says of ascending units. Rounds over flows that are not measured meet just what they join. The law asks whether ends are joined, and is told just that. The law BulkProves is calculated true, for every argument. What is true of a plant with a balance. They hold with no condition but those that are written in each theorem.
-/
import Derived.Test.YtjehpgflhgpalaaPO1
import Derived.Test.YtjehpgflhgpalaaPO2
import Derived.Test.YtjehpgflhgpalaaPO3
set_option linter.unusedSimpArgs false
set_option linter.unusedVariables false
namespace Go.Proofs.Ytjehpgflhgpalaa
open Go Kern
/-- Masses in memory, one after the other. -/
def balL (B : Nat → Mass) (len : Nat) : List Value := ((List.range len).map fun j => (B j).cs).flatten
theorem balL_length (B : Nat → Mass) : ∀ len, (balL B len).length = len * 4
  | 0 => rfl
  | k + 1 => by
    have := balL_length B k
    unfold balL at this ⊢
    rw [List.range_succ, List.map_append, List.flatten_append, List.length_append, this]
    simp [Mass.cs]; omega
theorem balL_succ (B : Nat → Mass) (k : Nat) : balL B (k + 1) = balL B k ++ (B k).cs := by
  unfold balL
  rw [List.range_succ, List.map_append, List.flatten_append]; simp
theorem putL_append {α : Type} (vs : List α) : ∀ (a b : List α), putL a.length vs (a ++ b) = ob (overL vs b) fun r => some (a ++ r)
  | [], b => by
    show overL vs b = _
    cases overL vs b <;> rfl
  | x :: a, b => by
    show ob (putL a.length vs (a ++ b)) (fun l => some (x :: l)) = _
    rw [putL_append vs a b]
    cases overL vs b <;> rfl
theorem overL_same {α : Type} : ∀ (vs b r : List α), vs.length = b.length → overL vs (b ++ r) = some (vs ++ r)
  | [], [], _, _ => rfl
  | v :: vs, x :: b, r, h => by
    show ob (overL vs (b ++ r)) (fun l => some (v :: l)) = _
    rw [overL_same vs b r (by simpa using h)]; rfl
theorem balL_cut (B : Nat → Mass) {i : Nat} : ∀ {len : Nat}, i < len → ∃ r, balL B len = balL B i ++ ((B i).cs ++ r) ∧ ∀ m : Mass, balL (fun j => if j = i then m else B j) len = balL B i ++ (m.cs ++ r)
  | 0, h => by omega
  | k + 1, h => by
    have hpre : ∀ m : Mass, ∀ q, q ≤ i → balL (fun j => if j = i then m else B j) q = balL B q := fun m q hq => by
      unfold balL
      congr 1
      apply List.map_congr_left
      intro x hx
      have : x < q := by simpa using hx
      show (if x = i then m else B x).cs = _
      rw [if_neg (by omega)]
    by_cases e : i = k
    · subst e
      refine ⟨[], by rw [balL_succ, List.append_nil], fun m => ?_⟩
      rw [balL_succ, hpre m i (Nat.le_refl _), if_pos rfl, List.append_nil]
    · obtain ⟨r, h1, h2⟩ := balL_cut B (i := i) (len := k) (by omega)
      refine ⟨r ++ (B k).cs, by rw [balL_succ, h1]; simp, fun m => ?_⟩
      rw [balL_succ, h2 m, if_neg (fun q => e q.symm)]; simp
theorem balL_put (B : Nat → Mass) {i len : Nat} (h : i < len) (m : Mass) : putL (i * 4) [.int .i64 m.a, .int .i64 m.b, .int .i64 m.c, .int .i64 m.d] (balL B len) = some (balL (fun j => if j = i then m else B j) len) := by
  obtain ⟨r, h1, h2⟩ := balL_cut B h
  rw [h1, h2 m, ← balL_length B i, putL_append]
  have := overL_same m.cs (B i).cs r rfl
  unfold Mass.cs at this ⊢
  rw [this]; rfl
theorem balL_get (B : Nat → Mass) {i len : Nat} (h : i < len) : takeL 4 ((balL B len).drop (i * 4)) = some (B i).cs := by
  unfold balL
  exact drop_flat (fun x hx => by obtain ⟨j, _, rfl⟩ := List.mem_map.1 hx; rfl) (by rw [List.getElem?_map, List.getElem?_range h]; rfl)
/-- Which ends are reached, in memory. -/
def reachL (R : Int → Bool) : List Value := (List.range 9).map fun x : Nat => Value.bool (R ((x : Int) - 1))
theorem reachL_put (R : Int → Bool) {e : Int} (h : -1 ≤ e ∧ e < 8) : putL (e + 1).toNat [.bool true] (reachL R) = some (reachL fun x => R x || decide (x = e)) := by
  rw [putL_set _ _ _ (by simp [reachL]; omega)]
  unfold reachL
  rw [range_setV (h := fun x : Nat => Value.bool (R ((x : Int) - 1) || decide ((x : Int) - 1 = e))) (by omega) (fun x _ hx => by
    have : ¬ (x : Int) - 1 = e := by omega
    simp [this]) (by
    have : (((e + 1).toNat : Nat) : Int) - 1 = e := by omega
    show Value.bool true = Value.bool (R ((((e + 1).toNat : Nat) : Int) - 1) || decide ((((e + 1).toNat : Nat) : Int) - 1 = e))
    rw [this]; simp)]
theorem reachL_get (R : Int → Bool) {e : Int} (h : -1 ≤ e ∧ e < 8) : (reachL R)[(e + 1).toNat]? = some (.bool (R e)) := by
  unfold reachL
  have h1 : (e + 1).toNat < 9 := by omega
  have h2 : (((e + 1).toNat : Nat) : Int) - 1 = e := by omega
  rw [List.getElem?_map, List.getElem?_range h1]
  show some (Value.bool (R ((((e + 1).toNat : Nat) : Int) - 1))) = _
  rw [h2]
/-- What the function that gathers finds in memory. -/
structure GC (s0 s : St) (u : Int) (v : Value) (fs : List FlowD) (ρ π φv φ γ βv β : Nat) : Prop where
  base : s0.next ≤ s.next
  old : ∀ i, i < s0.next → s.heap.get i = s0.heap.get i
  newR : s0.next ≤ ρ ∧ ρ < s.next
  newB : s0.next ≤ β ∧ β < s.next
  ne : ρ ≠ β
  gπ : π < s.next ∧ π ≠ ρ ∧ π ≠ β ∧ s.heap.get π = some (.cells [.int .i64 u, v] none)
  gφv : φv < s.next ∧ φv ≠ ρ ∧ φv ≠ β ∧ s.heap.get φv = some (.cells [.slice (some ⟨φ, 0, none⟩) fs.length fs.length] none)
  gφ : φ < s.next ∧ φ ≠ ρ ∧ φ ≠ β ∧ s.heap.get φ = some (.cells ((List.range fs.length).map fun j => Value.bool (chB fs j)) none)
  gγ : γ < s.next ∧ γ ≠ ρ ∧ γ ≠ β ∧ s.heap.get γ = some (.cells [.func (.func 65) #[] #[.pointer (some ⟨ρ, 0, none⟩), .pointer (some ⟨π, 0, none⟩), .pointer (some ⟨φv, 0, none⟩), .pointer (some ⟨γ, 0, none⟩), .pointer (some ⟨βv, 0, none⟩)]] none)
  gβv : βv < s.next ∧ βv ≠ ρ ∧ βv ≠ β ∧ s.heap.get βv = some (.cells [.slice (some ⟨β, 0, none⟩) fs.length fs.length] none)
theorem GC.keep {s0 s s' : St} {u : Int} {v : Value} {fs : List FlowD} {ρ π φv φ γ βv β : Nat} (h : GC s0 s u v fs ρ π φv φ γ βv β) (h1 : s.next ≤ s'.next) (h2 : ∀ i, i < s.next → i ≠ ρ → i ≠ β → s'.heap.get i = s.heap.get i) : GC s0 s' u v fs ρ π φv φ γ βv β where
  base := Nat.le_trans h.base h1
  old := fun i hi => by
    have := h.base; have := h.newR.1; have := h.newB.1
    rw [h2 i (by omega) (by omega) (by omega)]; exact h.old i hi
  newR := ⟨h.newR.1, Nat.lt_of_lt_of_le h.newR.2 h1⟩
  newB := ⟨h.newB.1, Nat.lt_of_lt_of_le h.newB.2 h1⟩
  ne := h.ne
  gπ := ⟨Nat.lt_of_lt_of_le h.gπ.1 h1, h.gπ.2.1, h.gπ.2.2.1, by rw [h2 _ h.gπ.1 h.gπ.2.1 h.gπ.2.2.1]; exact h.gπ.2.2.2⟩
  gφv := ⟨Nat.lt_of_lt_of_le h.gφv.1 h1, h.gφv.2.1, h.gφv.2.2.1, by rw [h2 _ h.gφv.1 h.gφv.2.1 h.gφv.2.2.1]; exact h.gφv.2.2.2⟩
  gφ := ⟨Nat.lt_of_lt_of_le h.gφ.1 h1, h.gφ.2.1, h.gφ.2.2.1, by rw [h2 _ h.gφ.1 h.gφ.2.1 h.gφ.2.2.1]; exact h.gφ.2.2.2⟩
  gγ := ⟨Nat.lt_of_lt_of_le h.gγ.1 h1, h.gγ.2.1, h.gγ.2.2.1, by rw [h2 _ h.gγ.1 h.gγ.2.1 h.gγ.2.2.1]; exact h.gγ.2.2.2⟩
  gβv := ⟨Nat.lt_of_lt_of_le h.gβv.1 h1, h.gβv.2.1, h.gβv.2.2.1, by rw [h2 _ h.gβv.1 h.gβv.2.1 h.gβv.2.2.1]; exact h.gβv.2.2.2⟩
set_option maxRecDepth 100000 in
set_option maxHeartbeats 4000000 in
theorem gather_ev (n : Nat) (v : Value) (fs : List FlowD) (s0 : St) (ρ π φv φ γ βv β : Nat) (K W : Int) (hn : n ≤ 8) (hf0 : FlAt s0 v fs) (hl : fs.length ≤ 1000) (hends : ∀ f ∈ fs, (-1 ≤ f.fr ∧ f.fr < n) ∧ (-1 ≤ f.to ∧ f.to < n)) (hne : ∀ f ∈ fs, f.fr ≠ f.to)
    (hB12 : ∀ f ∈ fs, f.me = true → f.m.le 1000000000000) (hK : 0 ≤ K) (hexc : ∀ e : Int, (excM [e] fs).le K) (hW : ((n : Int) + 1) * K ≤ W) (hW62 : W ≤ 4611686018427387904) :
    ∀ (m : Nat) (e b : Int) (R0 : Int → Bool) (B0 : Nat → Mass) (s : St), cntP n (Path fs (FE fs b) e) ≤ m → -1 ≤ e → e < n → (∀ (j : Nat) (g : FlowD), (j : Int) = b → fs[j]? = some g → g.fr = e ∨ g.to = e) →
      GC s0 s n v fs ρ π φv φ γ βv β → s.heap.get ρ = some (.cells (reachL R0) none) → s.heap.get β = some (.cells (balL B0 fs.length) none) → (∀ j, (B0 j).le W) →
      Ev TT 65 [.int .i64 e, .int .i64 b, .pointer (some ⟨ρ, 0, none⟩), .pointer (some ⟨π, 0, none⟩), .pointer (some ⟨φv, 0, none⟩), .pointer (some ⟨γ, 0, none⟩), .pointer (some ⟨βv, 0, none⟩)] s fun r s' =>
        ∃ (R : Int → Bool) (B : Nat → Mass) (left : Mass), r = left.v ∧ GDone fs n K W e b R0 B0 R B left ∧ s.next ≤ s'.next ∧ (∀ i, i < s.next → i ≠ ρ → i ≠ β → s'.heap.get i = s.heap.get i) ∧ s'.heap.get ρ = some (.cells (reachL R) none) ∧ s'.heap.get β = some (.cells (balL B fs.length) none) := by
  intro m
  induction m using Nat.strongRecOn with
  | _ m ih =>
  intro e b R0 B0 s hm he1 he2 hinc hC hρ hβ hBW
  obtain ⟨a, c, rfl⟩ := hf0.shape
  rw [List.length_map] at hf0 hC ih
  obtain ⟨hb1, hb2, ⟨hρ1, hρ2⟩, ⟨hβ1, hβ2⟩, hρβ, ⟨hπ1, hπ2, hπ3, hπ4⟩, ⟨hv1, hv2, hv3, hv4⟩, ⟨hφ1, hφ2, hφ3, hφ4⟩, ⟨hγ1, hγ2, hγ3, hγ4⟩, ⟨hw1, hw2, hw3, hw4⟩⟩ := id hC
  have ne := natOf_pos .i64 (show 0 ≤ e + 1 by omega)
  have hput := reachL_put R0 (e := e) (by omega)
  have hee : e - -1 = e + 1 := by omega
  refine Ev.intro (fn := Try.f65) rfl (by kernel_rfl) rfl rfl ?_
  apply zz
  refine Cd.ra (h := ?_)
  apply Run.by_eq
  · intro self
    conv => lhs; simp -implicitDefEqProofs (maxSteps := 300000) (disch := omega) [-getElem?_pos, -getElem?_neg]
  try (with_reducible refine Run.ret ?_)
  apply zz
  refine Cd.ra (h := ?_)
  apply Run.by_eq
  · intro self
    conv => lhs; simp -implicitDefEqProofs (maxSteps := 300000) (disch := omega) [-getElem?_pos, -getElem?_neg, ne, hρ, hput, hee]
  try (with_reducible refine Run.ret ?_)
  apply zz
  refine Cd.ra (h := ?_)
  apply Run.by_eq
  · intro self
    conv => lhs; simp -implicitDefEqProofs (maxSteps := 300000) (disch := omega) [-getElem?_pos, -getElem?_neg, hπ4]
  try (with_reducible refine Run.ret ?_)
  apply zz
  have hkX : ∀ {s' : St}, s.next ≤ s'.next → (∀ i, i < s.next → i ≠ ρ → i ≠ β → s'.heap.get i = s.heap.get i) → FlAt s' (.slice a fs.length c) fs := fun h1 h2 => by
    have hC' := hC.keep h1 h2
    exact hf0.keep ⟨hC'.base, hC'.old⟩
  refine Run.call ((excess_ev n (.slice a fs.length c) (.slice (some ⟨s.next + 1, 0, none⟩) 1 1) fs [e] _ (hkX (by (try simp only [pushed_next', upded_next']); omega) (fun i h1 h2 h3 => by simp -implicitDefEqProofs (disch := omega))) (ints_of_cells (xs := [e]) (g := none) (by simp) (by simp -implicitDefEqProofs (disch := omega))) (by omega) (by simp) hB12).mono fun v wq hv => ?_)
  obtain ⟨rfl, q⟩ := hv
  have qa := q.1
  have qb := q.2
  try simp only [pushed_next', upded_next'] at qa qb
  have hleft0 := hexc e
  have hst : GInv fs n K W e b 0 R0 B0 (fun x => R0 x || decide (x = e)) B0 (excM [e] fs) := GInv.start hK ⟨he1, he2⟩ hleft0 hBW (fun x _ _ => by simp)
  generalize excM [e] fs = l0 at hst
  apply Run.by_eq
  · intro self
    conv => lhs; simp -implicitDefEqProofs (maxSteps := 300000) (disch := omega) [-getElem?_pos, -getElem?_neg, Mass.v]
  try (with_reducible refine Run.ret ?_)
  apply zz
  refine Cd.ra (h := ?_)
  apply Run.by_eq
  · intro self
    conv => lhs; simp -implicitDefEqProofs (maxSteps := 300000) (disch := omega) [-getElem?_pos, -getElem?_neg, hπ4, qb]
  try (with_reducible refine Run.ret ?_)
  apply zz
  refine Cd.inv (fun z f s2 => ∃ (k : Nat) (R : Int → Bool) (B : Nat → Mass) (left : Mass), k ≤ fs.length ∧ z = fs.length - k ∧ f.marks = [] ∧ f.get 25 = .int .i64 k ∧ f.get 24 = .int .i64 fs.length ∧ f.get 23 = .slice a fs.length c ∧ f.get 0 = .int .i64 e ∧ f.get 1 = .int .i64 b ∧ f.get 4 = .pointer (some ⟨φv, 0, none⟩) ∧ f.get 5 = .pointer (some ⟨γ, 0, none⟩) ∧ f.get 6 = .pointer (some ⟨βv, 0, none⟩) ∧ f.get 9 = .pointer (some ⟨s.next, 0, none⟩) ∧ f.get 10 = .pointer (some ⟨wq.next, 0, none⟩) ∧
    wq.next < s2.next ∧ (∀ i, i < s.next → i ≠ ρ → i ≠ β → s2.heap.get i = s.heap.get i) ∧ s2.heap.get s.next = some (.cells Mass.zero.cs none) ∧ s2.heap.get wq.next = some (.cells left.cs none) ∧ s2.heap.get ρ = some (.cells (reachL R) none) ∧ s2.heap.get β = some (.cells (balL B fs.length) none) ∧ GInv fs n K W e b k R0 B0 R B left) fs.length ?_ ?_
  · refine ⟨0, _, B0, l0, by omega, rfl, by simp, by simp, by simp, by simp, by simp, by simp, by simp, by simp, by simp, by simp, by simp, by simp, fun i h1 h2 h3 => ?_, ?_, ?_, ?_, ?_, hst⟩
    · simp -implicitDefEqProofs (disch := omega) [qb]
    · simp -implicitDefEqProofs (disch := omega) [qb, Mass.zero, Mass.cs]
    · simp -implicitDefEqProofs (disch := omega) [Mass.cs]
    · simp -implicitDefEqProofs (disch := omega) [qb]
    · simp -implicitDefEqProofs (disch := omega) [qb, hβ]
  rintro z f s2 ⟨k, R, B, left, hk, rfl, hmk, g25, g24, g23, g0, g1, g4, g5, g6, g9, g10, hnx, hold, hz9, hz10, hzρ, hzβ, hI⟩
  have hC2 := hC.keep (s' := s2) (by omega) hold
  obtain ⟨-, -, -, -, -, ⟨hπ1', -, -, hπ4'⟩, ⟨hv1', -, -, hv4'⟩, ⟨hφ1', -, -, hφ4'⟩, ⟨hγ1', -, -, hγ4'⟩, ⟨hw1', -, -, hw4'⟩⟩ := id hC2
  by_cases hlt : k < fs.length
  · obtain ⟨g, hg⟩ : ∃ g, fs[k]? = some g := ⟨fs[k], by simp [hlt]⟩
    obtain ⟨b', off, o, cs, gg, rfl, hb', ho, hc, ht⟩ := FlAt.at (hf0.keep ⟨hC2.base, hC2.old⟩) hg
    have hgm := List.mem_of_getElem? hg
    have hgne := hne g hgm
    obtain ⟨hV1, hV2⟩ := hends g hgm
    have hskip := fun h => GInv.skip (n := n) (K := K) (W := W) (R0 := R0) (B0 := B0) (R := R) (B := B) (left := left) hg h hI
    have hchk : ((List.range fs.length).map fun j => Value.bool (chB fs j))[k]? = some (.bool (chB fs k)) := by rw [List.getElem?_map, List.getElem?_range hlt]; rfl
    obtain ⟨f0, f1, fm, mm⟩ := g
    rw [FlowD.cs] at ht
    simp only [] at ht hgne hV1 hV2 hskip
    simp only [Mass.cs] at hz9 hz10
    apply zz
    refine Cd.ra (h := ?_)
    apply Run.by_eq
    · intro self
      conv => lhs; simp -implicitDefEqProofs (maxSteps := 300000) (disch := omega) [-getElem?_pos, -getElem?_neg, g25, g24]
    try (with_reducible refine Run.ret ?_)
    apply zz
    apply Cd.ite rfl
    · conv => lhs; simp -implicitDefEqProofs (maxSteps := 300000) (disch := omega) [-getElem?_pos, -getElem?_neg]
    all_goals intro c0
    all_goals try (cases c0; done)
    all_goals try simp only [Bool.not_eq_true', Bool.not_eq_false', decide_eq_true_eq, decide_eq_false_iff_not] at c0
    all_goals apply zz
    · apply zz
      refine Cd.ra (h := ?_)
      apply Run.by_eq
      · intro self
        conv => lhs; simp -implicitDefEqProofs (maxSteps := 300000) (disch := omega) [-getElem?_pos, -getElem?_neg, g25, g23, ho, hc, ht, hlt]
      try (with_reducible refine Run.ret ?_)
      apply zz
      cases hch : chB fs k with
      | false =>
        rw [hch] at hchk
        apply zz
        refine Cd.ra (h := ?_)
        apply Run.by_eq
        · intro self
          conv => lhs; simp -implicitDefEqProofs (maxSteps := 300000) (disch := omega) [-getElem?_pos, -getElem?_neg, g4, hv4', hφ4', hchk, hlt]
        try (with_reducible refine Run.ret ?_)
        apply zz
        apply Cd.ite rfl
        · conv => lhs; simp -implicitDefEqProofs (maxSteps := 300000) (disch := omega) [-getElem?_pos, -getElem?_neg]
        all_goals intro c1
        all_goals try (cases c1; done)
        all_goals try simp only [Bool.not_eq_true', Bool.not_eq_false', decide_eq_true_eq, decide_eq_false_iff_not] at c1
        all_goals apply zz
        apply zz
        refine Cd.ra (h := ?_)
        apply Run.by_eq
        · intro self
          conv => lhs; simp -implicitDefEqProofs (maxSteps := 300000) (disch := omega) [-getElem?_pos, -getElem?_neg, g25]
        try (with_reducible refine Run.ret ?_)
        apply zz
        refine LoopK.nm (fs.length - (k + 1)) (by omega) ⟨k + 1, R, B, left, by omega, rfl, by simp [hmk], by simp, by simp [g24], by simp [g23], by simp [g0], by simp [g1], by simp [g4], by simp [g5], by simp [g6], by simp [g9], by simp [g10], by (try simp only [pushed_next', upded_next']); omega, fun i h1 h2 h3 => ?_, ?_, ?_, ?_, ?_, hskip (.inl hch)⟩
        · simp -implicitDefEqProofs (disch := omega) [hold]
        · simp -implicitDefEqProofs (disch := omega) [hz9, Mass.cs, Mass.zero]
        · simp -implicitDefEqProofs (disch := omega) [hz10, Mass.cs]
        · simp -implicitDefEqProofs (disch := omega) [hzρ]
        · simp -implicitDefEqProofs (disch := omega) [hzβ]
      | true =>
      rw [hch] at hchk
      by_cases hkb : (k : Int) = b
      · have hkd : decide ((k : Int) = b) = true := decide_eq_true hkb
        apply zz
        refine Cd.ra (h := ?_)
        apply Run.by_eq
        · intro self
          conv => lhs; simp -implicitDefEqProofs (maxSteps := 300000) (disch := omega) [-getElem?_pos, -getElem?_neg, g1, g4, hv4', hφ4', hchk, hlt, hkd]
        try (with_reducible refine Run.ret ?_)
        apply zz
        apply Cd.ite rfl
        · conv => lhs; simp -implicitDefEqProofs (maxSteps := 300000) (disch := omega) [-getElem?_pos, -getElem?_neg]
        all_goals intro c1
        all_goals try (cases c1; done)
        all_goals try simp only [Bool.not_eq_true', Bool.not_eq_false', decide_eq_true_eq, decide_eq_false_iff_not] at c1
        all_goals apply zz
        apply zz
        refine Cd.ra (h := ?_)
        apply Run.by_eq
        · intro self
          conv => lhs; simp -implicitDefEqProofs (maxSteps := 300000) (disch := omega) [-getElem?_pos, -getElem?_neg, g25]
        try (with_reducible refine Run.ret ?_)
        apply zz
        refine LoopK.nm (fs.length - (k + 1)) (by omega) ⟨k + 1, R, B, left, by omega, rfl, by simp [hmk], by simp, by simp [g24], by simp [g23], by simp [g0], by simp [g1], by simp [g4], by simp [g5], by simp [g6], by simp [g9], by simp [g10], by (try simp only [pushed_next', upded_next']); omega, fun i h1 h2 h3 => ?_, ?_, ?_, ?_, ?_, hskip (.inr (.inl hkb))⟩
        · simp -implicitDefEqProofs (disch := omega) [hold]
        · simp -implicitDefEqProofs (disch := omega) [hz9, Mass.cs, Mass.zero]
        · simp -implicitDefEqProofs (disch := omega) [hz10, Mass.cs]
        · simp -implicitDefEqProofs (disch := omega) [hzρ]
        · simp -implicitDefEqProofs (disch := omega) [hzβ]
      apply zz
      refine Cd.ra (h := ?_)
      apply Run.by_eq
      · intro self
        conv => lhs; simp -implicitDefEqProofs (maxSteps := 300000) (disch := omega) [-getElem?_pos, -getElem?_neg, g1, g4, hv4', hφ4', hchk, hlt, hkb]
      try (with_reducible refine Run.ret ?_)
      apply zz
      apply Cd.ite rfl
      · conv => lhs; simp -implicitDefEqProofs (maxSteps := 300000) (disch := omega) [-getElem?_pos, -getElem?_neg]
      all_goals intro c1
      all_goals try (cases c1; done)
      all_goals try simp only [Bool.not_eq_true', Bool.not_eq_false', decide_eq_true_eq, decide_eq_false_iff_not] at c1
      all_goals apply zz
      apply zz
      refine Cd.ra (h := ?_)
      apply Run.by_eq
      · intro self
        conv => lhs; simp -implicitDefEqProofs (maxSteps := 300000) (disch := omega) [-getElem?_pos, -getElem?_neg, g0]
      try (with_reducible refine Run.ret ?_)
      apply zz
      by_cases hto : e = f1
      · subst hto
        have hE : Ends ⟨f0, e, fm, mm⟩ e f0 := .inr ⟨rfl, rfl⟩
        have hsl := sub_lt (n := n) hg hch hkb hE hinc ⟨he1, he2⟩
        have hinc' : ∀ (j : Nat) (g : FlowD), (j : Int) = (k : Int) → fs[j]? = some g → g.fr = f0 ∨ g.to = f0 := fun j g hj hgj => by
          obtain rfl : j = k := by omega
          rw [hg] at hgj; cases hgj
          exact .inl rfl
        apply zz
        refine Cd.ra (h := ?_)
        apply Run.by_eq
        · intro self
          conv => lhs; simp -implicitDefEqProofs (maxSteps := 300000) (disch := omega) [-getElem?_pos, -getElem?_neg]
        try (with_reducible refine Run.ret ?_)
        apply zz
        apply Cd.ite rfl
        · conv => lhs; simp -implicitDefEqProofs (maxSteps := 300000) (disch := omega) [-getElem?_pos, -getElem?_neg]
        all_goals intro c2
        all_goals try (cases c2; done)
        all_goals try simp only [Bool.not_eq_true', Bool.not_eq_false', decide_eq_true_eq, decide_eq_false_iff_not] at c2
        all_goals apply zz
        apply zz
        refine Cd.ra (h := ?_)
        apply Run.by_eq
        · intro self
          conv => lhs; simp -implicitDefEqProofs (maxSteps := 300000) (disch := omega) [-getElem?_pos, -getElem?_neg, g5, hγ4']
        try (with_reducible refine Run.ret ?_)
        apply zz
        refine Run.call ((ih _ (by omega) f0 k R B _ (Nat.le_refl _) hV1.1 hV1.2 hinc' (hC2.keep (by (try simp only [pushed_next', upded_next']); omega) (fun i h1 h2 h3 => by simp -implicitDefEqProofs (disch := omega))) (by simp -implicitDefEqProofs (disch := omega) [hzρ]) (by simp -implicitDefEqProofs (disch := omega) [hzβ]) hI.bound).mono fun r s3 hv => ?_)
        obtain ⟨R', B', rest, rfl, hD, d1, d2, d3, d4⟩ := hv
        simp only [pushed_next', upded_next'] at d1 d2
        have hS := GInv.sub (m := rest) hg hch hkb hgne hE hinc hW hK (by rw [if_pos rfl]) hI hD
        have hputB := balL_put B' hlt rest
        have hadd : (left.add rest).le 4611686018427387904 := hS.le.mono (by
          have h1 := cntP_le n (Tk fs e b (k + 1))
          have h2 : ((cntP n (Tk fs e b (k + 1)) : Nat) : Int) * K ≤ ((n : Int) + 1) * K := Int.mul_le_mul_of_nonneg_right (by omega) hK
          omega)
        apply Run.by_eq
        · intro self
          conv => lhs; simp -implicitDefEqProofs (maxSteps := 300000) (disch := omega) [-getElem?_pos, -getElem?_neg, Mass.v]
        try (with_reducible refine Run.ret ?_)
        apply zz
        refine Cd.ra (h := ?_)
        apply Run.by_eq
        · intro self
          conv => lhs; simp -implicitDefEqProofs (maxSteps := 300000) (disch := omega) [-getElem?_pos, -getElem?_neg, g6, d2, hw4', d4, hlt, hputB]
        try (with_reducible refine Run.ret ?_)
        apply zz
        refine Cd.ra (h := ?_)
        apply Run.by_eq
        · intro self
          conv => lhs; simp -implicitDefEqProofs (maxSteps := 300000) (disch := omega) [-getElem?_pos, -getElem?_neg, g10, d2, hz10]
        try (with_reducible refine Run.ret ?_)
        apply zz
        refine Run.call ((plus_ev left rest _ hadd).mono fun v wy hv => ?_)
        obtain ⟨rfl, y⟩ := hv
        have ya := y.1
        have yb := y.2
        try simp only [pushed_next', upded_next'] at ya yb
        apply Run.by_eq
        · intro self
          conv => lhs; simp -implicitDefEqProofs (maxSteps := 300000) (disch := omega) [-getElem?_pos, -getElem?_neg, yb, d2, g10, hz10, Mass.v]
        try (with_reducible refine Run.ret ?_)
        apply zz
        refine Cd.ra (h := ?_)
        apply Run.by_eq
        · intro self
          conv => lhs; simp -implicitDefEqProofs (maxSteps := 300000) (disch := omega) [-getElem?_pos, -getElem?_neg, g25]
        try (with_reducible refine Run.ret ?_)
        apply zz
        refine LoopK.nm (fs.length - (k + 1)) (by omega) ⟨k + 1, R', fun j => if j = k then rest else B' j, left.add rest, by omega, rfl, by simp [hmk], by simp, by simp [g24], by simp [g23], by simp [g0], by simp [g1], by simp [g4], by simp [g5], by simp [g6], by simp [g9], by simp [g10], by (try simp only [pushed_next', upded_next']); omega, fun i h1 h2 h3 => ?_, ?_, ?_, ?_, ?_, hS⟩
        · simp -implicitDefEqProofs (disch := omega) [yb, d2, hold]
        · simp -implicitDefEqProofs (disch := omega) [yb, d2, hz9, Mass.cs, Mass.zero]
        · simp -implicitDefEqProofs (disch := omega) [Mass.cs]
        · simp -implicitDefEqProofs (disch := omega) [yb, d3]
        · simp -implicitDefEqProofs (disch := omega) [yb]
      · have htd : decide (e = f1) = false := decide_eq_false hto
        by_cases hfr : e = f0
        · have hE : Ends ⟨f0, f1, fm, mm⟩ e f1 := .inl ⟨hfr.symm, rfl⟩
          have hsl := sub_lt (n := n) hg hch hkb hE hinc ⟨he1, he2⟩
          have hinc' : ∀ (j : Nat) (g : FlowD), (j : Int) = (k : Int) → fs[j]? = some g → g.fr = f1 ∨ g.to = f1 := fun j g hj hgj => by
            obtain rfl : j = k := by omega
            rw [hg] at hgj; cases hgj
            exact .inr rfl
          have hfd : decide (e = f0) = true := decide_eq_true hfr
          apply zz
          refine Cd.ra (h := ?_)
          apply Run.by_eq
          · intro self
            conv => lhs; simp -implicitDefEqProofs (maxSteps := 300000) (disch := omega) [-getElem?_pos, -getElem?_neg, htd]
          try (with_reducible refine Run.ret ?_)
          apply zz
          apply Cd.ite rfl
          · conv => lhs; simp -implicitDefEqProofs (maxSteps := 300000) (disch := omega) [-getElem?_pos, -getElem?_neg]
          all_goals intro c2
          all_goals try (cases c2; done)
          all_goals try simp only [Bool.not_eq_true', Bool.not_eq_false', decide_eq_true_eq, decide_eq_false_iff_not] at c2
          all_goals apply zz
          apply zz
          refine Cd.ra (h := ?_)
          apply Run.by_eq
          · intro self
            conv => lhs; simp -implicitDefEqProofs (maxSteps := 300000) (disch := omega) [-getElem?_pos, -getElem?_neg, hfd]
          try (with_reducible refine Run.ret ?_)
          apply zz
          apply Cd.ite rfl
          · conv => lhs; simp -implicitDefEqProofs (maxSteps := 300000) (disch := omega) [-getElem?_pos, -getElem?_neg]
          all_goals intro c3
          all_goals try (cases c3; done)
          all_goals try simp only [Bool.not_eq_true', Bool.not_eq_false', decide_eq_true_eq, decide_eq_false_iff_not] at c3
          all_goals apply zz
          apply zz
          refine Cd.ra (h := ?_)
          apply Run.by_eq
          · intro self
            conv => lhs; simp -implicitDefEqProofs (maxSteps := 300000) (disch := omega) [-getElem?_pos, -getElem?_neg, g5, hγ4']
          try (with_reducible refine Run.ret ?_)
          apply zz
          refine Run.call ((ih _ (by omega) f1 k R B _ (Nat.le_refl _) hV2.1 hV2.2 hinc' (hC2.keep (by (try simp only [pushed_next', upded_next']); omega) (fun i h1 h2 h3 => by simp -implicitDefEqProofs (disch := omega))) (by simp -implicitDefEqProofs (disch := omega) [hzρ]) (by simp -implicitDefEqProofs (disch := omega) [hzβ]) hI.bound).mono fun r s3 hv => ?_)
          obtain ⟨R', B', rest, rfl, hD, d1, d2, d3, d4⟩ := hv
          simp only [pushed_next', upded_next'] at d1 d2
          have hS := GInv.sub (m := Mass.zero.sub rest) hg hch hkb hgne hE hinc hW hK (by rw [if_neg (fun q => hto q.symm)]) hI hD
          have hputB := balL_put B' hlt (Mass.zero.sub rest)
          have hadd : (left.add rest).le 4611686018427387904 := hS.le.mono (by
            have h1 := cntP_le n (Tk fs e b (k + 1))
            have h2 : ((cntP n (Tk fs e b (k + 1)) : Nat) : Int) * K ≤ ((n : Int) + 1) * K := Int.mul_le_mul_of_nonneg_right (by omega) hK
            omega)
          have hneg : (Mass.zero.sub rest).le 4611686018427387904 := Mass.le_neg (hD.le.mono (by
            have h1 := cntP_le n (Path fs (FE fs k) f1)
            have h2 : ((cntP n (Path fs (FE fs k) f1) : Nat) : Int) * K ≤ ((n : Int) + 1) * K := Int.mul_le_mul_of_nonneg_right (by omega) hK
            omega))
          have veβ : veq 5 (Value.slice (some ⟨β, 0, none⟩) fs.length fs.length) (Value.slice (some ⟨β, 0, none⟩) fs.length fs.length) = true := veq_slice _ _ _ _ _
          apply Run.by_eq
          · intro self
            conv => lhs; simp -implicitDefEqProofs (maxSteps := 300000) (disch := omega) [-getElem?_pos, -getElem?_neg, Mass.v]
          try (with_reducible refine Run.ret ?_)
          apply zz
          refine Cd.drawnH (pl := [(0, 0, false, false), (1, 0, false, false), (2, 0, false, false), (3, 0, false, false), (4, 12, true, false), (5, 31, false, false), (6, 63, true, false)]) [true, true, false, false, false, false, false] (by kernel_rfl) (by decide) (by decide) (by conv => lhs; simp only [List.map_cons, List.map_nil]) (by conv => lhs; simp [strip, orderedG, flagH]) ?_
          apply Run.by_eq
          · intro self
            conv => lhs; simp -implicitDefEqProofs (maxSteps := 300000) (disch := omega) [-getElem?_pos, -getElem?_neg, g6, d2, hw4', d4, hlt, veβ]
          try (with_reducible refine Run.ret ?_)
          apply zz
          refine Run.call ((minus_ev Mass.zero rest _ hneg).mono fun v wx hv => ?_)
          obtain ⟨rfl, x⟩ := hv
          have xa := x.1
          have xb := x.2
          try simp only [pushed_next', upded_next'] at xa xb
          apply Run.by_eq
          · intro self
            conv => lhs; simp -implicitDefEqProofs (maxSteps := 300000) (disch := omega) [-getElem?_pos, -getElem?_neg, xb, d2, hw4', d4, hlt, veβ, hputB, Mass.v]
          try (with_reducible refine Run.ret ?_)
          apply zz
          refine Cd.ra (h := ?_)
          apply Run.by_eq
          · intro self
            conv => lhs; simp -implicitDefEqProofs (maxSteps := 300000) (disch := omega) [-getElem?_pos, -getElem?_neg, g10, xb, d2, hz10]
          try (with_reducible refine Run.ret ?_)
          apply zz
          refine Run.call ((plus_ev left rest _ hadd).mono fun v wy hv => ?_)
          obtain ⟨rfl, y⟩ := hv
          have ya := y.1
          have yb := y.2
          try simp only [pushed_next', upded_next'] at ya yb
          apply Run.by_eq
          · intro self
            conv => lhs; simp -implicitDefEqProofs (maxSteps := 300000) (disch := omega) [-getElem?_pos, -getElem?_neg, yb, xb, d2, g10, hz10, Mass.v]
          try (with_reducible refine Run.ret ?_)
          apply zz
          refine Cd.ra (h := ?_)
          apply Run.by_eq
          · intro self
            conv => lhs; simp -implicitDefEqProofs (maxSteps := 300000) (disch := omega) [-getElem?_pos, -getElem?_neg, g25]
          try (with_reducible refine Run.ret ?_)
          apply zz
          refine LoopK.nm (fs.length - (k + 1)) (by omega) ⟨k + 1, R', fun j => if j = k then Mass.zero.sub rest else B' j, left.add rest, by omega, rfl, by simp [hmk], by simp, by simp [g24], by simp [g23], by simp [g0], by simp [g1], by simp [g4], by simp [g5], by simp [g6], by simp [g9], by simp [g10], by (try simp only [pushed_next', upded_next']); omega, fun i h1 h2 h3 => ?_, ?_, ?_, ?_, ?_, hS⟩
          · simp -implicitDefEqProofs (disch := omega) [yb, xb, d2, hold]
          · simp -implicitDefEqProofs (disch := omega) [yb, xb, d2, hz9, Mass.cs, Mass.zero]
          · simp -implicitDefEqProofs (disch := omega) [Mass.cs]
          · simp -implicitDefEqProofs (disch := omega) [yb, xb, d3]
          · simp -implicitDefEqProofs (disch := omega) [yb, xb]
        · have hfd : decide (e = f0) = false := decide_eq_false hfr
          apply zz
          refine Cd.ra (h := ?_)
          apply Run.by_eq
          · intro self
            conv => lhs; simp -implicitDefEqProofs (maxSteps := 300000) (disch := omega) [-getElem?_pos, -getElem?_neg, htd]
          try (with_reducible refine Run.ret ?_)
          apply zz
          apply Cd.ite rfl
          · conv => lhs; simp -implicitDefEqProofs (maxSteps := 300000) (disch := omega) [-getElem?_pos, -getElem?_neg]
          all_goals intro c2
          all_goals try (cases c2; done)
          all_goals try simp only [Bool.not_eq_true', Bool.not_eq_false', decide_eq_true_eq, decide_eq_false_iff_not] at c2
          all_goals apply zz
          apply zz
          refine Cd.ra (h := ?_)
          apply Run.by_eq
          · intro self
            conv => lhs; simp -implicitDefEqProofs (maxSteps := 300000) (disch := omega) [-getElem?_pos, -getElem?_neg, hfd]
          try (with_reducible refine Run.ret ?_)
          apply zz
          apply Cd.ite rfl
          · conv => lhs; simp -implicitDefEqProofs (maxSteps := 300000) (disch := omega) [-getElem?_pos, -getElem?_neg]
          all_goals intro c3
          all_goals try (cases c3; done)
          all_goals try simp only [Bool.not_eq_true', Bool.not_eq_false', decide_eq_true_eq, decide_eq_false_iff_not] at c3
          all_goals apply zz
          apply zz
          refine Cd.ra (h := ?_)
          apply Run.by_eq
          · intro self
            conv => lhs; simp -implicitDefEqProofs (maxSteps := 300000) (disch := omega) [-getElem?_pos, -getElem?_neg, g25]
          try (with_reducible refine Run.ret ?_)
          apply zz
          refine LoopK.nm (fs.length - (k + 1)) (by omega) ⟨k + 1, R, B, left, by omega, rfl, by simp [hmk], by simp, by simp [g24], by simp [g23], by simp [g0], by simp [g1], by simp [g4], by simp [g5], by simp [g6], by simp [g9], by simp [g10], by (try simp only [pushed_next', upded_next']); omega, fun i h1 h2 h3 => ?_, ?_, ?_, ?_, ?_, hskip (.inr (.inr ⟨fun q => hfr q.symm, fun q => hto q.symm⟩))⟩
          · simp -implicitDefEqProofs (disch := omega) [hold]
          · simp -implicitDefEqProofs (disch := omega) [hz9, Mass.cs, Mass.zero]
          · simp -implicitDefEqProofs (disch := omega) [hz10, Mass.cs]
          · simp -implicitDefEqProofs (disch := omega) [hzρ]
          · simp -implicitDefEqProofs (disch := omega) [hzβ]
    · simp at c0; omega
  · obtain rfl : k = fs.length := by omega
    apply zz
    refine Cd.ra (h := ?_)
    apply Run.by_eq
    · intro self
      conv => lhs; simp -implicitDefEqProofs (maxSteps := 300000) (disch := omega) [-getElem?_pos, -getElem?_neg, g25, g24]
    try (with_reducible refine Run.ret ?_)
    apply zz
    apply Cd.ite rfl
    · conv => lhs; simp -implicitDefEqProofs (maxSteps := 300000) (disch := omega) [-getElem?_pos, -getElem?_neg]
    all_goals intro c0
    all_goals try (cases c0; done)
    all_goals try simp only [Bool.not_eq_true', Bool.not_eq_false', decide_eq_true_eq, decide_eq_false_iff_not] at c0
    all_goals apply zz
    simp only [Mass.cs] at hz9 hz10
    apply zz
    refine Cd.ra (h := ?_)
    apply Run.by_eq
    · intro self
      conv => lhs; simp -implicitDefEqProofs (maxSteps := 300000) (disch := omega) [-getElem?_pos, -getElem?_neg, g9, g10, hz9, hz10]
    try (with_reducible refine Run.ret ?_)
    apply zz
    apply Leave.mk (by first | exact .inl rfl | exact .inr rfl) (by simp only [Fr.marks_put, fr0_marks, hmk, g9])
    · conv => lhs; simp -implicitDefEqProofs (disch := omega) [Try.results65, hmk, g9]
    refine ⟨R, B, left, rfl, hI.done hinc, by (try simp only [upded_next']); omega, fun i h1 h2 h3 => ?_, ?_, ?_⟩
    · simp -implicitDefEqProofs (disch := omega) [hold]
    · simp -implicitDefEqProofs (disch := omega) [hzρ]
    · simp -implicitDefEqProofs (disch := omega) [hzβ]
end Go.Proofs.Ytjehpgflhgpalaa
namespace Go.Proofs.Ytjehpgflhgpalaa
open Go Kern
/-- What a balance holds ahead of the trees. -/
def bal0 (fs : List FlowD) (k : Nat) (j : Nat) : Mass := if j < k then (match fs[j]? with | some f => if f.me = true then f.m else Mass.zero | none => Mass.zero) else Mass.zero
theorem bal0_succ {fs : List FlowD} {k : Nat} {f : FlowD} (hf : fs[k]? = some f) : bal0 fs (k + 1) = fun j => if j = k then (if f.me = true then f.m else Mass.zero) else bal0 fs k j := by
  funext j
  unfold bal0
  by_cases e : j = k
  · subst e; rw [if_pos (by omega), if_pos rfl, hf]
  · rw [if_neg e]
    by_cases h : j < k
    · rw [if_pos (by omega), if_pos h]
    · rw [if_neg (by omega), if_neg h]
theorem balL_congr {B B' : Nat → Mass} {len : Nat} (h : ∀ j, j < len → B j = B' j) : balL B len = balL B' len := by
  unfold balL
  congr 1
  apply List.map_congr_left
  intro j hj
  rw [h j (by simpa using hj)]
theorem balL_zero : ∀ len, balL (fun _ => Mass.zero) len = repeatL [.int .i64 0, .int .i64 0, .int .i64 0, .int .i64 0] len
  | 0 => rfl
  | k + 1 => by
    rw [balL_succ, balL_zero k]
    have : ∀ (z : List Value) (q : Nat), repeatL z q ++ z = repeatL z (q + 1) := fun z q => by
      induction q with
      | zero => show [] ++ z = z ++ []; simp
      | succ q ih =>
        show (z ++ repeatL z q) ++ z = z ++ repeatL z (q + 1)
        rw [List.append_assoc, ih]
    exact this _ _
@[simp] theorem cells_nilFunc : (Value.nilFunc).cells = #[Value.nilFunc] := rfl
structure Settled (fs : List FlowD) (n : Nat) (W : Int) (B : Nat → Mass) : Prop where
  meas : ∀ (j : Nat) (f : FlowD), fs[j]? = some f → f.me = true → B j = f.m
  rest : ∀ (j : Nat) (f : FlowD), fs[j]? = some f → f.me = false → chB fs j = false → B j = Mass.zero
  nets : ∀ v : Int, -1 ≤ v → v < n → (∀ y : Int, -1 ≤ y → Path fs (FE fs (-1)) y v → v ≤ y) ∨ netB fs B v = Mass.zero
  bound : ∀ j, (B j).le W
theorem hang_all {fs : List FlowD} {j : Nat} {f : FlowD} {e : Int} (hf : fs[j]? = some f) (hc : chB fs j = true) (h : Path fs (FE fs (-1)) e f.fr) {v : Int} (hv : f.fr = v ∨ f.to = v) : Path fs (FE fs (-1)) e v := by
  rcases hv with rfl | rfl
  · exact h
  · exact .step j f h hf ⟨hc, by omega⟩ (.inl ⟨rfl, rfl⟩)
structure SInv (fs : List FlowD) (n : Nat) (W : Int) (k : Nat) (R : Int → Bool) (B : Nat → Mass) : Prop where
  reach : ∀ x : Int, -1 ≤ x → x < n → (R x = true ↔ ∃ y : Int, -1 ≤ y ∧ y < (k : Int) - 1 ∧ Path fs (FE fs (-1)) y x)
  nets : ∀ v : Int, -1 ≤ v → v < n → R v = true → (∀ y : Int, -1 ≤ y → Path fs (FE fs (-1)) y v → v ≤ y) ∨ netB fs B v = Mass.zero
  touch : ∀ j, B j ≠ bal0 fs fs.length j → chB fs j = true
  bound : ∀ j, (B j).le W
theorem SInv.start {fs : List FlowD} {n : Nat} {W : Int} (hW : 0 ≤ W) (hB : ∀ f ∈ fs, f.me = true → f.m.le W) : SInv fs n W 0 (fun _ => false) (bal0 fs fs.length) where
  reach := fun x h1 h2 => by
    constructor
    · intro h; cases h
    · rintro ⟨y, a, b, _⟩; omega
  nets := fun v _ _ h => by cases h
  touch := fun j h => absurd rfl h
  bound := fun j => by
    unfold bal0
    split
    · cases hj : fs[j]? with
      | none => exact Mass.le_zero hW
      | some f =>
        simp only []
        by_cases hm : f.me = true
        · rw [if_pos hm]; exact hB f (List.mem_of_getElem? hj) hm
        · rw [if_neg hm]; exact Mass.le_zero hW
    · exact Mass.le_zero hW
theorem SInv.skip {fs : List FlowD} {n : Nat} {W : Int} {k : Nat} {R : Int → Bool} {B : Nat → Mass} (h : SInv fs n W k R B) (hk : k < n + 1) (hr : R ((k : Int) - 1) = true) : SInv fs n W (k + 1) R B where
  reach := fun x h1 h2 => by
    rw [h.reach x h1 h2]
    constructor
    · rintro ⟨y, a, b, c⟩; exact ⟨y, a, by omega, c⟩
    · rintro ⟨y, a, b, c⟩
      by_cases e : y = (k : Int) - 1
      · subst e
        obtain ⟨z, a', b', c'⟩ := (h.reach _ (by omega) (by omega)).1 hr
        exact ⟨z, a', b', c'.trans c⟩
      · exact ⟨y, a, by omega, c⟩
  nets := h.nets
  touch := h.touch
  bound := h.bound
theorem SInv.step {fs : List FlowD} {n : Nat} {K W : Int} {k : Nat} {R R' : Int → Bool} {B B' : Nat → Mass} {left : Mass} (h : SInv fs n W k R B) (hk : k < n + 1) (hr : R ((k : Int) - 1) = false) (hd : GDone fs n K W ((k : Int) - 1) (-1) R B R' B' left) : SInv fs n W (k + 1) R' B' where
  reach := fun x h1 h2 => by
    rw [hd.reach x h1 h2, h.reach x h1 h2]
    constructor
    · rintro (⟨y, a, b, c⟩ | c)
      · exact ⟨y, a, by omega, c⟩
      · exact ⟨(k : Int) - 1, by omega, by omega, c⟩
    · rintro ⟨y, a, b, c⟩
      by_cases e : y = (k : Int) - 1
      · subst e; exact .inr c
      · exact .inl ⟨y, a, by omega, c⟩
  nets := fun v h1 h2 hv => by
    by_cases hp : Path fs (FE fs (-1)) ((k : Int) - 1) v
    · by_cases e : v = (k : Int) - 1
      · subst e
        refine .inl fun y hy hyv => ?_
        refine Classical.byContradiction fun hlt => ?_
        have := (h.reach ((k : Int) - 1) (by omega) (by omega)).2 ⟨y, hy, by omega, hyv⟩
        rw [hr] at this; cases this
      · exact .inr (hd.nets v hp e)
    · have hR : R v = true := by
        rcases (hd.reach v h1 h2).1 hv with h | h
        · exact h
        · exact absurd h hp
      rcases h.nets v h1 h2 hR with h' | h'
      · exact .inl h'
      · refine .inr (h' ▸ netx_congr fun j g _ _ hg hc hv => ?_)
        refine Classical.byContradiction fun hne => ?_
        obtain ⟨g', hg', _, _, hpg⟩ := hd.touch j hne
        rw [hg] at hg'; cases hg'
        exact hp (hang_all hg hc hpg hv)
  touch := fun j hj => by
    by_cases e : B' j = B j
    · exact h.touch j (by rw [← e]; exact hj)
    · obtain ⟨g, _, hc, _⟩ := hd.touch j e
      exact hc
  bound := hd.bound
theorem SInv.done {fs : List FlowD} {n : Nat} {W : Int} {R : Int → Bool} {B : Nat → Mass} (h : SInv fs n W (n + 1) R B) : Settled fs n W B where
  meas := fun j f hf hm => by
    have hc : chB fs j = false := by rw [chB_some hf, hm]; rfl
    have hB : B j = bal0 fs fs.length j := Classical.byContradiction fun hne => by rw [h.touch j hne] at hc; cases hc
    rw [hB]
    unfold bal0
    rw [if_pos (List.getElem?_eq_some_iff.1 hf).1, hf]
    simp only [hm, if_true]
  rest := fun j f hf hm hc => by
    have hB : B j = bal0 fs fs.length j := Classical.byContradiction fun hne => by rw [h.touch j hne] at hc; cases hc
    rw [hB]
    unfold bal0
    rw [if_pos (List.getElem?_eq_some_iff.1 hf).1, hf]
    simp [hm]
  nets := fun v h1 h2 => h.nets v h1 h2 ((h.reach v h1 h2).2 ⟨v, h1, by omega, .refl⟩)
  bound := h.bound
set_option maxRecDepth 100000 in
set_option maxHeartbeats 4000000 in
theorem settle_ev (n : Nat) (v : Value) (fs : List FlowD) (s : St) (K W : Int) (hn : n ≤ 8) (hf : FlAt s v fs) (hl : fs.length ≤ 1000) (hends : ∀ f ∈ fs, (-1 ≤ f.fr ∧ f.fr < n) ∧ (-1 ≤ f.to ∧ f.to < n)) (hne : ∀ f ∈ fs, f.fr ≠ f.to)
    (hB12 : ∀ f ∈ fs, f.me = true → f.m.le 1000000000000) (hBW : ∀ f ∈ fs, f.me = true → f.m.le W) (hK : 0 ≤ K) (hexc : ∀ e : Int, (excM [e] fs).le K) (hW : ((n : Int) + 1) * K ≤ W) (hW0 : 0 ≤ W) (hW62 : W ≤ 4611686018427387904) :
    Ev TT 48 [plantV n v] s fun r s' => Keep s s' ∧ ∃ β B, r = .slice (some ⟨β, 0, none⟩) fs.length fs.length ∧ s.next ≤ β ∧ β < s'.next ∧ s'.heap.get β = some (.cells (balL B fs.length) none) ∧ Settled fs n W B := by
  obtain ⟨a, c, rfl⟩ := hf.shape
  rw [List.length_map] at hf ⊢
  unfold plantV
  have nl := natOf_cast .i64 fs.length
  refine Ev.intro (fn := Try.f48) rfl (by kernel_rfl) rfl rfl ?_
  apply zz
  refine Cd.ra (h := ?_)
  apply Run.by_eq
  · intro self
    conv => lhs; simp -implicitDefEqProofs (maxSteps := 300000) (disch := omega) [-getElem?_pos, -getElem?_neg]
  try (with_reducible refine Run.ret ?_)
  apply zz
  refine Cd.ra (h := ?_)
  apply Run.by_eq
  · intro self
    conv => lhs; simp -implicitDefEqProofs (maxSteps := 300000) (disch := omega) [-getElem?_pos, -getElem?_neg, nl]
  try (with_reducible refine Run.ret ?_)
  apply zz
  refine Cd.ra (h := ?_)
  apply Run.by_eq
  · intro self
    conv => lhs; simp -implicitDefEqProofs (maxSteps := 300000) (disch := omega) [-getElem?_pos, -getElem?_neg]
  try (with_reducible refine Run.ret ?_)
  apply zz
  refine Cd.inv (fun z f s' => ∃ k : Nat, k ≤ fs.length ∧ z = fs.length - k ∧ f.marks = [] ∧ f.get 17 = .int .i64 k ∧ f.get 16 = .int .i64 fs.length ∧ f.get 15 = .slice a fs.length c ∧ f.get 1 = .pointer (some ⟨s.next, 0, none⟩) ∧ f.get 3 = .pointer (some ⟨s.next + 1 + 1, 0, none⟩) ∧ Keep s s' ∧ s.next + 1 + 1 < s'.next ∧
    s'.heap.get s.next = some (.cells [.int .i64 n, .slice a fs.length c] none) ∧ s'.heap.get (s.next + 1) = some (.cells (balL (bal0 fs k) fs.length) none) ∧ s'.heap.get (s.next + 1 + 1) = some (.cells [.slice (some ⟨s.next + 1, 0, none⟩) fs.length fs.length] none)) fs.length ?_ ?_
  · refine ⟨0, by omega, rfl, by simp, by simp, by simp, by simp, by simp, by simp, ⟨by (try simp only [pushed_next', upded_next']); omega, fun i hi => by simp -implicitDefEqProofs (disch := omega) []⟩, by simp, by simp -implicitDefEqProofs (disch := omega), ?_, by simp -implicitDefEqProofs (disch := omega)⟩
    rw [show bal0 fs 0 = fun _ => Mass.zero from by funext j; unfold bal0; rw [if_neg (by omega)], balL_zero]
    simp -implicitDefEqProofs (disch := omega)
  rintro z f s' ⟨k, hk, rfl, hm, h17, h16, h15, h1, h3, hkp, hnx, hg0, hg1, hg2⟩
  have hkpa := hkp.1
  have hkpb := hkp.2
  by_cases hlt : k < fs.length
  · obtain ⟨g, hg⟩ : ∃ g, fs[k]? = some g := ⟨fs[k], by simp [hlt]⟩
    have hb0 := bal0_succ hg
    obtain ⟨b, off, o, cs, gg, rfl, hb, ho, hc, ht⟩ := FlAt.at (hf.keep hkp) hg
    obtain ⟨g0, g1, gm, m⟩ := g
    rw [FlowD.cs] at ht
    simp only [] at ht hb0
    apply zz
    refine Cd.ra (h := ?_)
    apply Run.by_eq
    · intro self
      conv => lhs; simp -implicitDefEqProofs (maxSteps := 300000) (disch := omega) [-getElem?_pos, -getElem?_neg, h17, h16]
    try (with_reducible refine Run.ret ?_)
    apply zz
    apply Cd.ite rfl
    · conv => lhs; simp -implicitDefEqProofs (maxSteps := 300000) (disch := omega) [-getElem?_pos, -getElem?_neg]
    all_goals intro c0
    all_goals try (cases c0; done)
    all_goals try simp only [Bool.not_eq_true', Bool.not_eq_false', decide_eq_true_eq, decide_eq_false_iff_not] at c0
    all_goals apply zz
    · apply zz
      refine Cd.ra (h := ?_)
      apply Run.by_eq
      · intro self
        conv => lhs; simp -implicitDefEqProofs (maxSteps := 300000) (disch := omega) [-getElem?_pos, -getElem?_neg, h17, h15, ho, hc, ht, hlt]
      try (with_reducible refine Run.ret ?_)
      apply zz
      refine Cd.ra (h := ?_)
      apply Run.by_eq
      · intro self
        conv => lhs; simp -implicitDefEqProofs (maxSteps := 300000) (disch := omega) [-getElem?_pos, -getElem?_neg]
      try (with_reducible refine Run.ret ?_)
      apply zz
      cases gm with
      | true =>
        have hput := balL_put (bal0 fs k) hlt m
        rw [show (fun j => if j = k then m else bal0 fs k j) = bal0 fs (k + 1) from by rw [hb0]; rfl] at hput
        apply zz
        apply Cd.ite rfl
        · conv => lhs; simp -implicitDefEqProofs (maxSteps := 300000) (disch := omega) [-getElem?_pos, -getElem?_neg]
        all_goals intro c1
        all_goals try (cases c1; done)
        all_goals try simp only [Bool.not_eq_true', Bool.not_eq_false', decide_eq_true_eq, decide_eq_false_iff_not] at c1
        all_goals apply zz
        apply zz
        refine Cd.ra (h := ?_)
        apply Run.by_eq
        · intro self
          conv => lhs; simp -implicitDefEqProofs (maxSteps := 300000) (disch := omega) [-getElem?_pos, -getElem?_neg, h3, hg1, hg2, hlt, hput]
        try (with_reducible refine Run.ret ?_)
        apply zz
        refine Cd.ra (h := ?_)
        apply Run.by_eq
        · intro self
          conv => lhs; simp -implicitDefEqProofs (maxSteps := 300000) (disch := omega) [-getElem?_pos, -getElem?_neg, h17]
        try (with_reducible refine Run.ret ?_)
        apply zz
        refine LoopK.nm (fs.length - (k + 1)) (by omega) ⟨k + 1, by omega, rfl, by simp [hm], by simp, by simp [h16], by simp [h15], by simp [h1], by simp [h3], ⟨by (try simp only [pushed_next', upded_next']); omega, fun i hi => by simp -implicitDefEqProofs (disch := omega) [hkpb]⟩, by (try simp only [pushed_next', upded_next']); omega, ?_, ?_, ?_⟩
        · simp -implicitDefEqProofs (disch := omega) [hg0]
        · simp -implicitDefEqProofs (disch := omega)
        · simp -implicitDefEqProofs (disch := omega) [hg2]
      | false =>
        have hsame : balL (bal0 fs (k + 1)) fs.length = balL (bal0 fs k) fs.length := balL_congr fun j _ => by
          rw [hb0]
          show (if j = k then (if false = true then m else Mass.zero) else bal0 fs k j) = _
          by_cases e : j = k
          · subst e; rw [if_pos rfl, if_neg (by decide)]; unfold bal0; rw [if_neg (by omega)]
          · rw [if_neg e]
        apply zz
        apply Cd.ite rfl
        · conv => lhs; simp -implicitDefEqProofs (maxSteps := 300000) (disch := omega) [-getElem?_pos, -getElem?_neg]
        all_goals intro c1
        all_goals try (cases c1; done)
        all_goals try simp only [Bool.not_eq_true', Bool.not_eq_false', decide_eq_true_eq, decide_eq_false_iff_not] at c1
        all_goals apply zz
        apply zz
        refine Cd.ra (h := ?_)
        apply Run.by_eq
        · intro self
          conv => lhs; simp -implicitDefEqProofs (maxSteps := 300000) (disch := omega) [-getElem?_pos, -getElem?_neg, h17]
        try (with_reducible refine Run.ret ?_)
        apply zz
        refine LoopK.nm (fs.length - (k + 1)) (by omega) ⟨k + 1, by omega, rfl, by simp [hm], by simp, by simp [h16], by simp [h15], by simp [h1], by simp [h3], ⟨by (try simp only [pushed_next', upded_next']); omega, fun i hi => by simp -implicitDefEqProofs (disch := omega) [hkpb]⟩, by (try simp only [pushed_next', upded_next']); omega, ?_, ?_, ?_⟩
        · simp -implicitDefEqProofs (disch := omega) [hg0]
        · rw [hsame]; simp -implicitDefEqProofs (disch := omega) [hg1]
        · simp -implicitDefEqProofs (disch := omega) [hg2]
    · simp at c0; omega
  obtain rfl : k = fs.length := by omega
  apply zz
  refine Cd.ra (h := ?_)
  apply Run.by_eq
  · intro self
    conv => lhs; simp -implicitDefEqProofs (maxSteps := 300000) (disch := omega) [-getElem?_pos, -getElem?_neg, h17, h16]
  try (with_reducible refine Run.ret ?_)
  apply zz
  apply Cd.ite rfl
  · conv => lhs; simp -implicitDefEqProofs (maxSteps := 300000) (disch := omega) [-getElem?_pos, -getElem?_neg]
  all_goals intro c0
  all_goals try (cases c0; done)
  all_goals try simp only [Bool.not_eq_true', Bool.not_eq_false', decide_eq_true_eq, decide_eq_false_iff_not] at c0
  all_goals apply zz
  apply zz
  refine Cd.ra (h := ?_)
  apply Run.by_eq
  · intro self
    conv => lhs; simp -implicitDefEqProofs (maxSteps := 300000) (disch := omega) [-getElem?_pos, -getElem?_neg, h1, hg0]
  try (with_reducible refine Run.ret ?_)
  apply zz
  refine Run.call ((forestOf_ev n _ fs _ (hf.keep hkp) hl).mono fun r w1 hv => ?_)
  obtain ⟨k1, φ, rfl, hφ1, hφ2, hφ3⟩ := hv
  have k1a := k1.1
  have k1b := k1.2
  have hold1 : ∀ i, i < s.next → w1.heap.get i = s.heap.get i := fun i hi => by rw [k1b i (by omega), hkpb i hi]
  have hw0 := (k1b s.next (by omega)).trans hg0
  have hw1 := (k1b (s.next + 1) (by omega)).trans hg1
  have hw2 := (k1b (s.next + 1 + 1) (by omega)).trans hg2
  apply Run.by_eq
  · intro self
    conv => lhs; simp -implicitDefEqProofs (maxSteps := 300000) (disch := omega) [-getElem?_pos, -getElem?_neg]
  try (with_reducible refine Run.ret ?_)
  apply zz
  refine Cd.ra (h := ?_)
  apply Run.by_eq
  · intro self
    conv => lhs; simp -implicitDefEqProofs (maxSteps := 300000) (disch := omega) [-getElem?_pos, -getElem?_neg]
  try (with_reducible refine Run.ret ?_)
  apply zz
  refine Cd.ra (h := ?_)
  apply Run.by_eq
  · intro self
    conv => lhs; simp -implicitDefEqProofs (maxSteps := 300000) (disch := omega) [-getElem?_pos, -getElem?_neg]
  try (with_reducible refine Run.ret ?_)
  apply zz
  refine Cd.ra (h := ?_)
  apply Run.by_eq
  · intro self
    conv => lhs; simp -implicitDefEqProofs (maxSteps := 300000) (disch := omega) [-getElem?_pos, -getElem?_neg, h1, h3]
  try (with_reducible refine Run.ret ?_)
  apply zz
  refine Cd.ra (h := ?_)
  apply Run.by_eq
  · intro self
    conv => lhs; simp -implicitDefEqProofs (maxSteps := 300000) (disch := omega) [-getElem?_pos, -getElem?_neg]
  try (with_reducible refine Run.ret ?_)
  apply zz
  have hR0 : reachL (fun _ => false) = [.bool false, .bool false, .bool false, .bool false, .bool false, .bool false, .bool false, .bool false, .bool false] := rfl
  refine Cd.inv (fun z f s' => ∃ (k : Nat) (R : Int → Bool) (B : Nat → Mass), k ≤ n + 1 ∧ z = n + 1 - k ∧ f.marks = [] ∧ f.get 9 = .int .i64 ((k : Int) - 1) ∧ f.get 1 = .pointer (some ⟨s.next, 0, none⟩) ∧ f.get 3 = .pointer (some ⟨s.next + 1 + 1, 0, none⟩) ∧ f.get 7 = .pointer (some ⟨w1.next + 1, 0, none⟩) ∧ f.get 8 = .pointer (some ⟨w1.next + 1 + 1, 0, none⟩) ∧
    GC s s' n (.slice a fs.length c) fs (w1.next + 1) s.next w1.next φ (w1.next + 1 + 1) (s.next + 1 + 1) (s.next + 1) ∧ s'.heap.get (w1.next + 1) = some (.cells (reachL R) none) ∧ s'.heap.get (s.next + 1) = some (.cells (balL B fs.length) none) ∧ SInv fs n W k R B) (n + 1) ?_ ?_
  · refine ⟨0, fun _ => false, bal0 fs fs.length, by omega, rfl, by simp [hm], by simp, by simp [h1], by simp [h3], by simp, by simp, ?_, ?_, ?_, SInv.start hW0 hBW⟩
    · refine ⟨by (try simp only [pushed_next', upded_next']); omega, fun i hi => ?_, ⟨by omega, by (try simp only [pushed_next', upded_next']); omega⟩, ⟨by omega, by (try simp only [pushed_next', upded_next']); omega⟩, by omega, ⟨by (try simp only [pushed_next', upded_next']); omega, by omega, by omega, ?_⟩, ⟨by (try simp only [pushed_next', upded_next']); omega, by omega, by omega, ?_⟩, ⟨by (try simp only [pushed_next', upded_next']); omega, by omega, by omega, ?_⟩, ⟨by (try simp only [pushed_next', upded_next']); omega, by omega, by omega, ?_⟩, ⟨by (try simp only [pushed_next', upded_next']); omega, by omega, by omega, ?_⟩⟩
      · simp -implicitDefEqProofs (disch := omega) [hold1]
      · simp -implicitDefEqProofs (disch := omega) [hw0]
      · simp -implicitDefEqProofs (disch := omega)
      · simp -implicitDefEqProofs (disch := omega) [hφ3]
      · simp -implicitDefEqProofs (disch := omega)
      · simp -implicitDefEqProofs (disch := omega) [hw2]
    · rw [hR0]; simp -implicitDefEqProofs (disch := omega)
    · simp -implicitDefEqProofs (disch := omega) [hw1]
  rintro z f2 s2 ⟨k, R, B, hk, rfl, gm, g9, g1, g3, g7, g8, hC, hρ, hβ, hS⟩
  obtain ⟨hb1, hb2, ⟨hρ1, hρ2⟩, ⟨hβ1, hβ2⟩, hρβ, ⟨hπ1, hπ2, hπ3, hπ4⟩, ⟨hv1, hv2, hv3, hv4⟩, ⟨hx1, hx2, hx3, hx4⟩, ⟨hγ1, hγ2, hγ3, hγ4⟩, ⟨hy1, hy2, hy3, hy4⟩⟩ := id hC
  by_cases hkn : k < n + 1
  · have hkd : ((k : Int) - 1 < n) := by omega
    have hge := reachL_get R (e := (k : Int) - 1) (by omega)
    have nk := natOf_cast .i64 k
    have hkk : (k : Int) - 1 - -1 = k := by omega
    rw [show ((k : Int) - 1 + 1).toNat = k by omega] at hge
    have hk9 : k < 9 := by omega
    apply zz
    refine Cd.ra (h := ?_)
    apply Run.by_eq
    · intro self
      conv => lhs; simp -implicitDefEqProofs (maxSteps := 300000) (disch := omega) [-getElem?_pos, -getElem?_neg, g9, g1, hπ4, hkd]
    try (with_reducible refine Run.ret ?_)
    apply zz
    apply Cd.ite rfl
    · conv => lhs; simp -implicitDefEqProofs (maxSteps := 300000) (disch := omega) [-getElem?_pos, -getElem?_neg]
    all_goals intro d0
    all_goals try (cases d0; done)
    all_goals try simp only [Bool.not_eq_true', Bool.not_eq_false', decide_eq_true_eq, decide_eq_false_iff_not] at d0
    all_goals apply zz
    cases hR : R ((k : Int) - 1) with
    | true =>
      rw [hR] at hge
      apply zz
      refine Cd.ra (h := ?_)
      apply Run.by_eq
      · intro self
        conv => lhs; simp -implicitDefEqProofs (maxSteps := 300000) (disch := omega) [-getElem?_pos, -getElem?_neg, g9, g7, hkk, nk, hk9, hρ, hge]
      try (with_reducible refine Run.ret ?_)
      apply zz
      apply Cd.ite rfl
      · conv => lhs; simp -implicitDefEqProofs (maxSteps := 300000) (disch := omega) [-getElem?_pos, -getElem?_neg]
      all_goals intro d1
      all_goals try (cases d1; done)
      all_goals try simp only [Bool.not_eq_true', Bool.not_eq_false', decide_eq_true_eq, decide_eq_false_iff_not] at d1
      all_goals apply zz
      apply zz
      refine Cd.ra (h := ?_)
      apply Run.by_eq
      · intro self
        conv => lhs; simp -implicitDefEqProofs (maxSteps := 300000) (disch := omega) [-getElem?_pos, -getElem?_neg, g9]
      try (with_reducible refine Run.ret ?_)
      apply zz
      refine LoopK.nm (n + 1 - (k + 1)) (by omega) ⟨k + 1, R, B, by omega, rfl, by simp [gm], ?_, by simp [g1], by simp [g3], by simp [g7], by simp [g8], hC, hρ, hβ, hS.skip hkn hR⟩
      simp
    | false =>
      rw [hR] at hge
      apply zz
      refine Cd.ra (h := ?_)
      apply Run.by_eq
      · intro self
        conv => lhs; simp -implicitDefEqProofs (maxSteps := 300000) (disch := omega) [-getElem?_pos, -getElem?_neg, g9, g7, hkk, nk, hk9, hρ, hge]
      try (with_reducible refine Run.ret ?_)
      apply zz
      apply Cd.ite rfl
      · conv => lhs; simp -implicitDefEqProofs (maxSteps := 300000) (disch := omega) [-getElem?_pos, -getElem?_neg]
      all_goals intro d1
      all_goals try (cases d1; done)
      all_goals try simp only [Bool.not_eq_true', Bool.not_eq_false', decide_eq_true_eq, decide_eq_false_iff_not] at d1
      all_goals apply zz
      apply zz
      refine Cd.ra (h := ?_)
      apply Run.by_eq
      · intro self
        conv => lhs; simp -implicitDefEqProofs (maxSteps := 300000) (disch := omega) [-getElem?_pos, -getElem?_neg, g8, g9, hγ4]
      try (with_reducible refine Run.ret ?_)
      apply zz
      refine Run.call ((gather_ev n _ fs s (w1.next + 1) s.next w1.next φ (w1.next + 1 + 1) (s.next + 1 + 1) (s.next + 1) K W hn hf hl hends hne hB12 hK hexc hW hW62 _ ((k : Int) - 1) (-1) R B s2 (Nat.le_refl _) (by omega) (by omega) (fun j g hj _ => absurd hj (by omega)) hC hρ hβ hS.bound).mono fun r s3 hv => ?_)
      obtain ⟨R', B', rest, rfl, hD, d1', d2, d3, d4⟩ := hv
      apply Run.by_eq
      · intro self
        conv => lhs; simp -implicitDefEqProofs (maxSteps := 300000) (disch := omega) [-getElem?_pos, -getElem?_neg]
      try (with_reducible refine Run.ret ?_)
      apply zz
      refine Cd.ra (h := ?_)
      apply Run.by_eq
      · intro self
        conv => lhs; simp -implicitDefEqProofs (maxSteps := 300000) (disch := omega) [-getElem?_pos, -getElem?_neg, g9]
      try (with_reducible refine Run.ret ?_)
      apply zz
      refine LoopK.nm (n + 1 - (k + 1)) (by omega) ⟨k + 1, R', B', by omega, rfl, by simp [gm], ?_, by simp [g1], by simp [g3], by simp [g7], by simp [g8], hC.keep d1' d2, d3, d4, hS.step hkn hR hD⟩
      simp
  · obtain rfl : k = n + 1 := by omega
    have hkd : ¬ (((n + 1 : Nat) : Int) - 1 < n) := by omega
    apply zz
    refine Cd.ra (h := ?_)
    apply Run.by_eq
    · intro self
      conv => lhs; simp -implicitDefEqProofs (maxSteps := 300000) (disch := omega) [-getElem?_pos, -getElem?_neg, g9, g1, hπ4, hkd]
    try (with_reducible refine Run.ret ?_)
    apply zz
    apply Cd.ite rfl
    · conv => lhs; simp -implicitDefEqProofs (maxSteps := 300000) (disch := omega) [-getElem?_pos, -getElem?_neg]
    all_goals intro d0
    all_goals try (cases d0; done)
    all_goals try simp only [Bool.not_eq_true', Bool.not_eq_false', decide_eq_true_eq, decide_eq_false_iff_not] at d0
    all_goals apply zz
    apply zz
    refine Cd.ra (h := ?_)
    apply Run.by_eq
    · intro self
      conv => lhs; simp -implicitDefEqProofs (maxSteps := 300000) (disch := omega) [-getElem?_pos, -getElem?_neg, g3, hy4]
    try (with_reducible refine Run.ret ?_)
    apply zz
    apply Leave.mk (by first | exact .inl rfl | exact .inr rfl) (by simp only [Fr.marks_put, fr0_marks, gm])
    · conv => lhs; simp -implicitDefEqProofs (disch := omega) [Try.results48, gm]
    exact ⟨⟨hC.base, hC.old⟩, s.next + 1, B, rfl, by omega, by omega, hβ, hS.done⟩
end Go.Proofs.Ytjehpgflhgpalaa
namespace Go.Proofs.Ytjehpgflhgpalaa
open Go Kern
/-! Sums over ends -/
def sumL (g : Int → Mass) : List Int → Mass
  | [] => Mass.zero
  | x :: r => (g x).add (sumL g r)
theorem sumL_zero {g : Int → Mass} : ∀ {xs : List Int}, (∀ x ∈ xs, g x = Mass.zero) → sumL g xs = Mass.zero
  | [], _ => rfl
  | x :: r, h => by unfold sumL; rw [h x (.head _), sumL_zero fun y hy => h y (.tail _ hy), Mass.add_zero]
theorem sumL_congr {g h : Int → Mass} : ∀ {xs : List Int}, (∀ x ∈ xs, g x = h x) → sumL g xs = sumL h xs
  | [], _ => rfl
  | x :: r, hc => by unfold sumL; rw [hc x (.head _), sumL_congr fun y hy => hc y (.tail _ hy)]
theorem sumL_one {g : Int → Mass} {u : Int} : ∀ {xs : List Int}, xs.Nodup → u ∈ xs → (∀ x ∈ xs, x ≠ u → g x = Mass.zero) → sumL g xs = g u
  | [], _, h, _ => by cases h
  | x :: r, hn, h, hz => by
    unfold sumL
    obtain ⟨h1, h2⟩ := List.nodup_cons.1 hn
    by_cases e : x = u
    · subst e
      rw [sumL_zero fun y hy => hz y (.tail _ hy) fun q => h1 (q ▸ hy), Mass.add_zero]
    · rw [hz x (.head _) e, Mass.zero_add]
      refine sumL_one h2 ?_ fun y hy => hz y (.tail _ hy)
      cases h with
      | head => exact absurd rfl e
      | tail _ h => exact h
theorem sumL_add (g h : Int → Mass) : ∀ xs, sumL (fun x => (g x).add (h x)) xs = (sumL g xs).add (sumL h xs)
  | [] => (Mass.add_zero _).symm
  | x :: r => by unfold sumL; rw [sumL_add g h r, Mass.add_swap]
theorem sumL_sumN (g : Int → Nat → Mass) (xs : List Int) : ∀ k, sumL (fun x => sumN (g x) k) xs = sumN (fun j => sumL (fun x => g x j) xs) k
  | 0 => sumL_zero fun _ _ => rfl
  | k + 1 => by
    unfold sumN
    rw [sumL_add, sumL_sumN g xs k]
theorem sumL_brings {f : FlowD} (hne : f.fr ≠ f.to) (m : Mass) : ∀ {xs : List Int}, xs.Nodup → sumL (fun v => brings f v m) xs = bringsL f xs m
  | [], _ => by simp [sumL, bringsL]
  | x :: r, hn => by
    obtain ⟨h1, h2⟩ := List.nodup_cons.1 hn
    unfold sumL
    rw [sumL_brings hne m h2]
    unfold brings bringsL
    by_cases e1 : f.to = x
    · have e2 : ¬ f.fr = x := fun q => hne (q.trans e1.symm)
      have e3 : ¬ f.to ∈ r := fun q => h1 (e1 ▸ q)
      by_cases e4 : f.fr ∈ r
      · simp [e1, e2, e4, e1 ▸ e3, Mass.add_neg]
      · simp [e1, e2, e4, e1 ▸ e3, Mass.add_zero]
    · by_cases e2 : f.fr = x
      · have e4 : ¬ f.fr ∈ r := fun q => h1 (e2 ▸ q)
        by_cases e3 : f.to ∈ r
        · have e5 : ¬ x ∈ r := h1
          simp [e1, e2, e3, e5, Mass.add_comm, Mass.add_neg]
        · have e5 : ¬ x ∈ r := h1
          simp [e1, e2, e3, e5, Mass.add_zero]
      · simp [e1, e2, Mass.zero_add]
/-- What comes to a set of ends, by measured flows and by those of the forest. -/
theorem sum_net {fs : List FlowD} (B : Nat → Mass) (hne : ∀ f ∈ fs, f.fr ≠ f.to) {xs : List Int} (hn : xs.Nodup) :
    sumL (netB fs B) xs = (excM xs fs).add (sumN (fun j => match fs[j]? with | some f => (if chB fs j = true then bringsL f xs (B j) else Mass.zero) | none => Mass.zero) fs.length) := by
  have h1 : ∀ v, netB fs B v = (sumN (fun j => match fs[j]? with | some f => (if f.me = true then brings f v f.m else Mass.zero) | none => Mass.zero) fs.length).add (sumN (fun j => contr fs B v j) fs.length) := fun v => by
    unfold netB netx
    have e1 : excM [v] fs = sumN (fun j => match fs[j]? with | some f => (if f.me = true then brings f v f.m else Mass.zero) | none => Mass.zero) fs.length := by
      rw [excM_sum]
      refine sumN_congr fun j hj => ?_
      have hg : fs[j]? = some fs[j] := List.getElem?_eq_getElem hj
      rw [hg]
      simp only []
      rw [bringsL_one (hne _ (List.getElem_mem hj))]
    rw [e1]
    congr 1
  rw [sumL_congr fun v _ => h1 v, sumL_add, sumL_sumN, sumL_sumN, excM_sum]
  congr 1
  · refine sumN_congr fun j hj => ?_
    have hg : fs[j]? = some fs[j] := List.getElem?_eq_getElem hj
    rw [hg]
    simp only []
    by_cases hm : fs[j].me = true
    · simp only [hm, if_true]
      exact sumL_brings (hne _ (List.getElem_mem hj)) _ hn
    · rw [if_neg hm]
      exact sumL_zero fun _ _ => if_neg hm
  · refine sumN_congr fun j hj => ?_
    have hg : fs[j]? = some fs[j] := List.getElem?_eq_getElem hj
    unfold contr
    rw [hg]
    simp only []
    by_cases hc : chB fs j = true
    · simp only [hc, if_true]
      exact sumL_brings (hne _ (List.getElem_mem hj)) _ hn
    · rw [if_neg hc]
      exact sumL_zero fun _ _ => if_neg hc
theorem bringsL_in {f : FlowD} {xs : List Int} (h : f.fr ∈ xs ↔ f.to ∈ xs) (m : Mass) : bringsL f xs m = Mass.zero := by
  unfold bringsL
  by_cases h1 : f.to ∈ xs
  · rw [if_pos h1, if_pos (h.2 h1)]
  · rw [if_neg h1, if_neg (fun q => h1 (h.1 q))]
theorem clsN_nodup (rt : Int → Int) (k n : Nat) : (clsN rt k n).Nodup := (clsN_sorted rt k n).imp fun h => by omega
theorem mem_cls' {rt : Int → Int} {n k : Nat} (ho : rt k ≠ rt (-1)) {x : Int} (h1 : -1 ≤ x) (h2 : x < n) : x ∈ clsN rt k n ↔ rt x = rt k := by
  by_cases h0 : x = -1
  · subst h0
    constructor
    · intro h
      unfold clsN at h
      obtain ⟨y, _, e⟩ := List.mem_map.1 h
      omega
    · intro h; exact absurd h.symm ho
  · obtain ⟨y, rfl⟩ : ∃ y : Nat, x = y := ⟨x.toNat, by omega⟩
    exact mem_cls (by omega)
theorem rt_FE (fs : List FlowD) (x y : Int) : rtF (-1) fs 0 id x = rtF (-1) fs 0 id y ↔ Path fs (FE fs (-1)) x y := by
  rw [forest_all]
  constructor <;> refine fun h => h.mono fun j f _ he => ?_
  · exact ⟨he, by omega⟩
  · exact he.1
/-- If no part has an excess, as much comes to each unit as goes from it. -/
theorem settled_zero {fs : List FlowD} {n : Nat} {W : Int} {B : Nat → Mass} (h : Settled fs n W B) (hends : ∀ f ∈ fs, (-1 ≤ f.fr ∧ f.fr < n) ∧ (-1 ≤ f.to ∧ f.to < n)) (hne : ∀ f ∈ fs, f.fr ≠ f.to)
    (hz : ∀ k : Nat, k < n → isLead (rtF (-1) fs 0 id) n k = true → excM (clsN (rtF (-1) fs 0 id) k n) fs = Mass.zero) {u : Nat} (hu : u < n) : netB fs B u = Mass.zero := by
  rcases h.nets u (by omega) (by omega) with hl | hl
  · have hL : isLead (rtF (-1) fs 0 id) n u = true := isLead_of hu (fun l hlu e => by
      have := hl l (by omega) ((rt_FE fs _ _).1 e)
      omega) (fun e => by
      have := hl (-1) (by omega) ((rt_FE fs _ _).1 e.symm)
      omega)
    have hex := hz u hu hL
    have ho : rtF (-1) fs 0 id u ≠ rtF (-1) fs 0 id (-1) := by
      simp only [isLead, Bool.and_eq_true, Bool.not_eq_true', decide_eq_false_iff_not] at hL
      exact hL.2
    have hsum := sum_net B hne (clsN_nodup (rtF (-1) fs 0 id) u n)
    rw [hex, Mass.zero_add] at hsum
    have hin : sumN (fun j => match fs[j]? with | some f => (if chB fs j = true then bringsL f (clsN (rtF (-1) fs 0 id) u n) (B j) else Mass.zero) | none => Mass.zero) fs.length = Mass.zero := by
      rw [sumN_congr (h := fun _ => Mass.zero) fun j hj => ?_, sumN_zero]
      have hg : fs[j]? = some fs[j] := List.getElem?_eq_getElem hj
      rw [hg]
      simp only []
      split
      · rename_i hc
        obtain ⟨⟨a, b⟩, c, d⟩ := hends _ (List.getElem_mem hj)
        refine bringsL_in ?_ _
        rw [mem_cls' ho a b, mem_cls' ho c d, (rt_FE fs fs[j].fr fs[j].to).2 (Path.one hg ⟨hc, by omega⟩)]
      · rfl
    rw [hin] at hsum
    have hmem : (u : Int) ∈ clsN (rtF (-1) fs 0 id) u n := (mem_cls hu).2 rfl
    rw [sumL_one (clsN_nodup _ _ _) hmem fun x hx hxu => ?_] at hsum
    · exact hsum
    · unfold clsN at hx
      obtain ⟨y, hy, rfl⟩ := List.mem_map.1 hx
      obtain ⟨hy1, hy2⟩ := List.mem_filter.1 hy
      have hyn : y < n := by simpa using hy1
      have hyu : rtF (-1) fs 0 id y = rtF (-1) fs 0 id u := by simpa using hy2
      rcases h.nets y (by omega) (by omega) with h' | h'
      · have h1 := h' u (by omega) ((rt_FE fs _ _).1 hyu.symm)
        have h2 := hl y (by omega) ((rt_FE fs _ _).1 hyu)
        exact absurd (by omega) hxu
      · exact h'
  · exact hl
/-- What a flow carries that is the only one, of those that are not measured, between a set of units and the rest. -/
theorem cut_value {fs : List FlowD} {n : Nat} {B : Nat → Mass} (hne : ∀ f ∈ fs, f.fr ≠ f.to) (hnet : ∀ u : Nat, u < n → netB fs B u = Mass.zero) {xs : List Int} (hn : xs.Nodup) (hxs : ∀ x ∈ xs, 0 ≤ x ∧ x < n)
    {i : Nat} {f : FlowD} (hf : fs[i]? = some f) (hc : chB fs i = true) (hin : ∀ (j : Nat) (g : FlowD), fs[j]? = some g → g.me = false → j ≠ i → (g.fr ∈ xs ↔ g.to ∈ xs)) : (excM xs fs).add (bringsL f xs (B i)) = Mass.zero := by
  have h1 := sum_net B hne hn
  rw [sumL_zero fun x hx => ?_] at h1
  · rw [sumN_one (i := i) (List.getElem?_eq_some_iff.1 hf).1 fun j hj hji => ?_] at h1
    · rw [hf] at h1
      simp only [hc, if_true] at h1
      exact h1.symm
    · have hg : fs[j]? = some fs[j] := List.getElem?_eq_getElem hj
      rw [hg]
      simp only []
      split
      · rename_i hcj
        obtain ⟨⟨g, hg', hm⟩, _⟩ := chB_unm hcj
        rw [hg] at hg'; cases hg'
        exact bringsL_in (hin j _ hg hm hji) _
      · rfl
  · obtain ⟨a, b⟩ := hxs x hx
    obtain ⟨y, rfl⟩ : ∃ y : Nat, x = y := ⟨x.toNat, by omega⟩
    exact hnet y (by omega)
end Go.Proofs.Ytjehpgflhgpalaa
namespace Go.Proofs.Ytjehpgflhgpalaa
open Go Kern
/-! Lists of cells of one length in memory -/
def flatG (g : Nat → List Value) (len : Nat) : List Value := ((List.range len).map g).flatten
theorem flatG_succ (g : Nat → List Value) (k : Nat) : flatG g (k + 1) = flatG g k ++ g k := by
  unfold flatG
  rw [List.range_succ, List.map_append, List.flatten_append]; simp
theorem flatG_length {g : Nat → List Value} {N : Nat} (h : ∀ j, (g j).length = N) : ∀ len, (flatG g len).length = len * N
  | 0 => by simp [flatG]
  | k + 1 => by rw [flatG_succ, List.length_append, flatG_length h k, h k, Nat.add_mul]; omega
theorem flatG_congr {g h : Nat → List Value} {len : Nat} (hc : ∀ j, j < len → g j = h j) : flatG g len = flatG h len := by
  unfold flatG
  congr 1
  apply List.map_congr_left
  intro j hj
  exact hc j (by simpa using hj)
theorem flatG_cut (g : Nat → List Value) {i : Nat} : ∀ {len : Nat}, i < len → ∃ r, flatG g len = flatG g i ++ (g i ++ r) ∧ ∀ vs, flatG (fun j => if j = i then vs else g j) len = flatG g i ++ (vs ++ r)
  | 0, h => by omega
  | k + 1, h => by
    have hpre : ∀ vs, flatG (fun j => if j = i then vs else g j) i = flatG g i := fun vs => flatG_congr fun j hj => if_neg (by omega)
    by_cases e : i = k
    · subst e
      refine ⟨[], by rw [flatG_succ, List.append_nil], fun vs => ?_⟩
      rw [flatG_succ, hpre vs, if_pos rfl, List.append_nil]
    · obtain ⟨r, h1, h2⟩ := flatG_cut g (i := i) (len := k) (by omega)
      refine ⟨r ++ g k, by rw [flatG_succ, h1]; simp, fun vs => ?_⟩
      rw [flatG_succ, h2 vs, if_neg (fun q => e q.symm)]; simp
theorem flatG_put {g : Nat → List Value} {N : Nat} (hN : ∀ j, (g j).length = N) {vs : List Value} (hv : vs.length = N) {i len : Nat} (h : i < len) : putL (i * N) vs (flatG g len) = some (flatG (fun j => if j = i then vs else g j) len) := by
  obtain ⟨r, h1, h2⟩ := flatG_cut g h
  rw [h1, h2 vs, ← flatG_length hN i, putL_append, overL_same vs (g i) r (by rw [hv, hN])]; rfl
theorem flatG_get {g : Nat → List Value} {N : Nat} (hN : ∀ j, (g j).length = N) {i len : Nat} (h : i < len) : takeL N ((flatG g len).drop (i * N)) = some (g i) := by
  unfold flatG
  exact drop_flat (fun x hx => by obtain ⟨j, _, rfl⟩ := List.mem_map.1 hx; exact hN j) (by rw [List.getElem?_map, List.getElem?_range h]; rfl)
theorem repeatL_snoc (z : List Value) : ∀ q : Nat, repeatL z q ++ z = repeatL z (q + 1)
  | 0 => by show [] ++ z = z ++ []; simp
  | q + 1 => by
    show (z ++ repeatL z q) ++ z = z ++ repeatL z (q + 1)
    rw [List.append_assoc, repeatL_snoc z q]
theorem flatG_same (z : List Value) : ∀ len, flatG (fun _ => z) len = repeatL z len
  | 0 => by simp [flatG]
  | k + 1 => by rw [flatG_succ, flatG_same z k, repeatL_snoc]
theorem sl_of_flat {N : Nat} {s : St} {b c len : Nat} {g : Nat → List Value} {o : Option Nat} (h2 : b < s.next) (hN : ∀ j, (g j).length = N) (h3 : s.heap.get b = some (.cells (flatG g len) o)) : SlAt N s (.slice (some ⟨b, 0, none⟩) len c) ((List.range len).map g) := by
  have := sl_of_cells (n := N) (c := c) (l := (List.range len).map g) h2 (fun x hx => by obtain ⟨j, _, rfl⟩ := List.mem_map.1 hx; exact hN j) h3
  rw [List.length_map, List.length_range] at this
  exact this
/-! Comparison of masses -/
theorem unA36 : Try.prog.underlying 36 = some (.array 4 3) := by kernel_rfl
theorem unA3 : Try.prog.underlying 3 = some (.int .i64) := by kernel_rfl
theorem ceA36 : Try.prog.cellsOf 36 = 4 := by kernel_rfl
theorem ceA3 : Try.prog.cellsOf 3 = 1 := by kernel_rfl
theorem keyLitA3 {d : Nat} {a : Int} (h : (Lit.int .i64 a).wf = true) : Try.prog.keyLits (d + 1) 3 [.int .i64 a] = some [.int .i64 a] := by
  unfold Program.keyLits; rw [unA3]; simp [h]
theorem wfA_of {a : Int} (h : -4611686018427387904 ≤ a ∧ a ≤ 4611686018427387904) : (Lit.int .i64 a).wf = true := by
  simp [Lit.wf, IntKind.min, IntKind.max, IntKind.bits, IntKind.signed]
  omega
theorem keyLitsA {t : TypeId} (hu : Try.prog.underlying t = some (.array 4 3)) (hc : Try.prog.cellsOf t = 4) {m : Mass} (h : m.le 4611686018427387904) : Try.prog.keyLits 21 t m.cs = some [.int .i64 m.a, .int .i64 m.b, .int .i64 m.c, .int .i64 m.d] := by
  obtain ⟨h1, h2, h3, h4⟩ : (Lit.int .i64 m.a).wf = true ∧ (Lit.int .i64 m.b).wf = true ∧ (Lit.int .i64 m.c).wf = true ∧ (Lit.int .i64 m.d).wf = true := by
    unfold Mass.le at h; exact ⟨wfA_of (by omega), wfA_of (by omega), wfA_of (by omega), wfA_of (by omega)⟩
  unfold Program.keyLits; rw [hu]
  simp [hc, ceA3, Mass.cs, List.range, List.range.loop, keyLitA3 h1, keyLitA3 h2, keyLitA3 h3, keyLitA3 h4]
theorem formedA {t : TypeId} (hu : Try.prog.underlying t = some (.array 4 3)) (hc : Try.prog.cellsOf t = 4) (x y z w : Value) : Value.formed Try.prog t (.agg #[x, y, z, w]) = true := by
  simp [Value.formed, hu, hc]
theorem litsEq_mass (m p : Mass) : litsEq [.int .i64 m.a, .int .i64 m.b, .int .i64 m.c, .int .i64 m.d] [.int .i64 p.a, .int .i64 p.b, .int .i64 p.c, .int .i64 p.d] = decide (m = p) := by
  rw [Bool.eq_iff_iff, litsEq_iff, decide_eq_true_eq]
  constructor
  · intro h
    simp at h
    exact Mass.ext' h.1 h.2.1 h.2.2.1 h.2.2.2
  · intro h; subst h; rfl
theorem aggEqA {t : TypeId} (hu : Try.prog.underlying t = some (.array 4 3)) (hc : Try.prog.cellsOf t = 4) {m p : Mass} (h : m.le 4611686018427387904) (k : p.le 4611686018427387904) : aggEq TT t #[.int .i64 m.a, .int .i64 m.b, .int .i64 m.c, .int .i64 m.d] #[.int .i64 p.a, .int .i64 p.b, .int .i64 p.c, .int .i64 p.d] = some (decide (m = p)) := by
  unfold aggEq
  have h1 := keyLitsA hu hc h
  have h2 := keyLitsA hu hc k
  unfold Mass.cs at h1 h2
  change gd _ (ob (Try.prog.keyLits 21 t _) fun la => ob (Try.prog.keyLits 21 t _) fun lb => some (litsEq la lb)) = _
  rw [h1, h2, show Value.formed TT.prog t (.agg #[.int .i64 m.a, .int .i64 m.b, .int .i64 m.c, .int .i64 m.d]) = true from formedA hu hc _ _ _ _, show Value.formed TT.prog t (.agg #[.int .i64 p.a, .int .i64 p.b, .int .i64 p.c, .int .i64 p.d]) = true from formedA hu hc _ _ _ _]
  show gd (_ && true && true) (some (litsEq _ _)) = _
  rw [litsEq_mass]; rfl
theorem flagA36 : (TT.prog.keyTypeAt 20 36 && !TT.prog.eqGuardType TT.prog.depth 36) = true := by kernel_rfl
theorem flagA39 : (TT.prog.keyTypeAt 20 39 && !TT.prog.eqGuardType TT.prog.depth 39) = true := by kernel_rfl
@[simp] theorem binVal_36ne (a b : Array Value) : binVal TT (.array 4 3) 36 (TT.prog.keyTypeAt 20 36 && !TT.prog.eqGuardType TT.prog.depth 36) .neq (.agg a) (.agg b) = ob (aggEq TT 36 a b) fun r => some (.bool (!r)) := by
  rw [flagA36]; rfl
@[simp] theorem binVal_39ne (a b : Array Value) : binVal TT (.array 4 3) 39 (TT.prog.keyTypeAt 20 39 && !TT.prog.eqGuardType TT.prog.depth 39) .neq (.agg a) (.agg b) = ob (aggEq TT 39 a b) fun r => some (.bool (!r)) := by
  rw [flagA39]; rfl
/-! What is known of a flow -/
structure KnownD where
  st : Int
  m : Mass
def KnownD.cs (k : KnownD) : List Value := [.int .i64 k.st, .int .i64 k.m.a, .int .i64 k.m.b, .int .i64 k.m.c, .int .i64 k.m.d]
def labE (fs : List FlowD) (i : Nat) (x : Int) : Int := labF i fs 0 (fun x => (x : Int)) (x + 1).toNat
def closeAt (fs : List FlowD) (n i : Nat) (f : FlowD) : KnownD :=
  if f.me = true then ⟨1, f.m⟩ else if labE fs i f.fr = labE fs i f.to then ⟨3, Mass.zero⟩ else
    if labE fs i f.fr ≠ 0 then ⟨2, excM (sideL (labF i fs 0 (fun x => (x : Int))) n (labE fs i f.fr)) fs⟩ else ⟨2, Mass.zero.sub (excM (sideL (labF i fs 0 (fun x => (x : Int))) n (labE fs i f.to)) fs)⟩
def closeF (fs : List FlowD) (n i : Nat) : KnownD := match fs[i]? with
  | some f => closeAt fs n i f
  | none => ⟨0, Mass.zero⟩
def closeErr (u : Int) (fs : List FlowD) : Int := if checkErr u fs ≠ 0 then checkErr u fs else match provF (rtF (-1) fs 0 id) fs u.toNat u.toNat 0 with
  | some _ => 12
  | none => 0
def closeKs (u : Int) (fs : List FlowD) : List KnownD := if closeErr u fs = 0 then (List.range fs.length).map (closeF fs u.toNat) else []
theorem sideL_sorted (L : Nat → Int) (n : Nat) (h : Int) : (sideL L n h).Pairwise (· < ·) := by
  unfold sideL
  rw [List.pairwise_map]
  exact (List.pairwise_lt_range.filter _).imp fun h => by omega
theorem sideL_range {L : Nat → Int} {n : Nat} {h : Int} (h0 : L 0 ≠ h) {x : Int} (hx : x ∈ sideL L n h) : 0 ≤ x ∧ x < n := by
  unfold sideL at hx
  obtain ⟨i, hi, e⟩ := List.mem_map.1 hx
  obtain ⟨h1, h2⟩ := List.mem_filter.1 hi
  have h1 := List.mem_range.1 h1
  have h2 : L i = h := by simpa using h2
  have : i ≠ 0 := fun q => h0 (by rw [← h2, q])
  change (i : Int) - 1 = x at e
  omega
theorem lab_rt {fs : List FlowD} {n i : Nat} (hends : ∀ f ∈ fs, (-1 ≤ f.fr ∧ f.fr < n) ∧ (-1 ≤ f.to ∧ f.to < n)) {x y : Int} (hx : -1 ≤ x ∧ x < n) (hy : -1 ≤ y ∧ y < n) : labE fs i x = labE fs i y ↔ rtF i fs 0 id x = rtF i fs 0 id y := by
  have hs := Same.flows (lo := (i : Int)) (i := 0) (Same.init n) hends
  have := hs.2 (x + 1).toNat (y + 1).toNat (by omega) (by omega)
  rw [show (((x + 1).toNat : Nat) : Int) - 1 = x by omega, show (((y + 1).toNat : Nat) : Int) - 1 = y by omega] at this
  exact this
theorem found_value {fs : List FlowD} {n i : Nat} {B : Nat → Mass} {f : FlowD} (hends : ∀ f ∈ fs, (-1 ≤ f.fr ∧ f.fr < n) ∧ (-1 ≤ f.to ∧ f.to < n)) (hne : ∀ f ∈ fs, f.fr ≠ f.to) (hnet : ∀ u : Nat, u < n → netB fs B u = Mass.zero)
    (hf : fs[i]? = some f) (hm : f.me = false) (hd : rtF i fs 0 id f.fr ≠ rtF i fs 0 id f.to) : closeAt fs n i f = ⟨2, B i⟩ := by
  have hfm := List.mem_of_getElem? hf
  obtain ⟨hV1, hV2⟩ := hends f hfm
  have hc : chB fs i = true := by
    rw [chB_some hf, hm]
    have hnr : ¬ rtF (-1) (fs.take i) 0 id f.fr = rtF (-1) (fs.take i) 0 id f.to := fun e => by
      refine hd ((rt_path_all fs i _ _).2 (((rt_path fs (-1) i _ _).1 e).mono fun j g _ he => ⟨he.2.1, ?_⟩))
      have := he.1; omega
    simp [hnr]
  have hs := Same.flows (lo := (i : Int)) (i := 0) (Same.init n) hends
  have hne2 : labE fs i f.fr ≠ labE fs i f.to := fun e => hd ((lab_rt hends hV1 hV2).1 e)
  have hin : ∀ (h : Int) (j : Nat) (g : FlowD), fs[j]? = some g → g.me = false → j ≠ i → (g.fr ∈ sideL (labF i fs 0 (fun x => (x : Int))) n h ↔ g.to ∈ sideL (labF i fs 0 (fun x => (x : Int))) n h) := fun h j g hg hmg hji => by
    obtain ⟨a, b⟩ := hends g (List.mem_of_getElem? hg)
    rw [mem_sideL a.1 a.2, mem_sideL b.1 b.2]
    have he := rtF_ends i fs 0 id j g hg hmg (by omega)
    have := (lab_rt (i := i) hends a b).2 he
    unfold labE at this
    rw [this]
  have hnd : ∀ h, (sideL (labF i fs 0 (fun x => (x : Int))) n h).Nodup := fun h => (sideL_sorted _ _ _).imp fun h => by omega
  unfold closeAt
  rw [if_neg (by rw [hm]; decide), if_neg hne2]
  by_cases ha : labE fs i f.fr = 0
  · rw [if_neg (by simp [ha])]
    congr 1
    have hb : labE fs i f.to ≠ 0 := fun q => hne2 (ha.trans q.symm)
    have hcv := cut_value hne hnet (hnd (labE fs i f.to)) (fun x hx => sideL_range (by rw [hs.out]; exact fun q => hb q.symm) hx) hf hc (hin _)
    have h1 : f.to ∈ sideL (labF i fs 0 (fun x => (x : Int))) n (labE fs i f.to) := (mem_sideL hV2.1 hV2.2).2 rfl
    have h2 : ¬ f.fr ∈ sideL (labF i fs 0 (fun x => (x : Int))) n (labE fs i f.to) := fun q => hne2 ((mem_sideL hV1.1 hV1.2).1 q)
    unfold bringsL at hcv
    rw [if_pos h1, if_neg h2] at hcv
    generalize excM (sideL (labF i fs 0 (fun x => (x : Int))) n (labE fs i f.to)) fs = x at hcv ⊢
    generalize B i = y at hcv ⊢
    obtain ⟨a1, a2, a3, a4⟩ := x
    obtain ⟨b1, b2, b3, b4⟩ := y
    simp [Mass.add, Mass.zero, Mass.sub] at hcv ⊢
    omega
  · rw [if_pos ha]
    congr 1
    have hcv := cut_value hne hnet (hnd (labE fs i f.fr)) (fun x hx => sideL_range (by rw [hs.out]; exact fun q => ha q.symm) hx) hf hc (hin _)
    have h1 : f.fr ∈ sideL (labF i fs 0 (fun x => (x : Int))) n (labE fs i f.fr) := (mem_sideL hV1.1 hV1.2).2 rfl
    have h2 : ¬ f.to ∈ sideL (labF i fs 0 (fun x => (x : Int))) n (labE fs i f.fr) := fun q => hne2 ((mem_sideL hV2.1 hV2.2).1 q).symm
    unfold bringsL at hcv
    rw [if_neg h2, if_pos h1] at hcv
    generalize excM (sideL (labF i fs 0 (fun x => (x : Int))) n (labE fs i f.fr)) fs = x at hcv ⊢
    generalize B i = y at hcv ⊢
    obtain ⟨a1, a2, a3, a4⟩ := x
    obtain ⟨b1, b2, b3, b4⟩ := y
    simp [Mass.add, Mass.zero, Mass.sub] at hcv ⊢
    omega
end Go.Proofs.Ytjehpgflhgpalaa
namespace Go.Proofs.Ytjehpgflhgpalaa
open Go Kern
theorem SlAt.same {n : Nat} {s s' : St} {b o m c : Nat} {l : List (List Value)} (h : SlAt n s (.slice (some ⟨b, o, none⟩) m c) l) (h1 : b < s.next → b < s'.next) (h2 : s'.heap.get b = s.heap.get b) : SlAt n s' (.slice (some ⟨b, o, none⟩) m c) l := by
  cases h with
  | mk hb ho hc he => exact .mk (h1 hb) (h2.trans ho) hc he
theorem SlAt.lt {n : Nat} {s : St} {b o m c : Nat} {l : List (List Value)} (h : SlAt n s (.slice (some ⟨b, o, none⟩) m c) l) : b < s.next := by
  cases h with
  | mk hb ho hc he => exact hb
end Go.Proofs.Ytjehpgflhgpalaa
namespace Go.Proofs.Ytjehpgflhgpalaa
open Go Kern
theorem exc_le {fs : List FlowD} {xs : List Int} {β : Int} (hβ : 0 ≤ β) (hf : ∀ f ∈ fs, f.me = true → f.m.le β) (hl : fs.length ≤ 20) : (excM xs fs).le (20 * β) := by
  have := exc_bound (xs := xs) hβ hf fs.length
  rw [List.take_length] at this
  exact this.mono (Int.mul_le_mul_of_nonneg_right (by omega) hβ)
theorem checkErr_ne {u : Int} {fs : List FlowD} (h : checkErr u fs = 0) : ∀ f ∈ fs, f.fr ≠ f.to := fun f hf => (flowErr_ok ((checkErr_ok h).2.2.2 f hf)).2.2.1
theorem checkErr_le9 {u : Int} {fs : List FlowD} (h : checkErr u fs = 0) : ∀ f ∈ fs, f.me = true → f.m.le 1000000000 := fun f hf hm =>
  eachB_le ((flowErr_ok ((checkErr_ok h).2.2.2 f hf)).2.2.2 hm)
def knG (fs : List FlowD) (n k : Nat) (j : Nat) : List Value := if j < k then (closeF fs n j).cs else [.int .i64 0, .int .i64 0, .int .i64 0, .int .i64 0, .int .i64 0]
theorem knG_length (fs : List FlowD) (n k : Nat) (j : Nat) : (knG fs n k j).length = 5 := by
  unfold knG; split <;> rfl
theorem knG_succ (fs : List FlowD) (n k : Nat) : (fun j => if j = k then (closeF fs n k).cs else knG fs n k j) = knG fs n (k + 1) := by
  funext j
  unfold knG
  by_cases e : j = k
  · subst e; rw [if_pos rfl, if_pos (by omega)]
  · rw [if_neg e]
    by_cases h : j < k
    · rw [if_pos h, if_pos (by omega)]
    · rw [if_neg h, if_neg (by omega)]
theorem excM_zero_of {rt : Int → Int} {fs : List FlowD} {n k : Nat} (h : provAt rt fs n k = none) (hL : isLead rt n k = true) : excM (clsN rt k n) fs = Mass.zero := by
  unfold provAt at h
  rw [if_pos hL] at h
  rw [← nzK_none]
  cases hz : nzK (excM (clsN rt k n) fs) with
  | none => rfl
  | some j => rw [hz] at h; cases h
set_option maxRecDepth 100000 in
set_option maxHeartbeats 4000000 in
theorem close_ev (u : Int) (v : Value) (fs : List FlowD) (s : St) (hf : FlAt s v fs) (hl : fs.length ≤ 1000000) :
    Ev TT 24 [plantV u v] s fun r s' => Keep s s' ∧ ∃ w, r = .tuple #[w, .int .i64 (closeErr u fs)] ∧ SlAt 5 s' w ((closeKs u fs).map KnownD.cs) := by
  unfold plantV
  refine Ev.intro (fn := Try.f24) rfl (by kernel_rfl) rfl rfl ?_
  apply zz
  refine Cd.ra (h := ?_)
  apply Run.by_eq
  · intro self
    conv => lhs; simp -implicitDefEqProofs (maxSteps := 300000) (disch := omega) [-getElem?_pos, -getElem?_neg]
  try (with_reducible refine Run.ret ?_)
  apply zz
  refine Cd.ra (h := ?_)
  apply Run.by_eq
  · intro self
    conv => lhs; simp -implicitDefEqProofs (maxSteps := 300000) (disch := omega) [-getElem?_pos, -getElem?_neg]
  try (with_reducible refine Run.ret ?_)
  apply zz
  refine Run.call ((check_ev u v fs _ (hf.keep ⟨by (try simp only [pushed_next', upded_next']); omega, fun i hi => by simp -implicitDefEqProofs (disch := omega) []⟩) hl).mono fun v wq hv => ?_)
  obtain ⟨rfl, q⟩ := hv
  have qa := q.1
  have qb := q.2
  try simp only [pushed_next', upded_next'] at qa qb
  apply Run.by_eq
  · intro self
    conv => lhs; simp -implicitDefEqProofs (maxSteps := 300000) (disch := omega) [-getElem?_pos, -getElem?_neg, qb]
  try (with_reducible refine Run.ret ?_)
  apply zz
  refine Cd.ra (h := ?_)
  apply Run.by_eq
  · intro self
    conv => lhs; simp -implicitDefEqProofs (maxSteps := 300000) (disch := omega) [-getElem?_pos, -getElem?_neg, qb]
  try (with_reducible refine Run.ret ?_)
  apply zz
  apply Cd.ite rfl
  · conv => lhs; simp -implicitDefEqProofs (maxSteps := 300000) (disch := omega) [-getElem?_pos, -getElem?_neg]
  all_goals intro c0
  all_goals try (cases c0; done)
  all_goals try simp only [Bool.not_eq_true', Bool.not_eq_false', decide_eq_true_eq, decide_eq_false_iff_not] at c0
  all_goals apply zz
  · apply zz
    refine Cd.ra (h := ?_)
    apply Run.by_eq
    · intro self
      conv => lhs; simp -implicitDefEqProofs (maxSteps := 300000) (disch := omega) [-getElem?_pos, -getElem?_neg, qb]
    try (with_reducible refine Run.ret ?_)
    apply zz
    apply Leave.mk (by first | exact .inl rfl | exact .inr rfl) (by simp only [Fr.marks_put, fr0_marks, qb])
    · conv => lhs; simp -implicitDefEqProofs (disch := omega) [Try.results24, qb]
    have hce : closeErr u fs = checkErr u fs := by unfold closeErr; rw [if_pos c0]
    have hck : closeKs u fs = [] := by unfold closeKs; rw [if_neg (by rw [hce]; exact c0)]
    rw [hce, hck]
    exact ⟨⟨by (try simp only [pushed_next', upded_next']); omega, fun i hi => by simp -implicitDefEqProofs (disch := omega) [qb]⟩, _, rfl, .nil 0⟩
  have hck : checkErr u fs = 0 := c0
  obtain ⟨hu1, hu2, hl20, _⟩ := checkErr_ok hck
  have hends := ends_in hck
  obtain ⟨n, hn⟩ : ∃ n : Nat, u = n := ⟨u.toNat, by omega⟩
  subst hn
  have hn8 : n ≤ 8 := by omega
  have hce : closeErr n fs = match provF (rtF (-1) fs 0 id) fs n n 0 with | some _ => 12 | none => 0 := by unfold closeErr; rw [if_neg (by simp [hck])]; rfl
  apply zz
  refine Cd.ra (h := ?_)
  apply Run.by_eq
  · intro self
    conv => lhs; simp -implicitDefEqProofs (maxSteps := 300000) (disch := omega) [-getElem?_pos, -getElem?_neg, qb]
  try (with_reducible refine Run.ret ?_)
  apply zz
  refine Run.call ((parts_ev n v _).mono fun r w1 hv => ?_)
  obtain ⟨hk1, bp, rfl, hbp1, hbp2, hgp⟩ := hv
  have k1a := hk1.1
  have k1b := hk1.2
  have hk : Keep s w1 := ⟨by omega, fun i hi => by rw [k1b i (by omega)]; simp -implicitDefEqProofs (disch := omega) [qb]⟩
  have hv0 : w1.heap.get s.next = some (.cells [.int .i64 n, v] none) := by rw [k1b _ (by omega)]; simp -implicitDefEqProofs (disch := omega) [qb]
  have hv1 : w1.heap.get (s.next + 1) = some (.cells [.slice none 0 0] none) := by rw [k1b _ (by omega)]; simp -implicitDefEqProofs (disch := omega) [qb]
  have hv2 : w1.heap.get (s.next + 1 + 1) = some (.cells [.int .i64 0] none) := by rw [k1b _ (by omega)]; simp -implicitDefEqProofs (disch := omega) [qb]
  apply Run.by_eq
  · intro self
    conv => lhs; simp -implicitDefEqProofs (maxSteps := 300000) (disch := omega) [-getElem?_pos, -getElem?_neg]
  try (with_reducible refine Run.ret ?_)
  apply zz
  refine Cd.rangeJ (gi := 59) (first := #[]) (captured := #[.pointer (some ⟨bp, 0, none⟩)]) rfl (by simp) ?_
  generalize hR : ALoop.mk true none _ _ _ _ _ = R0
  show Ev TT 59 [.func (.yield (w1.next + 1)) #[] #[], .pointer (some ⟨bp, 0, none⟩)] _ _
  refine (iterJ_ev n v (.func (.yield (w1.next + 1)) #[] #[]) fs bp _ (fun i => i = s.next + 1 ∨ i = s.next + 1 + 1 ∨ i = w1.next + 1)
    (fun j s2 => s2.heap.get (w1.next + 1) = some (.loop R0) ∧ s2.heap.get s.next = some (.cells [.int .i64 n, v] none) ∧ s2.heap.get (s.next + 1) = some (.cells [.slice none 0 0] none) ∧ s2.heap.get (s.next + 1 + 1) = some (.cells [.int .i64 0] none) ∧ s2.heap.get w1.next = some (.deferred true) ∧ w1.next + 1 < s2.next ∧ (∀ i, i < s.next → s2.heap.get i = s.heap.get i) ∧ ∀ i, 0 ≤ i → i < j → provAt (rtF (-1) fs 0 id) fs n i = none)
    (fun j s2 => s2.heap.get (w1.next + 1) = some (.loop ⟨false, some .ret, R0.n, R0.tmps, R0.params, R0.assign, R0.body⟩) ∧ s2.heap.get w1.next = some (.deferred true) ∧ w1.next + 1 < s2.next ∧ s2.heap.get (s.next + 1) = some (.cells [.slice none 0 0] none) ∧ s2.heap.get (s.next + 1 + 1) = some (.cells [.int .i64 12] none) ∧ (∃ p, provAt (rtF (-1) fs 0 id) fs n j = some p) ∧ ∀ i, 0 ≤ i → i < j → provAt (rtF (-1) fs 0 id) fs n i = none)
    hn8 ((hf.keep hk).keep ⟨by (try simp only [pushed_next', upded_next']); omega, fun i hi => by simp -implicitDefEqProofs (disch := omega) []⟩) hl ?_ ?_ ?_ ?_ ?_ ?_ ?_ ?_).mono fun _ s2 hres => ?_
  · simp only [pushed_next']; omega
  · simp -implicitDefEqProofs (disch := omega) [hgp]
  · rintro i (rfl | rfl | rfl) <;> simp only [pushed_next'] <;> omega
  · rintro (h | h | h) <;> omega
  · refine ⟨?_, ?_, ?_, ?_, ?_, ?_, fun i hi => ?_, fun i _ hi => absurd hi (by omega)⟩
    · simp -implicitDefEqProofs (disch := omega)
    · simp -implicitDefEqProofs (disch := omega) [hv0]
    · simp -implicitDefEqProofs (disch := omega) [hv1]
    · simp -implicitDefEqProofs (disch := omega) [hv2]
    · simp -implicitDefEqProofs (disch := omega)
    · simp
    · simp -implicitDefEqProofs (disch := omega) [hk.2]
  · rintro j s1 s2 ⟨j0, j1, j2, j3, j5, j6, jk, j7⟩ h1 h2
    simp only [pushed_next'] at h2
    exact ⟨by rw [h2 _ (by omega)]; exact j0, by rw [h2 _ (by omega)]; exact j1, by rw [h2 _ (by omega)]; exact j2, by rw [h2 _ (by omega)]; exact j3, by rw [h2 _ (by omega)]; exact j5, by omega, fun i hi => by rw [h2 _ (by omega)]; exact jk i hi, j7⟩
  · rintro j s1 hj hL ⟨j0, j1, j2, j3, j5, j6, jk, j7⟩
    refine ⟨j0, j1, j2, j3, j5, j6, jk, fun i h1 h2 => ?_⟩
    by_cases e : i = j
    · subst e; unfold provAt; rw [hL]; rfl
    · exact j7 i h1 (by omega)
  · rintro j s1 w hj hL ⟨j0, j1, j2, j3, j5, j6, jk, j7⟩ hs1 hw ⟨bw, hbw, rfl⟩
    simp only [pushed_next'] at hs1 hbw
    show Evn TT (fun self => exRound self (w1.next + 1) _ s1) _
    subst hR
    refine Evn.roundJ j0 rfl ?_
    show Cd TT true _ _ ((((Fr.mk _ []).put (some 18) _).put (some 19) _)) _ _
    dsimp only
    apply zz
    refine Cd.ra (h := ?_)
    apply Run.by_eq
    · intro self
      conv => lhs; simp -implicitDefEqProofs (maxSteps := 300000) (disch := omega) [-getElem?_pos, -getElem?_neg, Fr.get_mk]
    try (with_reducible refine Run.ret ?_)
    apply zz
    refine ⟨rfl, _, j0, rfl, rfl, ?_⟩
    dsimp only
    apply zz
    refine Cd.ra (h := ?_)
    apply Run.by_eq
    · intro self
      conv => lhs; simp -implicitDefEqProofs (maxSteps := 300000) (disch := omega) [-getElem?_pos, -getElem?_neg, Fr.get_mk, j1]
    try (with_reducible refine Run.ret ?_)
    apply zz
    generalize hLf : ALoop.mk false none _ _ _ _ _ = Lf
    generalize hrt : rtF (-1) fs 0 id = rt at *
    have hcl := clsN_length rt j n
    refine Run.call ((excess_ev n v _ fs (clsN rt j n) _ (hf.keep ⟨by (try simp only [pushed_next', upded_next']); omega, fun i hi => by simp -implicitDefEqProofs (disch := omega) [jk]⟩) (SlAt.same hw (by simp) (by simp -implicitDefEqProofs (disch := omega))) (by omega) (by omega) (checkErr_le hck)).mono fun v wy hv => ?_)
    obtain ⟨rfl, y⟩ := hv
    have ya := y.1
    have yb := y.2
    try simp only [pushed_next', upded_next'] at ya yb
    have hxl := exc_le (xs := clsN rt j n) (by omega) (checkErr_le hck) hl20
    generalize hmx : excM (clsN rt j n) fs = mx at hxl
    have hEq : aggEq TT 36 #[.int .i64 mx.a, .int .i64 mx.b, .int .i64 mx.c, .int .i64 mx.d] #[.int .i64 0, .int .i64 0, .int .i64 0, .int .i64 0] = some (decide (mx = Mass.zero)) := aggEqA unA36 ceA36 (m := mx) (p := Mass.zero) (hxl.mono (by omega)) (Mass.le_zero (by omega))
    try simp only [upded_next'] at ya
    have hlp : wy.heap.get (w1.next + 1) = some (.loop Lf) := by rw [yb _ (by omega)]; simp
    have hy2 : wy.heap.get (s.next + 1) = some (.cells [.slice none 0 0] none) := by rw [yb _ (by omega)]; simp -implicitDefEqProofs (disch := omega) [j2]
    have hy3 : wy.heap.get (s.next + 1 + 1) = some (.cells [.int .i64 0] none) := by rw [yb _ (by omega)]; simp -implicitDefEqProofs (disch := omega) [j3]
    have hy5 : wy.heap.get w1.next = some (.deferred true) := by rw [yb _ (by omega)]; simp -implicitDefEqProofs (disch := omega) [j5]
    by_cases hz0 : mx = Mass.zero
    · have hz1 : decide (mx = Mass.zero) = true := decide_eq_true hz0
      rw [hz1] at hEq
      apply Run.by_eq
      · intro self
        conv => lhs; simp -implicitDefEqProofs (maxSteps := 300000) (disch := omega) [-getElem?_pos, -getElem?_neg, Mass.v, hEq]
      try (with_reducible refine Run.ret ?_)
      apply zz
      apply Cd.ite rfl
      · conv => lhs; simp -implicitDefEqProofs (maxSteps := 300000) (disch := omega) [-getElem?_pos, -getElem?_neg]
      all_goals intro d0
      all_goals try (cases d0; done)
      all_goals try simp only [Bool.not_eq_true', Bool.not_eq_false', decide_eq_true_eq, decide_eq_false_iff_not] at d0
      all_goals apply zz
      refine ⟨Lf, hlp, .inl ⟨rfl, ?_, ?_, ?_, ?_, ?_, ?_, fun i hi => ?_, fun i h1 h2 => ?_⟩, ?_, fun z hz hX => ?_⟩
      · rw [get_upded_same]; subst hLf; rfl
      · simp -implicitDefEqProofs (disch := omega) [yb, j1]
      · simp -implicitDefEqProofs (disch := omega) [hy2]
      · simp -implicitDefEqProofs (disch := omega) [hy3]
      · simp -implicitDefEqProofs (disch := omega) [hy5]
      · simp only [upded_next']; omega
      · simp -implicitDefEqProofs (disch := omega) [yb, jk]
      · by_cases e : i = j
        · subst e; unfold provAt; rw [if_pos hL, hmx, nzK_none.2 hz0]; rfl
        · exact j7 i h1 (by omega)
      · simp only [upded_next']; omega
      · have x4 : z ≠ w1.next + 1 := fun e => hX (.inr (.inr e))
        simp -implicitDefEqProofs (disch := omega) [yb]
    · have hz1 : decide (mx = Mass.zero) = false := decide_eq_false hz0
      rw [hz1] at hEq
      apply Run.by_eq
      · intro self
        conv => lhs; simp -implicitDefEqProofs (maxSteps := 300000) (disch := omega) [-getElem?_pos, -getElem?_neg, Mass.v, hEq]
      try (with_reducible refine Run.ret ?_)
      apply zz
      apply Cd.ite rfl
      · conv => lhs; simp -implicitDefEqProofs (maxSteps := 300000) (disch := omega) [-getElem?_pos, -getElem?_neg]
      all_goals intro d0
      all_goals try (cases d0; done)
      all_goals try simp only [Bool.not_eq_true', Bool.not_eq_false', decide_eq_true_eq, decide_eq_false_iff_not] at d0
      all_goals apply zz
      apply zz
      refine Cd.ra (h := ?_)
      apply Run.by_eq
      · intro self
        conv => lhs; simp -implicitDefEqProofs (maxSteps := 300000) (disch := omega) [-getElem?_pos, -getElem?_neg, Fr.get_mk, hy2, hy3]
      try (with_reducible refine Run.ret ?_)
      apply zz
      refine ⟨Lf, ?_, .inr ⟨rfl, ?_, ?_, ?_, ?_, ?_, ?_, j7⟩, ?_, fun z hz hX => ?_⟩
      · simp -implicitDefEqProofs (disch := omega) [hlp]
      · rw [get_upded_same]; subst hLf; rfl
      · simp -implicitDefEqProofs (disch := omega) [hy5]
      · simp only [upded_next']; omega
      · simp -implicitDefEqProofs (disch := omega)
      · simp -implicitDefEqProofs (disch := omega)
      · unfold provAt
        rw [if_pos hL, hmx]
        cases hzz : nzK mx with
        | none => exact absurd (nzK_none.1 hzz) hz0
        | some p => exact ⟨_, rfl⟩
      · simp only [upded_next']; omega
      · have x1 : z ≠ s.next + 1 := fun e => hX (.inl e)
        have x2 : z ≠ s.next + 1 + 1 := fun e => hX (.inr (.inl e))
        have x4 : z ≠ w1.next + 1 := fun e => hX (.inr (.inr e))
        simp -implicitDefEqProofs (disch := omega) [yb]
  obtain ⟨hJB, r2, r3⟩ := hres
  simp only [pushed_next'] at r2 r3
  have hold : ∀ i, i < s.next → s2.heap.get i = s.heap.get i := fun i hi => by
    rw [r3 i (by omega) (by omega)]
    simp -implicitDefEqProofs (disch := omega) [hk.2]
  rcases hJB with ⟨j0, j1, j2, j3, j5, j6, jk, j7⟩ | ⟨k, hkn, hL, ⟨b0, b1, b2, b3, b4, ⟨p, hp⟩, hz⟩⟩
  · refine ⟨R0, j0, .inl ⟨by rw [← hR], by rw [← hR], ?_⟩⟩
    have hK0 : ((n : Int) + 1) * 20000000000 ≤ 180000000000 := by omega
    with_reducible repeat first|apply Z0|apply Z1|apply Z4|apply Z5
    have hfs2 : FlAt (s2.upded (w1.next + 1) .dead) v fs := hf.keep ⟨by (try simp only [pushed_next', upded_next']); omega, fun i hi => by simp -implicitDefEqProofs (disch := omega) [hold]⟩
    have hzero : ∀ k : Nat, k < n → isLead (rtF (-1) fs 0 id) n k = true → excM (clsN (rtF (-1) fs 0 id) k n) fs = Mass.zero := fun k hk hL => excM_zero_of (j7 k (by omega) hk) hL
    have hce' : closeErr n fs = 0 := by rw [hce, provF_none fun i h1 h2 => j7 i h1 (by omega)]
    have hck' : closeKs n fs = (List.range fs.length).map (closeF fs n) := by unfold closeKs; rw [if_pos hce']; rfl
    rw [hce', hck']
    have hne := checkErr_ne hck
    have h9 := checkErr_le9 hck
    have hpl : (s2.upded (w1.next + 1) .dead).heap.get s.next = some (.cells [.int .i64 n, v] none) := by simp -implicitDefEqProofs (disch := omega) [j1]
    apply zz
    refine Cd.ra (h := ?_)
    apply Run.by_eq
    · intro self
      conv => lhs; simp -implicitDefEqProofs (maxSteps := 300000) (disch := omega) [-getElem?_pos, -getElem?_neg, Fr.get_mk, hpl]
    try (with_reducible refine Run.ret ?_)
    apply zz
    refine Run.call ((settle_ev n v fs _ 20000000000 180000000000 hn8 hfs2 (by omega) hends hne (checkErr_le hck) (fun f hf hm => (h9 f hf hm).mono (by omega)) (by omega) (fun e => exc_le (by omega) h9 hl20) hK0 (by omega) (by omega)).mono fun r s3 hv => ?_)
    obtain ⟨k3, β, B, rfl, hβ1, hβ2, hβ3, hSet⟩ := hv
    have k3a := k3.1
    have k3b := k3.2
    simp only [upded_next'] at k3a k3b hβ1
    have hnet : ∀ u : Nat, u < n → netB fs B u = Mass.zero := fun u hu => settled_zero hSet hends hne hzero hu
    have hold3 : ∀ i, i < s.next → s3.heap.get i = s.heap.get i := fun i hi => by rw [k3b i (by omega)]; simp -implicitDefEqProofs (disch := omega) [hold]
    have hf3 : FlAt s3 v fs := hf.keep ⟨by omega, hold3⟩
    have q1 : s3.heap.get s.next = some (.cells [.int .i64 n, v] none) := (k3b _ (by omega)).trans hpl
    have q2 : s3.heap.get (s.next + 1) = some (.cells [.slice none 0 0] none) := by rw [k3b _ (by omega)]; simp -implicitDefEqProofs (disch := omega) [j2]
    have q3 : s3.heap.get (s.next + 1 + 1) = some (.cells [.int .i64 0] none) := by rw [k3b _ (by omega)]; simp -implicitDefEqProofs (disch := omega) [j3]
    have q5 : s3.heap.get w1.next = some (.deferred true) := by rw [k3b _ (by omega)]; simp -implicitDefEqProofs (disch := omega) [j5]
    apply Run.by_eq
    · intro self
      conv => lhs; simp -implicitDefEqProofs (maxSteps := 300000) (disch := omega) [-getElem?_pos, -getElem?_neg]
    try (with_reducible refine Run.ret ?_)
    apply zz
    obtain ⟨a, c, rfl⟩ := hf3.shape
    rw [List.length_map] at hf3 q1 hf hfs2
    have nl := natOf_cast .i64 fs.length
    apply zz
    refine Cd.ra (h := ?_)
    apply Run.by_eq
    · intro self
      conv => lhs; simp -implicitDefEqProofs (maxSteps := 300000) (disch := omega) [-getElem?_pos, -getElem?_neg, Fr.get_mk, q1, nl]
    try (with_reducible refine Run.ret ?_)
    apply zz
    refine Cd.ra (h := ?_)
    apply Run.by_eq
    · intro self
      conv => lhs; simp -implicitDefEqProofs (maxSteps := 300000) (disch := omega) [-getElem?_pos, -getElem?_neg, Fr.get_mk, q1]
    try (with_reducible refine Run.ret ?_)
    apply zz
    refine Cd.inv (fun z f s' => ∃ k : Nat, k ≤ fs.length ∧ z = fs.length - k ∧ f.marks = [w1.next] ∧ f.get 34 = .int .i64 k ∧ f.get 33 = .int .i64 fs.length ∧ f.get 32 = .slice a fs.length c ∧ f.get 1 = .pointer (some ⟨s.next, 0, none⟩) ∧ f.get 2 = .pointer (some ⟨s.next + 1, 0, none⟩) ∧ f.get 3 = .pointer (some ⟨s.next + 1 + 1, 0, none⟩) ∧ f.get 7 = .slice (some ⟨β, 0, none⟩) fs.length fs.length ∧ f.get 8 = .slice (some ⟨s3.next, 0, none⟩) fs.length fs.length ∧ Keep s3 s' ∧ s3.next < s'.next ∧
      s'.heap.get s3.next = some (.cells (flatG (knG fs n k) fs.length) none)) fs.length ?_ ?_
    · refine ⟨0, by omega, rfl, by simp, by simp, by simp, by simp, by simp [Fr.get_mk], by simp [Fr.get_mk], by simp [Fr.get_mk], by simp [Fr.get_mk], by simp, ⟨by (try simp only [pushed_next', upded_next']); omega, fun i hi => by simp -implicitDefEqProofs (disch := omega) []⟩, by simp, ?_⟩
      rw [show knG fs n 0 = fun _ => [.int .i64 0, .int .i64 0, .int .i64 0, .int .i64 0, .int .i64 0] from by funext j; unfold knG; rw [if_neg (by omega)], flatG_same]
      simp -implicitDefEqProofs (disch := omega)
    rintro z f s' ⟨k, hk, rfl, hm, h34, h33, h32, h1, h2, h3, h7, h8, hkp, hnx, hg⟩
    have hkpa := hkp.1
    have hkpb := hkp.2
    by_cases hlt : k < fs.length
    · obtain ⟨g, hgk⟩ : ∃ g, fs[k]? = some g := ⟨fs[k], by simp [hlt]⟩
      obtain ⟨hV1, hV2⟩ := hends g (List.mem_of_getElem? hgk)
      have hcl : closeF fs n k = closeAt fs n k g := by unfold closeF; rw [hgk]
      have hfv := fun hm => found_value (n := n) (B := B) hends hne hnet hgk hm
      have hlr := lab_rt (i := k) hends hV1 hV2
      obtain ⟨b, off, o, cs, gg, rfl, hb, ho, hc, ht⟩ := FlAt.at (hf3.keep hkp) hgk
      have hputK : ∀ (st : Int) (mm : Mass), closeAt fs n k g = ⟨st, mm⟩ → putL (k * 5) [.int .i64 st, .int .i64 mm.a, .int .i64 mm.b, .int .i64 mm.c, .int .i64 mm.d] (flatG (knG fs n k) fs.length) = some (flatG (knG fs n (k + 1)) fs.length) := fun st mm h => by
        rw [← knG_succ, hcl, h]
        exact flatG_put (knG_length fs n k) rfl hlt
      obtain ⟨g0, g1, gm, m⟩ := g
      rw [FlowD.cs] at ht
      simp only [] at ht hV1 hV2 hlr hfv
      apply zz
      refine Cd.ra (h := ?_)
      apply Run.by_eq
      · intro self
        conv => lhs; simp -implicitDefEqProofs (maxSteps := 300000) (disch := omega) [-getElem?_pos, -getElem?_neg, h34, h33]
      try (with_reducible refine Run.ret ?_)
      apply zz
      apply Cd.ite rfl
      · conv => lhs; simp -implicitDefEqProofs (maxSteps := 300000) (disch := omega) [-getElem?_pos, -getElem?_neg]
      all_goals intro c1
      all_goals try (cases c1; done)
      all_goals try simp only [Bool.not_eq_true', Bool.not_eq_false', decide_eq_true_eq, decide_eq_false_iff_not] at c1
      all_goals apply zz
      · apply zz
        refine Cd.ra (h := ?_)
        apply Run.by_eq
        · intro self
          conv => lhs; simp -implicitDefEqProofs (maxSteps := 300000) (disch := omega) [-getElem?_pos, -getElem?_neg, h34, h32, ho, hc, ht, hlt]
        try (with_reducible refine Run.ret ?_)
        apply zz
        refine Cd.ra (h := ?_)
        apply Run.by_eq
        · intro self
          conv => lhs; simp -implicitDefEqProofs (maxSteps := 300000) (disch := omega) [-getElem?_pos, -getElem?_neg]
        try (with_reducible refine Run.ret ?_)
        apply zz
        cases gm with
        | true =>
          have hput := hputK 1 m (by unfold closeAt; rfl)
          apply zz
          apply Cd.ite rfl
          · conv => lhs; simp -implicitDefEqProofs (maxSteps := 300000) (disch := omega) [-getElem?_pos, -getElem?_neg]
          all_goals intro c2
          all_goals try (cases c2; done)
          all_goals try simp only [Bool.not_eq_true', Bool.not_eq_false', decide_eq_true_eq, decide_eq_false_iff_not] at c2
          all_goals apply zz
          apply zz
          refine Cd.ra (h := ?_)
          apply Run.by_eq
          · intro self
            conv => lhs; simp -implicitDefEqProofs (maxSteps := 300000) (disch := omega) [-getElem?_pos, -getElem?_neg, h8, hg, hlt, hput]
          try (with_reducible refine Run.ret ?_)
          apply zz
          refine Cd.ra (h := ?_)
          apply Run.by_eq
          · intro self
            conv => lhs; simp -implicitDefEqProofs (maxSteps := 300000) (disch := omega) [-getElem?_pos, -getElem?_neg, h34]
          try (with_reducible refine Run.ret ?_)
          apply zz
          refine LoopK.nm (fs.length - (k + 1)) (by omega) ⟨k + 1, by omega, rfl, by simp [hm], by simp, by simp [h33], by simp [h32], by simp [h1], by simp [h2], by simp [h3], by simp [h7], by simp [h8], ⟨by (try simp only [pushed_next', upded_next']); omega, fun i hi => by simp -implicitDefEqProofs (disch := omega) [hkpb]⟩, by (try simp only [pushed_next', upded_next']); omega, by simp -implicitDefEqProofs (disch := omega)⟩
        | false =>
          apply zz
          apply Cd.ite rfl
          · conv => lhs; simp -implicitDefEqProofs (maxSteps := 300000) (disch := omega) [-getElem?_pos, -getElem?_neg]
          all_goals intro c2
          all_goals try (cases c2; done)
          all_goals try simp only [Bool.not_eq_true', Bool.not_eq_false', decide_eq_true_eq, decide_eq_false_iff_not] at c2
          all_goals apply zz
          have q1' := (hkpb s.next (by omega)).trans q1
          have ve : veq 4 (Value.slice (some ⟨b, off, none⟩) fs.length c) (Value.slice (some ⟨b, off, none⟩) fs.length c) = true := veq_slice _ _ _ _ _
          apply zz
          refine Cd.drawnH (pl := [(0, 0, false, false), (1, 0, false, false), (3, 0, false, false), (4, 8, false, false), (5, 0, false, false), (6, 32, false, false), (2, 3, true, false), (7, 127, true, false), (8, 255, false, false)]) [false, false, true, true, true, true, false, false, false] (by kernel_rfl) (by decide) (by decide) (by conv => lhs; simp only [List.map_cons, List.map_nil]) (by conv => lhs; simp [strip, orderedG, flagH]) ?_
          apply Run.by_eq
          · intro self
            conv => lhs; simp -implicitDefEqProofs (maxSteps := 300000) (disch := omega) [-getElem?_pos, -getElem?_neg, h1, q1', ve]
          try (with_reducible refine Run.ret ?_)
          apply zz
          refine Run.call ((joins_ev n k _ fs _ (hf3.keep ⟨by (try simp only [pushed_next', upded_next']); omega, fun i hi => by simp -implicitDefEqProofs (disch := omega) [hkpb]⟩) (by omega)).mono fun r w4 hv => ?_)
          obtain ⟨k4, hb4, es, rfl, hbs, hH, hF⟩ := hv
          have k4a := k4.1
          have k4b := k4.2
          try simp only [pushed_next', upded_next'] at k4a k4b hbs
          apply Run.by_eq
          · intro self
            conv => lhs; simp -implicitDefEqProofs (maxSteps := 300000) (disch := omega) [-getElem?_pos, -getElem?_neg, k4b, q1', ve]
          try (with_reducible refine Run.ret ?_)
          apply zz
          refine Run.call ((joined_ev hb4 es _ g0 g1 _ hH hF).mono fun v wy hv => ?_)
          obtain ⟨rfl, y⟩ := hv
          have ya := y.1
          have yb := y.2
          try simp only [pushed_next', upded_next'] at ya yb
          apply Run.by_eq
          · intro self
            conv => lhs; simp -implicitDefEqProofs (maxSteps := 300000) (disch := omega) [-getElem?_pos, -getElem?_neg, yb, k4b, q1', ve]
          try (with_reducible refine Run.ret ?_)
          apply zz
          by_cases hr : rtF k fs 0 id g0 = rtF k fs 0 id g1
          · have hput := hputK 3 Mass.zero (by unfold closeAt; rw [if_neg (by simp), if_pos (hlr.2 hr)])
            simp only [Mass.zero] at hput
            apply zz
            apply Cd.ite rfl
            · conv => lhs; simp -implicitDefEqProofs (maxSteps := 300000) (disch := omega) [-getElem?_pos, -getElem?_neg, hr]
            all_goals intro c3
            all_goals try (cases c3; done)
            all_goals try simp only [Bool.not_eq_true', Bool.not_eq_false', decide_eq_true_eq, decide_eq_false_iff_not] at c3
            all_goals apply zz
            apply zz
            refine Cd.ra (h := ?_)
            apply Run.by_eq
            · intro self
              conv => lhs; simp -implicitDefEqProofs (maxSteps := 300000) (disch := omega) [-getElem?_pos, -getElem?_neg, h8, hg, hlt, hput, yb, k4b]
            try (with_reducible refine Run.ret ?_)
            apply zz
            refine Cd.ra (h := ?_)
            apply Run.by_eq
            · intro self
              conv => lhs; simp -implicitDefEqProofs (maxSteps := 300000) (disch := omega) [-getElem?_pos, -getElem?_neg, h34]
            try (with_reducible refine Run.ret ?_)
            apply zz
            refine LoopK.nm (fs.length - (k + 1)) (by omega) ⟨k + 1, by omega, rfl, by simp [hm], by simp, by simp [h33], by simp [h32], by simp [h1], by simp [h2], by simp [h3], by simp [h7], by simp [h8], ⟨by (try simp only [pushed_next', upded_next']); omega, fun i hi => by simp -implicitDefEqProofs (disch := omega) [hkpb, yb, k4b]⟩, by (try simp only [pushed_next', upded_next']); omega, by simp -implicitDefEqProofs (disch := omega)⟩
          · have hput := hputK 2 (B k) (hfv rfl hr)
            have hβ4 := (hkpb β hβ2).trans hβ3
            have hget := balL_get B hlt
            unfold Mass.cs at hget
            apply zz
            apply Cd.ite rfl
            · conv => lhs; simp -implicitDefEqProofs (maxSteps := 300000) (disch := omega) [-getElem?_pos, -getElem?_neg, hr]
            all_goals intro c3
            all_goals try (cases c3; done)
            all_goals try simp only [Bool.not_eq_true', Bool.not_eq_false', decide_eq_true_eq, decide_eq_false_iff_not] at c3
            all_goals apply zz
            apply zz
            refine Cd.ra (h := ?_)
            apply Run.by_eq
            · intro self
              conv => lhs; simp -implicitDefEqProofs (maxSteps := 300000) (disch := omega) [-getElem?_pos, -getElem?_neg, h7, h8, hg, hβ4, hget, hlt, hput, yb, k4b]
            try (with_reducible refine Run.ret ?_)
            apply zz
            refine Cd.ra (h := ?_)
            apply Run.by_eq
            · intro self
              conv => lhs; simp -implicitDefEqProofs (maxSteps := 300000) (disch := omega) [-getElem?_pos, -getElem?_neg, h34]
            try (with_reducible refine Run.ret ?_)
            apply zz
            refine LoopK.nm (fs.length - (k + 1)) (by omega) ⟨k + 1, by omega, rfl, by simp [hm], by simp, by simp [h33], by simp [h32], by simp [h1], by simp [h2], by simp [h3], by simp [h7], by simp [h8], ⟨by (try simp only [pushed_next', upded_next']); omega, fun i hi => by simp -implicitDefEqProofs (disch := omega) [hkpb, yb, k4b]⟩, by (try simp only [pushed_next', upded_next']); omega, by simp -implicitDefEqProofs (disch := omega)⟩
      · simp at c1; omega
    · obtain rfl : k = fs.length := by omega
      apply zz
      refine Cd.ra (h := ?_)
      apply Run.by_eq
      · intro self
        conv => lhs; simp -implicitDefEqProofs (maxSteps := 300000) (disch := omega) [-getElem?_pos, -getElem?_neg, h34, h33]
      try (with_reducible refine Run.ret ?_)
      apply zz
      apply Cd.ite rfl
      · conv => lhs; simp -implicitDefEqProofs (maxSteps := 300000) (disch := omega) [-getElem?_pos, -getElem?_neg]
      all_goals intro c1
      all_goals try (cases c1; done)
      all_goals try simp only [Bool.not_eq_true', Bool.not_eq_false', decide_eq_true_eq, decide_eq_false_iff_not] at c1
      all_goals apply zz
      have q2' := (hkpb (s.next + 1) (by omega)).trans q2
      have q3' := (hkpb (s.next + 1 + 1) (by omega)).trans q3
      have q5' := (hkpb w1.next (by omega)).trans q5
      apply zz
      refine Cd.ra (h := ?_)
      apply Run.by_eq
      · intro self
        conv => lhs; simp -implicitDefEqProofs (maxSteps := 300000) (disch := omega) [-getElem?_pos, -getElem?_neg, h2, h3, h8, q2', q3']
      try (with_reducible refine Run.ret ?_)
      apply zz
      apply Leave.one (m := w1.next) (by first | exact .inl rfl | exact .inr rfl) (by simp only [Fr.marks_put, hm])
      · simp -implicitDefEqProofs (disch := omega) [q5']
      · conv => lhs; simp -implicitDefEqProofs (disch := omega) [Try.results24, h2, h3]
      refine ⟨⟨by (try simp only [upded_next']); omega, fun i hi => ?_⟩, _, rfl, ?_⟩
      · simp -implicitDefEqProofs (disch := omega)
        exact (hkpb i (by omega)).trans (hold3 i hi)
      have hfl : flatG (knG fs n fs.length) fs.length = flatG (fun j => (closeF fs n j).cs) fs.length := flatG_congr fun j hj => by unfold knG; rw [if_pos hj]
      rw [hfl] at hg
      rw [List.map_map]
      exact sl_of_flat (o := none) (g := fun j => (closeF fs n j).cs) (by (try simp only [upded_next']); omega) (fun j => rfl) (by simp -implicitDefEqProofs (disch := omega) [hg])
  · refine ⟨_, b0, .inr (.inl ⟨rfl, ?_⟩)⟩
    with_reducible repeat first|apply Z0|apply Z1|apply Z2|apply Z3|apply Z4|apply Z5|refine Z6 rfl ?_|apply Z7|apply Z8
    apply Leave.one (m := w1.next) (by first | exact .inl rfl | exact .inr rfl) (by simp only [Fr.marks_put, fr0_marks])
    · simp -implicitDefEqProofs (disch := omega) [b1]
    · conv => lhs; simp -implicitDefEqProofs (disch := omega) [Try.results24, Fr.get_mk, b3, b4]
    have hce' : closeErr n fs = 12 := by rw [hce, provF_at hz (by omega) (by omega) hp]
    have hck' : closeKs n fs = [] := by unfold closeKs; rw [hce', if_neg (by decide)]
    rw [hce', hck']
    exact ⟨⟨by (try simp only [upded_next']); omega, fun i hi => by simp -implicitDefEqProofs (disch := omega) [hold]⟩, _, rfl, .nil 0⟩
end Go.Proofs.Ytjehpgflhgpalaa
namespace Go.Proofs.Ytjehpgflhgpalaa
open Go Kern
section
variable {T : Tab} {self : Self} {ds : List (Option Tmp)} {f : Fr} {s : St} {pend : List DRec}
@[simp] theorem stepD_nil : stepD T self ds [] pend f s = gd (pend.all (recD T self ds s)) (some (f, s)) := rfl
@[simp] theorem stepD_heavy (i m : Nat) (nw : Bool) (o : SOp) (r : List (Nat × Nat × Bool × Bool × SOp)) : stepD T self ds ((i, m, true, nw, o) :: r) pend f s = gd (pend.all (recD T self ds s)) (ob (itemD T self ds o f s) fun p => stepD T self ds r (pend.filter fun q => !m.testBit q.idx) (f.put o.d p.1) p.2) := rfl
@[simp] theorem stepD_light (i m : Nat) (nw : Bool) (o : SOp) (r : List (Nat × Nat × Bool × Bool × SOp)) : stepD T self ds ((i, m, false, nw, o) :: r) pend f s = ob (itemD T self ds o f s) fun p => stepD T self ds r (⟨i, nw, o, f, p.1, s.next⟩ :: pend) (f.put o.d p.1) p.2 := rfl
theorem filter_bt {α : Type} (p : α → Bool) (x : α) (l : List α) : (x :: l).filter p = bt (p x) (x :: l.filter p) (l.filter p) := by
  rw [List.filter_cons]; cases p x <;> rfl
@[simp] theorem recD_plain (i : Nat) (nw : Bool) (d : Option Tmp) (op : Op) (v : Value) (a : Nat) : recD T self ds s ⟨i, nw, ⟨d, op, none⟩, f, v, a⟩ = bt nw (objEq (s.heap.get a) (Kern.newObj T op f)) (valEq (actO T self op f s) v) := rfl
@[simp] theorem recD_guard (i : Nat) (nw : Bool) (d : Option Tmp) (op : Op) (j : Nat) (b : Bool) (v : Value) (a : Nat) : recD T self ds s ⟨i, nw, ⟨d, op, some (j, b)⟩, f, v, a⟩ = bt (guardO b f ds[j]?) (bt nw (objEq (s.heap.get a) (Kern.newObj T op f)) (valEq (actO T self op f s) v)) true := rfl
@[simp] theorem objEq_some (a b : AObj) : objEq (some a) (some b) = oeq a b := rfl
@[simp] theorem oeq_cells (c c' : List Value) : oeq (.cells c none) (.cells c' none) = (listEq (veq 5) c c' && true) := rfl
theorem newObj_buildSlice (t : TypeId) (len : Nat) (pl0 : Array (Nat × Operand)) {z : Value} {e : TypeId} {n : Nat} (h1 : T.und t = some (.slice e)) (h2 : T.size e = some n) (h3 : T.zero e = some z) (h4 : (Nat.beq (lenL z.cells.toList) n && Nat.ble (len * n) 16777216) = true) :
    Kern.newObj T (.buildSlice t len pl0) f = ob (fillL f.eval (placesA n pl0.toList) (repeatL z.cells.toList len)) fun c => some (.cells c none) := by
  have h : compOp T (.buildSlice t len pl0) = some (.new fun ρ => ob (fillL ρ (placesA n pl0.toList) (repeatL z.cells.toList len)) fun c => some (.cells c none, fun i => .slice (some ⟨i, 0, none⟩) len len)) := by
    show ob (T.und t) _ = _
    rw [h1]
    show ob (T.size e) (fun n => ob (T.zero e) _) = _
    rw [h2]
    show ob (T.zero e) _ = _
    rw [h3]
    show gd _ _ = _
    rw [h4]; rfl
  unfold Kern.newObj
  rw [h]
  show Option.map (·.1) (ob (fillL f.eval (placesA n pl0.toList) (repeatL z.cells.toList len)) fun c => some (AObj.cells c none, fun i => Value.slice (some ⟨i, 0, none⟩) len len)) = _
  cases fillL f.eval (placesA n pl0.toList) (repeatL z.cells.toList len) <;> rfl
end
@[simp] theorem newObj_50 {f : Fr} {pl0 : Array (Nat × Operand)} : Kern.newObj TT (.buildSlice 50 1 pl0) f = ob (fillL f.eval (placesA 5 pl0.toList) (repeatL [.int .i64 0, .int .i64 0, .int .i64 0, .int .i64 0, .int .i64 0] 1)) fun c => some (.cells c none) :=
  newObj_buildSlice 50 1 pl0 und_50 size_56 zero_56 rfl
end Go.Proofs.Ytjehpgflhgpalaa
namespace Go.Proofs.Ytjehpgflhgpalaa
open Go Kern
/-- Rows of cells that are gathered, in a block of their own. -/
def OwnG (n N : Nat) (s : St) (w : Value) (l : List (List Value)) : Prop :=
  (l = [] ∧ w = .slice none 0 0) ∨ ∃ b, w = .slice (some ⟨b, 0, none⟩) l.length l.length ∧ l ≠ [] ∧ N ≤ b ∧ b < s.next ∧ s.heap.get b = some (.cells l.flatten (some n))
theorem OwnG.sl {n N : Nat} {s : St} {w : Value} {l : List (List Value)} (h : OwnG n N s w l) (hn : ∀ x ∈ l, x.length = n) : SlAt n s w l := by
  rcases h with ⟨rfl, rfl⟩ | ⟨b, rfl, hne, h1, h2, h3⟩
  · exact .nil 0
  · exact sl_of_cells h2 hn h3
def knL (fs : List FlowD) (n k : Nat) : List (List Value) := (List.range k).map fun j => (closeF fs n j).cs
theorem knL_succ (fs : List FlowD) (n k : Nat) : knL fs n (k + 1) = knL fs n k ++ [(closeF fs n k).cs] := by
  unfold knL; rw [List.range_succ, List.map_append]; rfl
theorem knL_length (fs : List FlowD) (n k : Nat) : (knL fs n k).length = k := by simp [knL]
theorem OwnG.step {N k : Nat} {s s' : St} {fs : List FlowD} {n b : Nat} {kd : KnownD} (hcl : closeF fs n k = kd) (h2 : s.next ≤ b) (hN : N ≤ s.next) (h3 : b < s'.next) (h : s'.heap.get b = some (.cells ((knL fs n k).flatten ++ kd.cs) (some 5))) :
    OwnG 5 N s' (.slice (some ⟨b, 0, none⟩) (k + 1) (k + 1)) (knL fs n (k + 1)) := by
  refine .inr ⟨b, by rw [knL_length], by rw [knL_succ]; simp, by omega, h3, ?_⟩
  rw [h, knL_succ, hcl]; simp
end Go.Proofs.Ytjehpgflhgpalaa
namespace Go.Proofs.Ytjehpgflhgpalaa
open Go Kern
/-! Whole lists are appended -/
theorem takeL_add {α : Type} : ∀ {n k : Nat} {l e r : List α}, takeL n l = some e → takeL k (l.drop n) = some r → takeL (n + k) l = some (e ++ r)
  | 0, k, l, e, r, h, h2 => by
    change some [] = some e at h
    cases h
    rw [Nat.zero_add]; simpa using h2
  | n + 1, k, [], e, r, h, h2 => by cases h
  | n + 1, k, x :: l, e, r, h, h2 => by
    obtain ⟨t, h3, h4⟩ := ob_eq (show ob (takeL n l) (fun t => some (x :: t)) = some e from h)
    cases h4
    have := takeL_add (n := n) (k := k) h3 (by simpa using h2)
    rw [show n + 1 + k = (n + k) + 1 by omega]
    show ob (takeL (n + k) l) (fun t => some (x :: t)) = _
    rw [this]; rfl
theorem takeL_flat {n : Nat} {cs : List Value} : ∀ {l : List (List Value)} {off : Nat}, (∀ i e, l[i]? = some e → takeL n (cs.drop (off + i * n)) = some e) → takeL (l.length * n) (cs.drop off) = some l.flatten
  | [], off, _ => by simp
  | e :: r, off, h => by
    have h0 := h 0 e rfl
    simp only [Nat.zero_mul, Nat.add_zero] at h0
    have := takeL_flat (n := n) (cs := cs) (l := r) (off := off + n) fun i x hx => by
      have := h (i + 1) x (by simpa using hx)
      rwa [show off + (i + 1) * n = off + n + i * n by rw [Nat.add_mul]; omega] at this
    rw [List.length_cons, Nat.add_mul, Nat.one_mul, Nat.add_comm]
    exact takeL_add h0 (by rw [List.drop_drop]; exact this)
theorem newCells_sl {n : Nat} {s : St} {a : Option Addr} {m c : Nat} {l : List (List Value)} (h : SlAt n s (.slice a m c) l) (ho : onesL l.flatten = true) : newCells s.heap n (a, m, c) = some l.flatten := by
  cases h with
  | nil => rfl
  | mk hb ho' hc he =>
    have h1 := takeL_flat he
    show ob (ob (s.heap.get _) cellsOf) (fun c => ob (takeL (l.length * n) (dropL _ c.1)) fun l => gd (l.all oneV) (some l)) = _
    rw [ho']
    show ob (cellsOf _) _ = _
    rw [hc]
    show ob (takeL (l.length * n) (dropL _ _)) _ = _
    rw [dropL_eq, h1]
    show gd (l.flatten.all oneV) _ = _
    rw [onesL_eq, ho]; rfl
/-- Rows of cells in a block of their own, or none of them. -/
def OwnR (n N : Nat) (s : St) (w : Value) (l : List (List Value)) : Prop :=
  ∃ b, w = .slice (some ⟨b, 0, none⟩) l.length l.length ∧ N ≤ b ∧ b < s.next ∧ s.heap.get b = some (.cells l.flatten (if l = [] then none else some n))
theorem OwnR.sl {n N : Nat} {s : St} {w : Value} {l : List (List Value)} (h : OwnR n N s w l) (hn : ∀ x ∈ l, x.length = n) : SlAt n s w l := by
  obtain ⟨b, rfl, h1, h2, h3⟩ := h
  exact sl_of_cells h2 hn h3
theorem OwnR.keep {n N : Nat} {s s' : St} {w : Value} {l : List (List Value)} (h : OwnR n N s w l) (h1 : s.next ≤ s'.next) (h2 : ∀ i, N ≤ i → i < s.next → s'.heap.get i = s.heap.get i) : OwnR n N s' w l := by
  obtain ⟨b, h, hb1, hb2, hb3⟩ := h
  exact ⟨b, h, hb1, by omega, by rw [h2 b hb1 hb2]; exact hb3⟩
theorem app_own {n N : Nat} {s : St} {b : Nat} {y : Value} {l0 l : List (List Value)} (hx : OwnR n N s (.slice (some ⟨b, 0, none⟩) l0.length l0.length) l0) (hy : SlAt n s y l) (hn : ∀ x ∈ l0, x.length = n) (ho : onesL l.flatten = true) (hl : l0.length + l.length ≤ 100000) :
    appV n (.slice (some ⟨b, 0, none⟩) l0.length l0.length) y s = if l = [] then some (.slice (some ⟨b, 0, none⟩) l0.length l0.length, s) else
      some (.slice (some ⟨s.next, 0, none⟩) (l0.length + l.length) (l0.length + l.length), (if l0 = [] then s else s.upded b .dead).pushed (.cells (l0.flatten ++ l.flatten) (some n))) := by
  obtain ⟨a, c, rfl⟩ := hy.shape
  obtain ⟨b', e, h1, h2, h3⟩ := hx
  cases e
  show ob (newCells s.heap n (a, l.length, c)) (fun new => gd (Nat.ble (l0.length + l.length) 1048576) (bt (Nat.ble (l0.length + l.length) l0.length) (bt (Nat.beq l.length 0) (some (.slice (some ⟨b, 0, none⟩) l0.length l0.length, s)) (appRoom s n (some ⟨b, 0, none⟩, l0.length, l0.length) l.length new)) (appGrow s n (some ⟨b, 0, none⟩) l0.length (l0.length + l.length) new))) = _
  rw [newCells_sl hy ho]
  show gd (Nat.ble (l0.length + l.length) 1048576) _ = _
  rw [show Nat.ble (l0.length + l.length) 1048576 = true by simp; omega]
  show bt (Nat.ble (l0.length + l.length) l0.length) _ _ = _
  by_cases hl0 : l = []
  · subst hl0
    rw [if_pos rfl, show Nat.ble (l0.length + ([] : List (List Value)).length) l0.length = true by simp]
    rfl
  · have hpos : 0 < l.length := List.length_pos_iff.2 hl0
    rw [if_neg hl0, show Nat.ble (l0.length + l.length) l0.length = false by
      cases h : Nat.ble (l0.length + l.length) l0.length with
      | false => rfl
      | true => have := Nat.le_of_ble_eq_true h; omega]
    show ob (ob (s.heap.get b) cellsOf) (fun c => ob (takeL (l0.length * n) (dropL 0 c.1)) fun old => ob (killF s n c.2 b) fun s => exNew s (.cells (old ++ l.flatten) (some n)) fun i => .slice (some ⟨i, 0, none⟩) (l0.length + l.length) (l0.length + l.length)) = _
    rw [h3]
    have hfl : l0.flatten.length = l0.length * n := by
      clear h3 hl
      induction l0 with
      | nil => simp
      | cons e r ih => rw [List.flatten_cons, List.length_append, ih fun x hx => hn x (.tail _ hx), hn e (.head _), List.length_cons, Nat.add_mul]; omega
    show ob (takeL (l0.length * n) (dropL 0 l0.flatten)) (fun old => ob (killF s n _ b) fun s => exNew s (.cells (old ++ l.flatten) (some n)) fun i => .slice (some ⟨i, 0, none⟩) (l0.length + l.length) (l0.length + l.length)) = _
    rw [show dropL 0 l0.flatten = l0.flatten from rfl, ← hfl, takeL_all]
    by_cases h0 : l0 = []
    · rw [if_pos h0, if_pos h0]; rfl
    · rw [if_neg h0, if_neg h0]
      show ob (gd (Nat.beq n n) (s.upd b .dead)) _ = _
      rw [show Nat.beq n n = true by simp]
      show ob (s.upd b .dead) _ = _
      rw [if_neg h0] at h3
      rw [upd_dead h3]; rfl
theorem flows_ones : ∀ fs : List FlowD, onesL (fs.map FlowD.cs).flatten = true
  | [] => rfl
  | f :: r => by
    rw [← onesL_eq, List.map_cons, List.flatten_cons, List.all_append, onesL_eq, onesL_eq, flows_ones r]; rfl
theorem flows_len (fs : List FlowD) : ∀ x ∈ fs.map FlowD.cs, x.length = 7 := fun x hx => by obtain ⟨f, _, rfl⟩ := List.mem_map.1 hx; rfl
@[simp] theorem binVal_nilE (t e : TypeId) (fl : Bool) (l c l' c' : Nat) : binVal TT (.slice e) t fl .eql (.slice none l c) (.slice none l' c') = some (.bool true) := rfl
@[simp] theorem binVal_someE (t e : TypeId) (fl : Bool) (a : Addr) (l c l' c' : Nat) : binVal TT (.slice e) t fl .eql (.slice (some a) l c) (.slice none l' c') = some (.bool false) := rfl
/-- A list of flows that was copied. -/
def Cloned (N : Nat) (s : St) (w : Value) (fs : List FlowD) : Prop := FlAt s w fs ∧ (fs ≠ [] → ∃ b, w = .slice (some ⟨b, 0, none⟩) fs.length fs.length ∧ N ≤ b ∧ b < s.next ∧ s.heap.get b = some (.cells (fs.map FlowD.cs).flatten (some 7)))
end Go.Proofs.Ytjehpgflhgpalaa
namespace Go.Proofs.Ytjehpgflhgpalaa
open Go Kern
theorem putL_app {α : Type} : ∀ {n : Nat} {vs l x : List α} (r : List α), putL n vs l = some x → putL n vs (l ++ r) = some (x ++ r)
  | 0, vs, l, x, r, h => by
    rw [putL_zero] at h ⊢
    induction vs generalizing l x with
    | nil => change some l = some x at h; cases h; rfl
    | cons v vs ih =>
      cases l with
      | nil => cases h
      | cons y l =>
        obtain ⟨t, h1, h2⟩ := ob_eq (show ob (overL vs l) (fun t => some (v :: t)) = some x from h)
        cases h2
        show ob (overL vs (l ++ r)) (fun t => some (v :: t)) = _
        rw [ih l t h1]; rfl
  | n + 1, vs, [], x, r, h => by cases h
  | n + 1, vs, y :: l, x, r, h => by
    obtain ⟨t, h1, h2⟩ := ob_eq (show ob (putL n vs l) (fun t => some (y :: t)) = some x from h)
    cases h2
    show ob (putL n vs (l ++ r)) (fun t => some (y :: t)) = _
    rw [putL_app r h1]; rfl
theorem putL_behind {α : Type} {n : Nat} {vs b x : List α} : ∀ {a : List α}, putL n vs b = some x → putL (a.length + n) vs (a ++ b) = some (a ++ x)
  | [], h => by simpa using h
  | y :: a, h => by
    rw [List.length_cons, show a.length + 1 + n = (a.length + n) + 1 by omega]
    show ob (putL (a.length + n) vs (a ++ b)) (fun t => some (y :: t)) = _
    rw [putL_behind h]; rfl
theorem flatG_putAt {g : Nat → List Value} {N : Nat} (hN : ∀ j, (g j).length = N) {vs x : List Value} {off i len : Nat} (hv : putL off vs (g i) = some x) (h : i < len) : putL (i * N + off) vs (flatG g len) = some (flatG (fun j => if j = i then x else g j) len) := by
  obtain ⟨r, h1, h2⟩ := flatG_cut g h
  rw [h1, h2 x, ← flatG_length hN i]
  exact putL_behind (putL_app r hv)
theorem map_getD {α β : Type} (f : α → β) (d : α) : ∀ l : List α, (List.range l.length).map (fun j => f (l.getD j d)) = l.map f := fun l => by
  apply List.ext_getElem?
  intro j
  rw [List.getElem?_map, List.getElem?_map]
  by_cases h : j < l.length
  · rw [List.getElem?_range h]; simp [List.getD, h]
  · rw [List.getElem?_eq_none (by simpa using h), List.getElem?_eq_none (by simpa using h)]; rfl
/-! What Verify says -/
def fd0 : FlowD := ⟨0, 0, false, Mass.zero⟩
/-- The flows with the masses of a balance, the first k of them. -/
def mixF (fs : List FlowD) (bs : List Mass) (k j : Nat) : FlowD := if j < k then ⟨(fs.getD j fd0).fr, (fs.getD j fd0).to, true, bs.getD j Mass.zero⟩ else fs.getD j fd0
def told (fs : List FlowD) (bs : List Mass) : List FlowD := (List.range fs.length).map (mixF fs bs fs.length)
def unitE (gs : List FlowD) : Nat → Nat → Int × Int
  | 0, _ => (0, 0)
  | m + 1, k => if excM [(k : Int)] gs = Mass.zero then unitE gs m (k + 1) else (k, 19)
open Classical in
noncomputable def verE (u : Int) (fs : List FlowD) (bs : List Mass) : Int × Int :=
  if checkErr u fs ≠ 0 then (0, checkErr u fs) else if bs.length ≠ fs.length then (0, 3) else
    if ∃ b ∈ bs, eachB b (-1000000000000) 1000000000000 = false then (0, 2) else
      if ∃ j, j < fs.length ∧ (fs.getD j fd0).me = true ∧ bs.getD j Mass.zero ≠ (fs.getD j fd0).m then (0, 22) else unitE (told fs bs) u.toNat 0
abbrev BalAt (s : St) (v : Value) (bs : List Mass) : Prop := SlAt 4 s v (bs.map Mass.cs)
theorem BalAt.at {s : St} {a : Option Addr} {m c : Nat} {bs : List Mass} (h : BalAt s (.slice a m c) bs) {k : Nat} {x : Mass} (hk : bs[k]? = some x) :
    ∃ b off o cs g, a = some ⟨b, off, none⟩ ∧ b < s.next ∧ s.heap.get b = some o ∧ cellsOf o = some (cs, g) ∧ takeL 4 (cs.drop (off + k * 4)) = some x.cs :=
  SlAt.at h (by rw [List.getElem?_map, hk]; rfl)
theorem getD_at {α : Type} {l : List α} {k : Nat} {x d : α} (h : l[k]? = some x) : l.getD k d = x := by simp [List.getD, h]
/-- The flows that are told, as they come to be. -/
def TL (N : Nat) (s : St) (v : Value) (fs : List FlowD) (bs : List Mass) (k : Nat) : Prop :=
  (fs = [] ∧ FlAt s v []) ∨ ∃ β, v = .slice (some ⟨β, 0, none⟩) fs.length fs.length ∧ N ≤ β ∧ β < s.next ∧ s.heap.get β = some (.cells (flatG (fun j => (mixF fs bs k j).cs) fs.length) (some 7))
theorem TL.done {N : Nat} {s : St} {v : Value} {fs : List FlowD} {bs : List Mass} (h : TL N s v fs bs fs.length) : FlAt s v (told fs bs) := by
  rcases h with ⟨rfl, h⟩ | ⟨β, rfl, h1, h2, h3⟩
  · exact h
  · have := sl_of_flat (c := fs.length) h2 (N := 7) (g := fun j => (mixF fs bs fs.length j).cs) (fun j => rfl) h3
    unfold FlAt told
    rw [List.map_map]
    exact this
theorem TL.keep {N : Nat} {s s' : St} {v : Value} {fs : List FlowD} {bs : List Mass} {k : Nat} (h : TL N s v fs bs k) (hk : Keep s s') : TL N s' v fs bs k := by
  rcases h with ⟨e, h⟩ | ⟨β, e, h1, h2, h3⟩
  · exact .inl ⟨e, h.keep hk⟩
  · exact .inr ⟨β, e, h1, by have := hk.1; omega, by rw [hk.2 _ h2]; exact h3⟩
end Go.Proofs.Ytjehpgflhgpalaa
namespace Go.Proofs.Ytjehpgflhgpalaa
open Go Kern
theorem takeL_cons {α : Type} {n k : Nat} {l : List α} {a : α} {r : List α} (h : takeL (k + 1) (l.drop n) = some (a :: r)) : l[n]? = some a ∧ takeL k (l.drop (n + 1)) = some r := by
  have h0 := takeL_at h (i := 0) (by omega)
  rw [List.getElem?_drop] at h0
  refine ⟨by simpa using h0, ?_⟩
  cases hl : l.drop n with
  | nil => rw [hl] at h; cases h
  | cons x t =>
    rw [hl] at h
    obtain ⟨t', h1, h2⟩ := ob_eq (show ob (takeL k t) (fun t => some (x :: t)) = some (a :: r) from h)
    cases h2
    rw [← List.drop_drop, hl]
    exact h1
/-- The parts of a flow in memory. -/
theorem flow_parts {cs : List Value} {p : Nat} {a b c : Value} {r : List Value} (h : takeL 7 (cs.drop p) = some (a :: b :: c :: r)) : cs[p]? = some a ∧ cs[p + 1]? = some b ∧ cs[p + 2]? = some c ∧ takeL 4 (cs.drop (p + 3)) = some r := by
  obtain ⟨h1, h⟩ := takeL_cons h
  obtain ⟨h2, h⟩ := takeL_cons h
  obtain ⟨h3, h⟩ := takeL_cons h
  exact ⟨h1, h2, h3, h⟩
end Go.Proofs.Ytjehpgflhgpalaa
namespace Go.Proofs.Ytjehpgflhgpalaa
open Go Kern
/-! A flow is measured in addition -/
def meas (f : FlowD) (m : Mass) : FlowD := ⟨f.fr, f.to, true, m⟩
theorem set_at {fs : List FlowD} {k : Nat} {f : FlowD} {g : FlowD} (hk : fs[k]? = some f) : (fs.set k g)[k]? = some g := by
  have := (List.getElem?_eq_some_iff.1 hk).1
  simp [List.getElem?_set, this]
theorem set_ne {fs : List FlowD} {k j : Nat} {g : FlowD} (h : j ≠ k) : (fs.set k g)[j]? = fs[j]? := by
  rw [List.getElem?_set, if_neg (fun e => h e.symm)]
theorem lead_out {rt : Int → Int} {n k : Nat} (h : isLead rt n k = true) : rt k ≠ rt (-1) := by
  simp only [isLead, Bool.and_eq_true, Bool.not_eq_true', decide_eq_false_iff_not] at h
  exact h.2
theorem clsN_range {rt : Int → Int} {n k : Nat} {x : Int} (hx : x ∈ clsN rt k n) : 0 ≤ x ∧ x < n := by
  unfold clsN at hx
  obtain ⟨y, hy, rfl⟩ := List.mem_map.1 hx
  have := List.mem_range.1 (List.mem_filter.1 hy).1
  omega
end Go.Proofs.Ytjehpgflhgpalaa
namespace Go.Proofs.Ytjehpgflhgpalaa
open Go Kern
/-! What is accepted as a proof is one -/
end Go.Proofs.Ytjehpgflhgpalaa
namespace Go.Proofs.Ytjehpgflhgpalaa
open Go Kern
theorem intOp_rem (k : IntKind) (a b : Int) (ha : 0 ≤ a) (hb : 0 < b) : intOp .rem k a (k, b) = some (.int k (a % b)) := by
  show gd (kindEq k k) (gd (bt (intEq b 0) false true) (some (Value.int k (a.tmod b)))) = _
  have hb0 : (b == 0) = false := by simp; omega
  rw [kindEq_refl, intEq_eq, hb0, bt_false, Int.tmod_eq_emod_of_nonneg ha]; rfl
def shrB (K : Int) (i : Nat) : Int := K.fdiv (2 ^ (min i IntKind.u16.bits))
def andB (x : Int) : Int := IntKind.u16.wrap ((BitVec.ofInt IntKind.u16.bits x &&& BitVec.ofInt IntKind.u16.bits 1).toNat : Nat)
@[simp] theorem intOp_and1 (x : Int) : intOp .and .u16 x (.u16, 1) = some (.int .u16 (andB x)) := by
  show gd (kindEq .u16 .u16) _ = _
  rw [kindEq_refl]; rfl
@[simp] theorem intOp_shrN (K : Int) (m : Nat) : intOp .shr .u16 K (.i64, (m : Int)) = some (.int .u16 (shrB K m)) := rfl
@[simp] theorem conv_5_3 {self : Self} {f : Fr} {s : St} {x : Operand} : actO TT self (.convert 5 3 x) f s = pureR (vConv .i64 x f.eval s.heap) s := o_convert_3 (by rw [und_5]; rfl)
/-- One bit, as the program asks for it. -/
def bitB (K : Int) (i : Nat) : Bool := decide (andB (shrB K i) = 1)
@[simp] theorem bitB_eq (K : Int) (i : Nat) : decide (andB (shrB K i) = 1) = bitB K i := rfl
abbrev BytesAt (s : St) (v : Value) (xs : List Int) : Prop := SlAt 1 s v (xs.map fun x => [.int .u8 x])
theorem BytesAt.at {s : St} {a : Option Addr} {m c : Nat} {xs : List Int} (h : BytesAt s (.slice a m c) xs) {k : Nat} {x : Int} (hk : xs[k]? = some x) :
    ∃ b off o cs g, a = some ⟨b, off, none⟩ ∧ b < s.next ∧ s.heap.get b = some o ∧ cellsOf o = some (cs, g) ∧ cs[off + k]? = some (.int .u8 x) := by
  obtain ⟨b, off, o, cs, g, h1, h2, h3, h4, h5⟩ := SlAt.at h (k := k) (e := [.int .u8 x]) (by rw [List.getElem?_map, hk]; rfl)
  refine ⟨b, off, o, cs, g, h1, h2, h3, h4, ?_⟩
  have := takeL_one h5
  rw [List.getElem?_drop, Nat.mul_one] at this
  exact this
abbrev EndsAt (s : St) (v : Value) (es : List (Int × Int)) : Prop := SlAt 2 s v (es.map fun e => [.int .u8 e.1, .int .u8 e.2])
theorem EndsAt.at {s : St} {a : Option Addr} {m c : Nat} {es : List (Int × Int)} (h : EndsAt s (.slice a m c) es) {k : Nat} {e : Int × Int} (hk : es[k]? = some e) :
    ∃ b off o cs g, a = some ⟨b, off, none⟩ ∧ b < s.next ∧ s.heap.get b = some o ∧ cellsOf o = some (cs, g) ∧ cs[off + k * 2]? = some (.int .u8 e.1) ∧ cs[off + k * 2 + 1]? = some (.int .u8 e.2) := by
  obtain ⟨b, off, o, cs, g, h1, h2, h3, h4, h5⟩ := SlAt.at h (k := k) (e := [.int .u8 e.1, .int .u8 e.2]) (by rw [List.getElem?_map, hk]; rfl)
  refine ⟨b, off, o, cs, g, h1, h2, h3, h4, ?_, ?_⟩
  · have := takeL_at h5 (i := 0) (by omega)
    rw [List.getElem?_drop] at this
    simpa using this
  · have := takeL_at h5 (i := 1) (by omega)
    rw [List.getElem?_drop] at this
    simpa using this
def millV (U : Int) (ve vm : Value) (K : Int) : Value := .agg #[.int .u8 U, ve, vm, .int .u16 K]
def mass1 (ms : List Int) (i k : Nat) : Int := if ms.length = 0 then 1 else ms.getD ((4 * i + k) % ms.length) 0
theorem mass1_le {ms : List Int} (h : ∀ x ∈ ms, 0 ≤ x ∧ x < 256) (i k : Nat) : 0 ≤ mass1 ms i k ∧ mass1 ms i k < 256 := by
  unfold mass1
  split
  · omega
  · rename_i h0
    have hlt : (4 * i + k) % ms.length < ms.length := Nat.mod_lt _ (by omega)
    rw [List.getD_eq_getElem?_getD, List.getElem?_eq_getElem hlt]
    exact h _ (List.getElem_mem hlt)
set_option maxRecDepth 100000 in
set_option maxHeartbeats 1000000 in
theorem mass_ev (U K : Int) (ve vm : Value) (ms : List Int) (i k p : Nat) (s : St) (hi : i ≤ 100) (hk : k < 4) (hp : p < s.next) (hg : s.heap.get p = some (.cells [.int .u8 U, ve, vm, .int .u16 K] none)) (hm : BytesAt s vm ms) (hb : ∀ x ∈ ms, 0 ≤ x ∧ x < 256) :
    Ev TT 58 [.int .i64 i, .int .i64 k, .pointer (some ⟨p, 0, none⟩)] s fun r s' => r = .int .i64 (mass1 ms i k) ∧ Keep s s' := by
  obtain ⟨a, c, rfl⟩ := hm.shape
  rw [List.length_map] at hm hg
  refine Ev.intro (fn := Try.f58) rfl (by kernel_rfl) rfl rfl ?_
  apply zz
  refine Cd.ra (h := ?_)
  apply Run.by_eq
  · intro self
    conv => lhs; simp -implicitDefEqProofs (maxSteps := 300000) (disch := omega) [-getElem?_pos, -getElem?_neg]
  try (with_reducible refine Run.ret ?_)
  apply zz
  by_cases h0 : ms.length = 0
  · apply zz
    refine Cd.ra (h := ?_)
    apply Run.by_eq
    · intro self
      conv => lhs; simp -implicitDefEqProofs (maxSteps := 300000) (disch := omega) [-getElem?_pos, -getElem?_neg, hg, h0]
    try (with_reducible refine Run.ret ?_)
    apply zz
    apply Cd.ite rfl
    · conv => lhs; simp -implicitDefEqProofs (maxSteps := 300000) (disch := omega) [-getElem?_pos, -getElem?_neg]
    all_goals intro c0
    all_goals try (cases c0; done)
    all_goals try simp only [Bool.not_eq_true', Bool.not_eq_false', decide_eq_true_eq, decide_eq_false_iff_not] at c0
    all_goals apply zz
    apply zz
    refine Cd.ra (h := ?_)
    apply Run.by_eq
    · intro self
      conv => lhs; simp -implicitDefEqProofs (maxSteps := 300000) (disch := omega) [-getElem?_pos, -getElem?_neg]
    try (with_reducible refine Run.ret ?_)
    apply zz
    apply Leave.mk (by first | exact .inl rfl | exact .inr rfl) (by simp only [Fr.marks_put, fr0_marks])
    · conv => lhs; simp -implicitDefEqProofs (disch := omega) [Try.results58]
    exact ⟨by unfold mass1; rw [if_pos h0]; rfl, Keep.refl _⟩
  · have h0' : ¬ ms = [] := fun e => h0 (by rw [e]; rfl)
    have hlt : (4 * i + k) % ms.length < ms.length := Nat.mod_lt _ (by omega)
    obtain ⟨x, hx⟩ : ∃ x, ms[(4 * i + k) % ms.length]? = some x := ⟨ms[(4 * i + k) % ms.length], by simp [hlt]⟩
    obtain ⟨b, off, o, cs, g, rfl, hb1, ho, hc, ht⟩ := BytesAt.at hm hx
    have hxb := hb x (List.mem_of_getElem? hx)
    have hrem := intOp_rem .i64 (4 * (i : Int) + k) ms.length (by omega) (by omega)
    have hmod : (4 * (i : Int) + k) % (ms.length : Int) = (((4 * i + k) % ms.length : Nat) : Int) := by push_cast; rfl
    have nm := natOf_cast .i64 ((4 * i + k) % ms.length)
    have ve5 : veq 5 (Value.slice (some ⟨b, off, none⟩) ms.length c) (Value.slice (some ⟨b, off, none⟩) ms.length c) = true := veq_slice _ _ _ _ _
    have hv : mass1 ms i k = x := by unfold mass1; rw [if_neg h0, List.getD_eq_getElem?_getD, hx]; rfl
    rw [hv]
    generalize (4 * i + k) % ms.length = q at hlt hmod nm ht
    apply zz
    refine Cd.ra (h := ?_)
    apply Run.by_eq
    · intro self
      conv => lhs; simp -implicitDefEqProofs (maxSteps := 300000) (disch := omega) [-getElem?_pos, -getElem?_neg, hg, h0']
    try (with_reducible refine Run.ret ?_)
    apply zz
    apply Cd.ite rfl
    · conv => lhs; simp -implicitDefEqProofs (maxSteps := 300000) (disch := omega) [-getElem?_pos, -getElem?_neg]
    all_goals intro c0
    all_goals try (cases c0; done)
    all_goals try simp only [Bool.not_eq_true', Bool.not_eq_false', decide_eq_true_eq, decide_eq_false_iff_not] at c0
    all_goals apply zz
    apply zz
    refine Cd.drawnH (pl := [(0, 0, false, false), (1, 1, false, false), (2, 0, false, false), (3, 4, false, false), (4, 0, false, false), (5, 28, false, false), (6, 0, false, false), (7, 64, false, false), (8, 192, false, false), (9, 508, false, false), (10, 1023, false, false), (11, 2047, false, false), (12, 4095, false, false), (13, 8191, false, false)]) [false, false, false, false, false, false, false, false, false, false, false, false, false, false] (by kernel_rfl) (by decide) (by decide) (by conv => lhs; simp only [List.map_cons, List.map_nil]) (by conv => lhs; simp [strip, orderedG, flagH]) ?_
    apply Run.by_eq
    · intro self
      conv => lhs; simp -implicitDefEqProofs (maxSteps := 300000) (disch := omega) [-getElem?_pos, -getElem?_neg, hg, hrem, hmod, nm, hlt, ho, hc, ht, ve5]
    try (with_reducible refine Run.ret ?_)
    apply zz
    apply Leave.mk (by first | exact .inl rfl | exact .inr rfl) (by simp only [Fr.marks_put, fr0_marks])
    · conv => lhs; simp -implicitDefEqProofs (disch := omega) [Try.results58]
    exact ⟨rfl, Keep.refl _⟩
end Go.Proofs.Ytjehpgflhgpalaa
namespace Go.Proofs.Ytjehpgflhgpalaa
open Go Kern
/-! What a mill by numbers is -/
def eAt (es : List (Int × Int)) (i : Nat) : Int × Int := match es[i]? with
  | some e => e
  | none => (0, 0)
theorem eAt_of {es : List (Int × Int)} {i : Nat} {e : Int × Int} (h : es[i]? = some e) : eAt es i = e := by unfold eAt; rw [h]
def endI (n : Nat) (a : Int) : Int := a % ((n : Int) + 1) - 1
def millTo (n : Nat) (e : Int × Int) : Int := if endI n e.1 = endI n e.2 then (endI n e.1 + 2) % ((n : Int) + 1) - 1 else endI n e.2
def massM (ms : List Int) (i : Nat) : Mass := ⟨mass1 ms i 0, mass1 ms i 1, mass1 ms i 2, mass1 ms i 3⟩
def millFlow (n : Nat) (K : Int) (ms : List Int) (i : Nat) (e : Int × Int) : FlowD := ⟨endI n e.1, millTo n e, bitB K i, if bitB K i = true then massM ms i else Mass.zero⟩
/-- The first k kinds of a flow's masses, added and taken away. -/
def restK (fr to : Int) (ms : List Int) (i k : Nat) (R : Nat → Int) (p : Nat) : Int :=
  R p + (if ((p / 4 : Nat) : Int) = to ∧ p % 4 < k then mass1 ms i (p % 4) else 0) - (if ((p / 4 : Nat) : Int) = fr ∧ p % 4 < k then mass1 ms i (p % 4) else 0)
def restR (n : Nat) (ms : List Int) (es : List (Int × Int)) : Nat → Nat → Int
  | 0 => fun _ => 0
  | i + 1 => restK (endI n (eAt es i).1) (millTo n (eAt es i)) ms i 4 (restR n ms es i)
theorem endI_range {n : Nat} {a : Int} : -1 ≤ endI n a ∧ endI n a < n := by
  unfold endI
  have h1 := Int.emod_nonneg a (show (n : Int) + 1 ≠ 0 by omega)
  have h2 := Int.emod_lt_of_pos a (show 0 < (n : Int) + 1 by omega)
  omega
theorem millTo_range {n : Nat} {e : Int × Int} : -1 ≤ millTo n e ∧ millTo n e < n := by
  unfold millTo
  split
  · have h1 := Int.emod_nonneg (endI n e.1 + 2) (show (n : Int) + 1 ≠ 0 by omega)
    have h2 := Int.emod_lt_of_pos (endI n e.1 + 2) (show 0 < (n : Int) + 1 by omega)
    omega
  · exact endI_range
theorem millTo_ne {n : Nat} {e : Int × Int} (hn : 1 ≤ n) : endI n e.1 ≠ millTo n e := by
  unfold millTo
  split
  · intro h
    have h0 := @endI_range n e.1
    by_cases hc : endI n e.1 + 2 < (n : Int) + 1
    · rw [Int.emod_eq_of_lt (by omega) hc] at h; omega
    · have hs : (endI n e.1 + 2) % ((n : Int) + 1) = endI n e.1 + 2 - ((n : Int) + 1) := by
        rw [← Int.sub_emod_right, Int.emod_eq_of_lt (by omega) (by omega)]
      rw [hs] at h; omega
  · assumption
theorem restK_le {fr to : Int} {ms : List Int} {i k : Nat} {R : Nat → Int} {B : Int} (hb : ∀ x ∈ ms, 0 ≤ x ∧ x < 256) (h : ∀ p, -B ≤ R p ∧ R p ≤ B) (p : Nat) : -(B + 256) ≤ restK fr to ms i k R p ∧ restK fr to ms i k R p ≤ B + 256 := by
  unfold restK
  have h1 := h p
  have h2 := mass1_le hb i (p % 4)
  split <;> split <;> omega
theorem restR_le {n : Nat} {ms : List Int} {es : List (Int × Int)} (hb : ∀ x ∈ ms, 0 ≤ x ∧ x < 256) : ∀ (i p : Nat), -(256 * (i : Int)) ≤ restR n ms es i p ∧ restR n ms es i p ≤ 256 * (i : Int)
  | 0, p => by unfold restR; omega
  | i + 1, p => by
    have := restK_le (fr := endI n (eAt es i).1) (to := millTo n (eAt es i)) (i := i) (k := 4) hb (restR_le (n := n) (es := es) hb i) p
    unfold restR
    push_cast
    omega
theorem restK_zero {fr to : Int} {ms : List Int} {i : Nat} {R : Nat → Int} : restK fr to ms i 0 R = R := by
  funext p
  unfold restK
  rw [if_neg (by omega), if_neg (by omega)]; omega
def restL (R : Nat → Int) : List Value := (List.range 16).map fun p => Value.int .i64 (R p)
theorem restL_get (R : Nat → Int) {p : Nat} (h : p < 16) : (restL R)[p]? = some (.int .i64 (R p)) := by unfold restL; rw [List.getElem?_map, List.getElem?_range h]; rfl
theorem restL_put (R : Nat → Int) {p : Nat} (h : p < 16) (w : Int) : putL p [.int .i64 w] (restL R) = some (restL fun q => if q = p then w else R q) := by
  rw [putL_set _ _ _ (by simp [restL]; omega)]
  unfold restL
  rw [range_setV (h := fun q => Value.int .i64 (if q = p then w else R q)) h (fun x _ hx => by rw [if_neg hx]) (by rw [if_pos rfl])]
def massL (ms : List Int) (i k : Nat) : List Value := (List.range 4).map fun q => Value.int .i64 (if q < k then mass1 ms i q else 0)
theorem massL_put (ms : List Int) (i : Nat) {k : Nat} (h : k < 4) : putL k [.int .i64 (mass1 ms i k)] (massL ms i k) = some (massL ms i (k + 1)) := by
  rw [putL_set _ _ _ (by simp [massL]; omega)]
  unfold massL
  rw [range_setV (h := fun q => Value.int .i64 (if q < k + 1 then mass1 ms i q else 0)) h (fun x _ hx => by
    by_cases e : x < k
    · rw [if_pos e, if_pos (by omega)]
    · rw [if_neg e, if_neg (by omega)]) (by rw [if_pos (by omega)])]
theorem massL_get (ms : List Int) (i : Nat) {k : Nat} (h : k < 4) : (massL ms i (k + 1))[k]? = some (.int .i64 (mass1 ms i k)) := by
  unfold massL; rw [List.getElem?_map, List.getElem?_range h]; simp
/-- What the sums become with one kind more. -/
theorem restK_to {fr to : Int} {ms : List Int} {i k : Nat} {R : Nat → Int} (hk : k < 4) (hto : 0 ≤ to) (hne : fr ≠ to) :
    (fun q => if q = to.toNat * 4 + k then restK fr to ms i k R (to.toNat * 4 + k) + mass1 ms i k else restK fr to ms i k R q) = fun q => restK fr to ms i k R q + (if ((q / 4 : Nat) : Int) = to ∧ q % 4 = k then mass1 ms i (q % 4) else 0) := by
  funext q
  by_cases e : q = to.toNat * 4 + k
  · subst e
    have h1 : (to.toNat * 4 + k) / 4 = to.toNat := by omega
    have h2 : (to.toNat * 4 + k) % 4 = k := by omega
    rw [if_pos rfl, h1, h2, if_pos ⟨by omega, rfl⟩]
  · rw [if_neg e, if_neg (by omega)]; omega
theorem restK_next {fr to : Int} {ms : List Int} {i k : Nat} {R : Nat → Int} (q : Nat) : restK fr to ms i (k + 1) R q = restK fr to ms i k R q + (if ((q / 4 : Nat) : Int) = to ∧ q % 4 = k then mass1 ms i (q % 4) else 0) - (if ((q / 4 : Nat) : Int) = fr ∧ q % 4 = k then mass1 ms i (q % 4) else 0) := by
  unfold restK
  have h1 : ∀ x : Int, (if ((q / 4 : Nat) : Int) = x ∧ q % 4 < k + 1 then mass1 ms i (q % 4) else 0) = (if ((q / 4 : Nat) : Int) = x ∧ q % 4 < k then mass1 ms i (q % 4) else 0) + (if ((q / 4 : Nat) : Int) = x ∧ q % 4 = k then mass1 ms i (q % 4) else 0) := fun x => by
    by_cases a : ((q / 4 : Nat) : Int) = x
    · by_cases b : q % 4 < k
      · rw [if_pos ⟨a, by omega⟩, if_pos ⟨a, b⟩, if_neg (by omega)]; omega
      · by_cases c : q % 4 = k
        · rw [if_pos ⟨a, by omega⟩, if_neg (fun h => b h.2), if_pos ⟨a, c⟩]; omega
        · rw [if_neg (fun h => by omega), if_neg (fun h => b h.2), if_neg (fun h => c h.2)]; rfl
    · rw [if_neg (fun h => a h.1), if_neg (fun h => a h.1), if_neg (fun h => a h.1)]; rfl
  rw [h1, h1]; omega
def rowM (R : Nat → Int) (u : Nat) : Mass := ⟨R (u * 4), R (u * 4 + 1), R (u * 4 + 2), R (u * 4 + 3)⟩
def restOk (R : Nat → Int) (u : Nat) (k : Nat) : Bool := (List.range k).all fun q => decide (0 ≤ R (u * 4 + q))
def millLast (K : Int) (R : Nat → Int) (u : Nat) : FlowD := ⟨u, -1, bitB K (6 + u) && restOk R u 4, if (bitB K (6 + u) && restOk R u 4) = true then rowM R u else Mass.zero⟩
def millN (es : List (Int × Int)) : Nat := min es.length 6
def millFs (n : Nat) (K : Int) (ms : List Int) (es : List (Int × Int)) : List FlowD :=
  ((List.range (millN es)).map fun i => millFlow n K ms i (eAt es i)) ++ (List.range n).map fun u => millLast K (restR n ms es (millN es)) u
def millReal (n : Nat) (ms : List Int) (es : List (Int × Int)) : List Mass := ((List.range (millN es)).map fun i => massM ms i) ++ (List.range n).map fun u => rowM (restR n ms es (millN es)) u
theorem OwnG.snoc {n N b k : Nat} {s' : St} {l : List (List Value)} {x : List Value} (hl : l.length = k) (hN : N ≤ b) (h3 : b < s'.next) (h : s'.heap.get b = some (.cells (l.flatten ++ x) (some n))) :
    OwnG n N s' (.slice (some ⟨b, 0, none⟩) (k + 1) (k + 1)) (l ++ [x]) := by
  refine .inr ⟨b, by simp [hl], by simp, hN, h3, ?_⟩
  rw [h]; simp
theorem OwnG.keep {n N : Nat} {s s' : St} {w : Value} {l : List (List Value)} (h : OwnG n N s w l) (h1 : s.next ≤ s'.next) (h2 : ∀ i, N ≤ i → i < s.next → s'.heap.get i = s.heap.get i) : OwnG n N s' w l := by
  rcases h with ⟨h, h'⟩ | ⟨b, h, h', hb1, hb2, hb3⟩
  · exact .inl ⟨h, h'⟩
  · exact .inr ⟨b, h, h', hb1, by omega, by rw [h2 b hb1 hb2]; exact hb3⟩
theorem newObj_alloc {T : Tab} {f : Fr} (t : TypeId) {z : Value} (h : T.zero t = some z) : Kern.newObj T (.alloc t) f = some (.cells z.cells.toList none) := by
  have hc : compOp T (.alloc t) = some (.new fun _ => some (.cells z.cells.toList none, ptrTo)) := by
    show ob (T.zero t) _ = _
    rw [h]; rfl
  unfold Kern.newObj
  rw [hc]; rfl
@[simp] theorem newObj_a82 {f : Fr} : Kern.newObj TT (.alloc 82) f = some (.cells [.int .i64 0, .int .i64 0, .bool false, .int .i64 0, .int .i64 0, .int .i64 0, .int .i64 0] none) := newObj_alloc 82 zero_82
end Go.Proofs.Ytjehpgflhgpalaa
namespace Go.Proofs.Ytjehpgflhgpalaa
open Go Kern
/-! Any balance tells what is found -/
/-- Masses that come to nothing at each unit and agree with what is measured. -/
structure BalF (fs : List FlowD) (n : Nat) (R : Nat → Mass) : Prop where
  meas : ∀ (j : Nat) (f : FlowD), fs[j]? = some f → f.me = true → R j = f.m
  nets : ∀ u : Nat, u < n → sumN (fun j => match fs[j]? with | some f => brings f u (R j) | none => Mass.zero) fs.length = Mass.zero
/-- What is measured over a set of units, and what is not. -/
theorem BalF.sum {fs : List FlowD} {n : Nat} {R : Nat → Mass} (h : BalF fs n R) (hne : ∀ f ∈ fs, f.fr ≠ f.to) {xs : List Int} (hn : xs.Nodup) (hx : ∀ x ∈ xs, 0 ≤ x ∧ x < n) :
    (excM xs fs).add (sumN (fun j => match fs[j]? with | some f => (if f.me = true then Mass.zero else bringsL f xs (R j)) | none => Mass.zero) fs.length) = Mass.zero := by
  have h1 : sumL (fun v => sumN (fun j => match fs[j]? with | some f => brings f v (R j) | none => Mass.zero) fs.length) xs = Mass.zero := sumL_zero fun x hm => by
    obtain ⟨a, b⟩ := hx x hm
    obtain ⟨y, rfl⟩ : ∃ y : Nat, x = y := ⟨x.toNat, by omega⟩
    exact h.nets y (by omega)
  rw [sumL_sumN] at h1
  refine Eq.trans ?_ h1
  rw [excM_sum, ← sumN_add]
  refine sumN_congr fun j hj => ?_
  have hg : fs[j]? = some fs[j] := List.getElem?_eq_getElem hj
  rw [hg]
  simp only []
  rw [sumL_brings (hne _ (List.getElem_mem hj)) _ hn]
  by_cases hm : fs[j].me = true
  · rw [if_pos hm, if_pos hm, Mass.add_zero, h.meas j _ hg hm]
  · rw [if_neg hm, if_neg hm, Mass.zero_add]
theorem BalF.closed {fs : List FlowD} {n : Nat} {R : Nat → Mass} (h : BalF fs n R) (hne : ∀ f ∈ fs, f.fr ≠ f.to) {xs : List Int} (hn : xs.Nodup) (hx : ∀ x ∈ xs, 0 ≤ x ∧ x < n)
    (hin : ∀ (j : Nat) (g : FlowD), fs[j]? = some g → g.me = false → (g.fr ∈ xs ↔ g.to ∈ xs)) : excM xs fs = Mass.zero := by
  have h1 := h.sum hne hn hx
  rw [sumN_congr (h := fun _ => Mass.zero) fun j hj => ?_, sumN_zero, Mass.add_zero] at h1
  · exact h1
  · have hg : fs[j]? = some fs[j] := List.getElem?_eq_getElem hj
    rw [hg]
    simp only []
    by_cases hm : fs[j].me = true
    · rw [if_pos hm]
    · rw [if_neg hm]
      exact bringsL_in (hin j _ hg (by simpa using hm)) _
theorem BalF.cut {fs : List FlowD} {n : Nat} {R : Nat → Mass} (h : BalF fs n R) (hne : ∀ f ∈ fs, f.fr ≠ f.to) {xs : List Int} (hn : xs.Nodup) (hx : ∀ x ∈ xs, 0 ≤ x ∧ x < n)
    {i : Nat} {f : FlowD} (hf : fs[i]? = some f) (hm : f.me = false) (hin : ∀ (j : Nat) (g : FlowD), fs[j]? = some g → g.me = false → j ≠ i → (g.fr ∈ xs ↔ g.to ∈ xs)) : (excM xs fs).add (bringsL f xs (R i)) = Mass.zero := by
  have h1 := h.sum hne hn hx
  rw [sumN_one (i := i) (List.getElem?_eq_some_iff.1 hf).1 fun j hj hji => ?_] at h1
  · rw [hf] at h1
    simp only [hm] at h1
    exact h1
  · have hg : fs[j]? = some fs[j] := List.getElem?_eq_getElem hj
    rw [hg]
    simp only []
    by_cases hm : fs[j].me = true
    · rw [if_pos hm]
    · rw [if_neg hm]
      exact bringsL_in (hin j _ hg (by simpa using hm) hji) _
theorem bal_value {fs : List FlowD} {n i : Nat} {B : Nat → Mass} {f : FlowD} (hends : ∀ f ∈ fs, (-1 ≤ f.fr ∧ f.fr < n) ∧ (-1 ≤ f.to ∧ f.to < n)) (hne : ∀ f ∈ fs, f.fr ≠ f.to) (hbal : BalF fs n B)
    (hf : fs[i]? = some f) (hm : f.me = false) (hd : rtF i fs 0 id f.fr ≠ rtF i fs 0 id f.to) : closeAt fs n i f = ⟨2, B i⟩ := by
  have hfm := List.mem_of_getElem? hf
  obtain ⟨hV1, hV2⟩ := hends f hfm
  have hs := Same.flows (lo := (i : Int)) (i := 0) (Same.init n) hends
  have hne2 : labE fs i f.fr ≠ labE fs i f.to := fun e => hd ((lab_rt hends hV1 hV2).1 e)
  have hin : ∀ (h : Int) (j : Nat) (g : FlowD), fs[j]? = some g → g.me = false → j ≠ i → (g.fr ∈ sideL (labF i fs 0 (fun x => (x : Int))) n h ↔ g.to ∈ sideL (labF i fs 0 (fun x => (x : Int))) n h) := fun h j g hg hmg hji => by
    obtain ⟨a, b⟩ := hends g (List.mem_of_getElem? hg)
    rw [mem_sideL a.1 a.2, mem_sideL b.1 b.2]
    have he := rtF_ends i fs 0 id j g hg hmg (by omega)
    have := (lab_rt (i := i) hends a b).2 he
    unfold labE at this
    rw [this]
  have hnd : ∀ h, (sideL (labF i fs 0 (fun x => (x : Int))) n h).Nodup := fun h => (sideL_sorted _ _ _).imp fun h => by omega
  unfold closeAt
  rw [if_neg (by rw [hm]; decide), if_neg hne2]
  by_cases ha : labE fs i f.fr = 0
  · rw [if_neg (by simp [ha])]
    congr 1
    have hb : labE fs i f.to ≠ 0 := fun q => hne2 (ha.trans q.symm)
    have hcv := hbal.cut hne (hnd (labE fs i f.to)) (fun x hx => sideL_range (by rw [hs.out]; exact fun q => hb q.symm) hx) hf hm (hin _)
    have h1 : f.to ∈ sideL (labF i fs 0 (fun x => (x : Int))) n (labE fs i f.to) := (mem_sideL hV2.1 hV2.2).2 rfl
    have h2 : ¬ f.fr ∈ sideL (labF i fs 0 (fun x => (x : Int))) n (labE fs i f.to) := fun q => hne2 ((mem_sideL hV1.1 hV1.2).1 q)
    unfold bringsL at hcv
    rw [if_pos h1, if_neg h2] at hcv
    generalize excM (sideL (labF i fs 0 (fun x => (x : Int))) n (labE fs i f.to)) fs = x at hcv ⊢
    generalize B i = y at hcv ⊢
    obtain ⟨a1, a2, a3, a4⟩ := x
    obtain ⟨b1, b2, b3, b4⟩ := y
    simp [Mass.add, Mass.zero, Mass.sub] at hcv ⊢
    omega
  · rw [if_pos ha]
    congr 1
    have hcv := hbal.cut hne (hnd (labE fs i f.fr)) (fun x hx => sideL_range (by rw [hs.out]; exact fun q => ha q.symm) hx) hf hm (hin _)
    have h1 : f.fr ∈ sideL (labF i fs 0 (fun x => (x : Int))) n (labE fs i f.fr) := (mem_sideL hV1.1 hV1.2).2 rfl
    have h2 : ¬ f.to ∈ sideL (labF i fs 0 (fun x => (x : Int))) n (labE fs i f.fr) := fun q => hne2 ((mem_sideL hV2.1 hV2.2).1 q).symm
    unfold bringsL at hcv
    rw [if_neg h2, if_pos h1] at hcv
    generalize excM (sideL (labF i fs 0 (fun x => (x : Int))) n (labE fs i f.fr)) fs = x at hcv ⊢
    generalize B i = y at hcv ⊢
    obtain ⟨a1, a2, a3, a4⟩ := x
    obtain ⟨b1, b2, b3, b4⟩ := y
    simp [Mass.add, Mass.zero, Mass.sub] at hcv ⊢
    omega
theorem bal_close {fs : List FlowD} {n : Nat} {R : Nat → Mass} (hck : checkErr n fs = 0) (hb : BalF fs n R) : closeErr n fs = 0 := by
  have hends := ends_in hck
  unfold closeErr
  rw [if_neg (by simp [hck])]
  simp only [Int.toNat_natCast]
  cases hp : provF (rtF (-1) fs 0 id) fs n n 0 with
  | none => rfl
  | some p =>
    exfalso
    obtain ⟨k, _, hat⟩ := provF_some hp
    unfold provAt at hat
    split at hat
    · rename_i hL
      have ho := lead_out hL
      rw [hb.closed (checkErr_ne hck) (clsN_nodup _ _ _) (fun x hx => clsN_range hx) fun j g hg hm => ?_] at hat
      · cases hat
      · obtain ⟨⟨a, b⟩, c, d⟩ := hends g (List.mem_of_getElem? hg)
        rw [mem_cls' ho a b, mem_cls' ho c d, rtF_ends (-1) fs 0 id j g hg hm (by omega)]
    · cases hat
def knB (fs : List FlowD) (R : Nat → Mass) (j : Nat) : KnownD := match fs[j]? with
  | some f => if f.me = true then ⟨1, f.m⟩ else if rtF j fs 0 id f.fr = rtF j fs 0 id f.to then ⟨3, Mass.zero⟩ else ⟨2, R j⟩
  | none => ⟨0, Mass.zero⟩
theorem closeF_bal {fs : List FlowD} {n : Nat} {R : Nat → Mass} (hck : checkErr n fs = 0) (hb : BalF fs n R) (j : Nat) : closeF fs n j = knB fs R j := by
  unfold closeF knB
  cases hj : fs[j]? with
  | none => rfl
  | some f =>
    simp only []
    by_cases hm : f.me = true
    · unfold closeAt; rw [if_pos hm, if_pos hm]
    · rw [if_neg hm]
      have hm' : f.me = false := by simpa using hm
      obtain ⟨hV1, hV2⟩ := ends_in hck f (List.mem_of_getElem? hj)
      by_cases hd : rtF j fs 0 id f.fr = rtF j fs 0 id f.to
      · rw [if_pos hd]
        unfold closeAt
        rw [if_neg hm, if_pos ((lab_rt (ends_in hck) hV1 hV2).2 hd)]
      · rw [if_neg hd, bal_value (ends_in hck) (checkErr_ne hck) hb hj hm' hd]
theorem closeKs_bal {fs : List FlowD} {n : Nat} {R : Nat → Mass} (hck : checkErr n fs = 0) (hb : BalF fs n R) : closeKs n fs = (List.range fs.length).map (knB fs R) := by
  unfold closeKs
  rw [if_pos (bal_close hck hb)]
  exact List.map_congr_left fun j _ => closeF_bal hck hb j
end Go.Proofs.Ytjehpgflhgpalaa
namespace Go.Proofs.Ytjehpgflhgpalaa
open Go Kern
/-! The masses of a mill are a balance -/
theorem sumN_split (g : Nat → Mass) (a : Nat) : ∀ b, sumN g (a + b) = (sumN g a).add (sumN (fun j => g (a + j)) b)
  | 0 => (Mass.add_zero _).symm
  | b + 1 => by
    show (sumN g (a + b)).add (g (a + b)) = (sumN g a).add ((sumN (fun j => g (a + j)) b).add (g (a + b)))
    rw [sumN_split g a b, Mass.add_assoc]
theorem rowM_step {fr to : Int} {ms : List Int} {i u : Nat} {R : Nat → Int} {me : Bool} {m : Mass} (hne : fr ≠ to) : rowM (restK fr to ms i 4 R) u = (rowM R u).add (brings ⟨fr, to, me, m⟩ u (massM ms i)) := by
  have h0 : ∀ q, q < 4 → (u * 4 + q) / 4 = u ∧ (u * 4 + q) % 4 = q := fun q hq => by omega
  have h1 : ∀ q, q < 4 → restK fr to ms i 4 R (u * 4 + q) = R (u * 4 + q) + (if (u : Int) = to then mass1 ms i q else 0) - (if (u : Int) = fr then mass1 ms i q else 0) := fun q hq => by
    unfold restK
    rw [(h0 q hq).1, (h0 q hq).2]
    simp [hq]
  have h2 := h1 0 (by omega)
  have h3 := h1 1 (by omega)
  have h4 := h1 2 (by omega)
  have h5 := h1 3 (by omega)
  rw [Nat.add_zero] at h2
  unfold rowM brings massM
  rw [h2, h3, h4, h5]
  by_cases e1 : to = u
  · have hq : ¬ (u : Int) = fr := fun q => hne (q.symm.trans e1.symm)
    have hp : (u : Int) = to := e1.symm
    rw [if_pos e1, if_pos hp, if_pos hp, if_pos hp, if_pos hp, if_neg hq, if_neg hq, if_neg hq, if_neg hq]
    apply Mass.ext' <;> simp [Mass.add]
  · have hp : ¬ (u : Int) = to := fun q => e1 q.symm
    rw [if_neg e1, if_neg hp, if_neg hp, if_neg hp, if_neg hp]
    by_cases e2 : fr = u
    · have hq : (u : Int) = fr := e2.symm
      rw [if_pos e2, if_pos hq, if_pos hq, if_pos hq, if_pos hq]
      apply Mass.ext' <;> simp [Mass.add, Mass.sub, Mass.zero] <;> omega
    · have hq : ¬ (u : Int) = fr := fun q => e2 q.symm
      rw [if_neg e2, if_neg hq, if_neg hq, if_neg hq, if_neg hq]
      apply Mass.ext' <;> simp [Mass.add, Mass.zero]
theorem rowM_sum {n : Nat} {K : Int} {ms : List Int} {es : List (Int × Int)} (hn : 1 ≤ n) (u : Nat) : ∀ i, rowM (restR n ms es i) u = sumN (fun j => brings (millFlow n K ms j (eAt es j)) u (massM ms j)) i
  | 0 => rfl
  | i + 1 => by
    show rowM (restK (endI n (eAt es i).1) (millTo n (eAt es i)) ms i 4 (restR n ms es i)) u = _
    unfold sumN
    rw [← rowM_sum hn u i]
    exact rowM_step (millTo_ne hn)
def realF (n : Nat) (ms : List Int) (es : List (Int × Int)) (j : Nat) : Mass := if j < millN es then massM ms j else rowM (restR n ms es (millN es)) (j - millN es)
theorem millFs_length (n : Nat) (K : Int) (ms : List Int) (es : List (Int × Int)) : (millFs n K ms es).length = millN es + n := by unfold millFs; simp
theorem millFs_fst {n : Nat} {K : Int} {ms : List Int} {es : List (Int × Int)} {j : Nat} (h : j < millN es) : (millFs n K ms es)[j]? = some (millFlow n K ms j (eAt es j)) := by
  unfold millFs
  rw [List.getElem?_append_left (by simp [h]), List.getElem?_map, List.getElem?_range h]; rfl
theorem millFs_snd {n : Nat} {K : Int} {ms : List Int} {es : List (Int × Int)} {u : Nat} (h : u < n) : (millFs n K ms es)[millN es + u]? = some (millLast K (restR n ms es (millN es)) u) := by
  unfold millFs
  rw [List.getElem?_append_right (by simp), List.length_map, List.length_range, Nat.add_sub_cancel_left, List.getElem?_map, List.getElem?_range h]; rfl
theorem mill_bal {n : Nat} {K : Int} {ms : List Int} {es : List (Int × Int)} (hn : 1 ≤ n) : BalF (millFs n K ms es) n (realF n ms es) := by
  constructor
  · intro j f hf hm
    have hlt := (List.getElem?_eq_some_iff.1 hf).1
    rw [millFs_length] at hlt
    by_cases h : j < millN es
    · rw [millFs_fst h] at hf
      cases hf
      unfold realF
      rw [if_pos h]
      unfold millFlow at hm ⊢
      simp only [] at hm ⊢
      rw [if_pos hm]
    · obtain ⟨u, rfl⟩ : ∃ u, j = millN es + u := ⟨j - millN es, by omega⟩
      rw [millFs_snd (by omega)] at hf
      cases hf
      unfold realF
      rw [if_neg h, Nat.add_sub_cancel_left]
      unfold millLast at hm ⊢
      simp only [] at hm ⊢
      rw [if_pos hm]
  · intro u hu
    rw [millFs_length, sumN_split]
    have h1 : sumN (fun j => match (millFs n K ms es)[j]? with | some f => brings f u (realF n ms es j) | none => Mass.zero) (millN es) = rowM (restR n ms es (millN es)) u := by
      rw [rowM_sum (K := K) hn u]
      refine sumN_congr fun j hj => ?_
      rw [millFs_fst hj]
      simp only [realF, if_pos hj]
    have h2 : sumN (fun j => match (millFs n K ms es)[millN es + j]? with | some f => brings f u (realF n ms es (millN es + j)) | none => Mass.zero) n = Mass.zero.sub (rowM (restR n ms es (millN es)) u) := by
      have hb : ∀ v, v < n → (match (millFs n K ms es)[millN es + v]? with | some f => brings f u (realF n ms es (millN es + v)) | none => Mass.zero) = if v = u then Mass.zero.sub (rowM (restR n ms es (millN es)) v) else Mass.zero := fun v hv => by
        rw [millFs_snd hv]
        simp only [realF]
        rw [if_neg (by omega), Nat.add_sub_cancel_left]
        unfold brings millLast
        simp only []
        rw [if_neg (by omega)]
        by_cases e : v = u
        · subst e; rw [if_pos rfl, if_pos rfl]
        · rw [if_neg (by omega), if_neg e]
      rw [sumN_one (i := u) hu fun v hv hvu => (hb v hv).trans (if_neg hvu)]
      exact (hb u hu).trans (if_pos rfl)
    have h3 : ∀ {a b c d : Mass}, a = c → b = d → a.add b = c.add d := fun e1 e2 => by rw [e1, e2]
    exact (h3 h1 h2).trans (Mass.add_neg _)
/-! A mill is a valid plant -/
theorem millN_le (es : List (Int × Int)) : millN es ≤ 6 := Nat.min_le_right _ _
theorem massM_each {ms : List Int} (hb : ∀ x ∈ ms, 0 ≤ x ∧ x < 256) (i : Nat) : eachB (massM ms i) 0 1000000000 = true := by
  have h0 := mass1_le hb i 0
  have h1 := mass1_le hb i 1
  have h2 := mass1_le hb i 2
  have h3 := mass1_le hb i 3
  unfold eachB isB massM
  simp only [Bool.and_eq_true, decide_eq_true_eq]
  omega
theorem checkErr_mk {u : Int} {fs : List FlowD} (h1 : 1 ≤ u) (h2 : u ≤ 8) (h3 : fs.length ≤ 20) (h : ∀ f ∈ fs, flowErr u f = 0) : checkErr u fs = 0 := by
  unfold checkErr
  rw [if_neg (by omega), if_neg (by omega)]
  exact firstErr_zero fun j f hf => h f (List.mem_of_getElem? hf)
theorem flowErr_mk {n : Nat} {f : FlowD} (h1 : -1 ≤ f.fr ∧ f.fr < n) (h2 : -1 ≤ f.to ∧ f.to < n) (h3 : f.fr ≠ f.to) (h4 : f.me = true → eachB f.m 0 1000000000 = true) : flowErr n f = 0 := by
  have e : ∀ x : Int, -1 ≤ x ∧ x < n → endB n x = true := fun x hx => by
    unfold endB unitB
    simp only [Bool.or_eq_true, Bool.and_eq_true, decide_eq_true_eq]
    omega
  unfold flowErr
  rw [e _ h1, e _ h2]
  by_cases hm : f.me = true
  · simp [h3, h4 hm]
  · have hm : f.me = false := by simpa using hm
    simp [h3, hm]
theorem mill_mem {n : Nat} {K : Int} {ms : List Int} {es : List (Int × Int)} {f : FlowD} (h : f ∈ millFs n K ms es) : (∃ i, i < millN es ∧ f = millFlow n K ms i (eAt es i)) ∨ ∃ u, u < n ∧ f = millLast K (restR n ms es (millN es)) u := by
  unfold millFs at h
  rcases List.mem_append.1 h with h | h
  · obtain ⟨i, hi, rfl⟩ := List.mem_map.1 h
    exact .inl ⟨i, List.mem_range.1 hi, rfl⟩
  · obtain ⟨i, hi, rfl⟩ := List.mem_map.1 h
    exact .inr ⟨i, List.mem_range.1 hi, rfl⟩
theorem mill_check {n : Nat} {K : Int} {ms : List Int} {es : List (Int × Int)} (hn : 1 ≤ n) (hn4 : n ≤ 4) (hb : ∀ x ∈ ms, 0 ≤ x ∧ x < 256) : checkErr n (millFs n K ms es) = 0 := by
  have h6 := millN_le es
  refine checkErr_mk (by omega) (by omega) (by rw [millFs_length]; omega) fun f hf => ?_
  rcases mill_mem hf with ⟨i, _, rfl⟩ | ⟨u, hu, rfl⟩
  · refine flowErr_mk endI_range millTo_range (millTo_ne hn) fun hm => ?_
    unfold millFlow at hm ⊢
    simp only [] at hm ⊢
    rw [if_pos hm]
    exact massM_each hb i
  · refine flowErr_mk (f := millLast K (restR n ms es (millN es)) u) (by unfold millLast; simp only []; omega) (by unfold millLast; simp only []; omega) (by unfold millLast; simp only []; omega) fun hm => ?_
    unfold millLast at hm ⊢
    simp only [] at hm ⊢
    rw [if_pos hm]
    simp only [Bool.and_eq_true, restOk, List.all_eq_true, List.mem_range, decide_eq_true_eq] at hm
    have hr : ∀ p, restR n ms es (millN es) p ≤ 1536 := fun p => by
      have := (restR_le (n := n) (es := es) hb (millN es) p).2
      omega
    have a0 := hm.2 0 (by omega)
    have a1 := hm.2 1 (by omega)
    have a2 := hm.2 2 (by omega)
    have a3 := hm.2 3 (by omega)
    have b0 := hr (u * 4)
    have b1 := hr (u * 4 + 1)
    have b2 := hr (u * 4 + 2)
    have b3 := hr (u * 4 + 3)
    rw [Nat.add_zero] at a0
    unfold eachB isB rowM
    simp only [Bool.and_eq_true, decide_eq_true_eq]
    omega
end Go.Proofs.Ytjehpgflhgpalaa
namespace Go.Proofs.Ytjehpgflhgpalaa
open Go Kern
def restT (to : Int) (ms : List Int) (i k : Nat) (X : Nat → Int) (q : Nat) : Int := X q + (if ((q / 4 : Nat) : Int) = to ∧ q % 4 = k then mass1 ms i (q % 4) else 0)
theorem restT_no {to : Int} {ms : List Int} {i k : Nat} {X : Nat → Int} {q : Nat} (h : ¬ (((q / 4 : Nat) : Int) = to ∧ q % 4 = k)) : restT to ms i k X q = X q := by unfold restT; rw [if_neg h]; omega
theorem restT_next {fr to : Int} {ms : List Int} {i k : Nat} {R : Nat → Int} (q : Nat) : restK fr to ms i (k + 1) R q = restT to ms i k (restK fr to ms i k R) q - (if ((q / 4 : Nat) : Int) = fr ∧ q % 4 = k then mass1 ms i (q % 4) else 0) := restK_next q
theorem flat_len {n : Nat} : ∀ {l : List (List Value)}, (∀ x ∈ l, x.length = n) → l.flatten.length = l.length * n
  | [], _ => by simp
  | e :: r, h => by rw [List.flatten_cons, List.length_append, flat_len fun x hx => h x (.tail _ hx), h e (.head _), List.length_cons, Nat.add_mul]; omega
theorem masses_len (l : List Mass) : ∀ x ∈ l.map Mass.cs, x.length = 4 := fun x hx => by obtain ⟨m, _, rfl⟩ := List.mem_map.1 hx; rfl
@[simp] theorem newObj_22 {f : Fr} {pl0 : Array (Nat × Operand)} : Kern.newObj TT (.buildSlice 22 1 pl0) f = ob (fillL f.eval (placesA 7 pl0.toList) (repeatL [.int .i64 0, .int .i64 0, .bool false, .int .i64 0, .int .i64 0, .int .i64 0, .int .i64 0] 1)) fun c => some (.cells c none) :=
  newObj_buildSlice 22 1 pl0 und_22 size_82 zero_82 rfl
@[simp] theorem newObj_58 {f : Fr} {pl0 : Array (Nat × Operand)} : Kern.newObj TT (.buildSlice 58 1 pl0) f = ob (fillL f.eval (placesA 4 pl0.toList) (repeatL [.int .i64 0, .int .i64 0, .int .i64 0, .int .i64 0] 1)) fun c => some (.cells c none) :=
  newObj_buildSlice 58 1 pl0 und_58 size_36 zero_36 rfl
theorem Fr.get_put_lt {f : Fr} {t m d : Nat} {v : Value} (h : t < m) (hd : m ≤ d) : (f.put (some d) v).get t = f.get t := by rw [Fr.get_put', if_neg (by omega)]
set_option maxRecDepth 100000 in
set_option maxHeartbeats 4000000 in
theorem made_ev (U K : Int) (ve vm : Value) (es : List (Int × Int)) (ms : List Int) (s : St) (hU : 0 ≤ U ∧ U < 256) (hes : EndsAt s ve es) (hms : BytesAt s vm ms) (hbe : ∀ e ∈ es, (0 ≤ e.1 ∧ e.1 < 256) ∧ (0 ≤ e.2 ∧ e.2 < 256)) (hbm : ∀ x ∈ ms, 0 ≤ x ∧ x < 256) :
    Ev TT 34 [millV U ve vm K] s fun r s' => Keep s s' ∧ ∃ (n : Nat) (w wr : Value), (n : Int) = 1 + U % 4 ∧ 1 ≤ n ∧ n ≤ 4 ∧ r = .tuple #[plantV n w, wr] ∧ OwnG 7 s.next s' w ((millFs n K ms es).map FlowD.cs) ∧ OwnG 4 s.next s' wr ((millReal n ms es).map Mass.cs) := by
  obtain ⟨ae, ce, rfl⟩ := hes.shape
  obtain ⟨am, cm, rfl⟩ := hms.shape
  rw [List.length_map] at hes hms ⊢
  rw [List.length_map]
  have hrem := intOp_rem .i64 U 4 hU.1 (by omega)
  obtain ⟨n, hn⟩ : ∃ n : Nat, (n : Int) = 1 + U % 4 := ⟨(1 + U % 4).toNat, by omega⟩
  have hn1 : 1 ≤ n := by omega
  have hn4 : n ≤ 4 := by omega
  unfold millV
  refine Ev.intro (fn := Try.f34) rfl (by kernel_rfl) rfl rfl ?_
  apply zz
  refine Cd.ra (h := ?_)
  apply Run.by_eq
  · intro self
    conv => lhs; simp -implicitDefEqProofs (maxSteps := 300000) (disch := omega) [-getElem?_pos, -getElem?_neg]
  try (with_reducible refine Run.ret ?_)
  apply zz
  refine Cd.ra (h := ?_)
  apply Run.by_eq
  · intro self
    conv => lhs; simp -implicitDefEqProofs (maxSteps := 300000) (disch := omega) [-getElem?_pos, -getElem?_neg, hrem]
  try (with_reducible refine Run.ret ?_)
  apply zz
  rw [← hn]
  apply zz
  refine Cd.ra (h := ?_)
  apply Run.by_eq
  · intro self
    conv => lhs; simp -implicitDefEqProofs (maxSteps := 300000) (disch := omega) [-getElem?_pos, -getElem?_neg]
  try (with_reducible refine Run.ret ?_)
  apply zz
  refine Cd.ra (h := ?_)
  apply Run.by_eq
  · intro self
    conv => lhs; simp -implicitDefEqProofs (maxSteps := 300000) (disch := omega) [-getElem?_pos, -getElem?_neg]
  try (with_reducible refine Run.ret ?_)
  apply zz
  refine Cd.ra (h := ?_)
  apply Run.by_eq
  · intro self
    conv => lhs; simp -implicitDefEqProofs (maxSteps := 300000) (disch := omega) [-getElem?_pos, -getElem?_neg]
  try (with_reducible refine Run.ret ?_)
  apply zz
  refine Cd.ra (h := ?_)
  apply Run.by_eq
  · intro self
    conv => lhs; simp -implicitDefEqProofs (maxSteps := 300000) (disch := omega) [-getElem?_pos, -getElem?_neg]
  try (with_reducible refine Run.ret ?_)
  apply zz
  refine Cd.ra (h := ?_)
  apply Run.by_eq
  · intro self
    conv => lhs; simp -implicitDefEqProofs (maxSteps := 300000) (disch := omega) [-getElem?_pos, -getElem?_neg]
  try (with_reducible refine Run.ret ?_)
  apply zz
  have hR0 : restL (fun _ => 0) = [.int .i64 0, .int .i64 0, .int .i64 0, .int .i64 0, .int .i64 0, .int .i64 0, .int .i64 0, .int .i64 0, .int .i64 0, .int .i64 0, .int .i64 0, .int .i64 0, .int .i64 0, .int .i64 0, .int .i64 0, .int .i64 0] := rfl
  refine Cd.mono (Q := fun x f s' => x = Ex.exit 0 ∧ ∃ w : Value, f.marks = [] ∧ f.get 1 = .pointer (some ⟨s.next, 0, none⟩) ∧ f.get 2 = .pointer (some ⟨s.next + 1, 0, none⟩) ∧ f.get 4 = .int .i64 n ∧ f.get 5 = .pointer (some ⟨s.next + 1 + 1, 0, none⟩) ∧ f.get 7 = .pointer (some ⟨s.next + 1 + 1 + 1, 0, none⟩) ∧
    Keep s s' ∧ s.next + 1 + 1 + 1 < s'.next ∧ s'.heap.get s.next = some (.cells [.int .u8 U, .slice ae es.length ce, .slice am ms.length cm, .int .u16 K] none) ∧ s'.heap.get (s.next + 1) = some (.cells [.int .i64 0, .slice none 0 0] none) ∧ s'.heap.get (s.next + 1 + 1) = some (.cells [.int .i64 n, w] none) ∧ s'.heap.get (s.next + 1 + 1 + 1) = some (.cells (restL (restR n ms es (millN es))) none) ∧
    OwnG 7 (s.next + 1 + 1 + 1 + 1) s' w (((List.range (millN es)).map fun j => millFlow n K ms j (eAt es j)).map FlowD.cs) ∧ OwnG 4 (s.next + 1 + 1 + 1 + 1) s' (f.get 6) (((List.range (millN es)).map fun j => massM ms j).map Mass.cs)) (Cd.inv (fun z f s' => ∃ (i : Nat) (w : Value), i ≤ millN es ∧ z = millN es - i ∧ f.marks = [] ∧ f.get 9 = .int .i64 i ∧ f.get 1 = .pointer (some ⟨s.next, 0, none⟩) ∧ f.get 2 = .pointer (some ⟨s.next + 1, 0, none⟩) ∧ f.get 4 = .int .i64 n ∧ f.get 5 = .pointer (some ⟨s.next + 1 + 1, 0, none⟩) ∧ f.get 7 = .pointer (some ⟨s.next + 1 + 1 + 1, 0, none⟩) ∧ f.get 8 = .func (.func 58) #[] #[.pointer (some ⟨s.next, 0, none⟩)] ∧
    Keep s s' ∧ s.next + 1 + 1 + 1 < s'.next ∧ s'.heap.get s.next = some (.cells [.int .u8 U, .slice ae es.length ce, .slice am ms.length cm, .int .u16 K] none) ∧ s'.heap.get (s.next + 1) = some (.cells [.int .i64 0, .slice none 0 0] none) ∧ s'.heap.get (s.next + 1 + 1) = some (.cells [.int .i64 n, w] none) ∧ s'.heap.get (s.next + 1 + 1 + 1) = some (.cells (restL (restR n ms es i)) none) ∧
    OwnG 7 (s.next + 1 + 1 + 1 + 1) s' w (((List.range i).map fun j => millFlow n K ms j (eAt es j)).map FlowD.cs) ∧ OwnG 4 (s.next + 1 + 1 + 1 + 1) s' (f.get 6) (((List.range i).map fun j => massM ms j).map Mass.cs)) (millN es) ?_ ?_) ?_
  · refine ⟨0, .slice none 0 0, by omega, rfl, by simp, by simp, by simp, by simp, by simp, by simp, by simp, by simp, ⟨by (try simp only [pushed_next', upded_next']); omega, fun i hi => by simp -implicitDefEqProofs (disch := omega) []⟩, by simp, ?_, ?_, ?_, ?_, .inl ⟨rfl, rfl⟩, .inl ⟨rfl, by simp⟩⟩
    · simp -implicitDefEqProofs (disch := omega)
    · simp -implicitDefEqProofs (disch := omega)
    · simp -implicitDefEqProofs (disch := omega)
    · show _ = some (AObj.cells (restL (fun _ => 0)) none)
      rw [hR0]
      simp -implicitDefEqProofs (disch := omega)
  rintro z f s' ⟨i, w, hi, rfl, hm, h9, h1, h2, h4, h5, h7, h8, hkp, hnx, hg0, hg1, hg2, hg3, hOF, hOR⟩
  have hkpa := hkp.1
  have hkpb := hkp.2
  have hN6 : millN es ≤ 6 := Nat.min_le_right _ _
  have hNl : millN es ≤ es.length := Nat.min_le_left _ _
  by_cases hlt : i < millN es
  · have hil : i < es.length := by omega
    have hi6 : ((i : Int) < 6) := by omega
    obtain ⟨e, he⟩ : ∃ e, es[i]? = some e := ⟨es[i], by simp [hil]⟩
    have hge := eAt_of he
    obtain ⟨⟨he1, he2⟩, he3, he4⟩ := hbe e (List.mem_of_getElem? he)
    obtain ⟨b, off, o, cs, gg, rfl, hb, ho, hc, ht0, ht1⟩ := EndsAt.at (hes.keep hkp) he
    have hr0 := intOp_rem .i64 e.1 ((n : Int) + 1) he1 (by omega)
    have hr1 := intOp_rem .i64 e.2 ((n : Int) + 1) he3 (by omega)
    have hE0 : e.1 % ((n : Int) + 1) - 1 = endI n e.1 := rfl
    have hE1 : e.2 % ((n : Int) + 1) - 1 = endI n e.2 := rfl
    have hm0 := Int.emod_nonneg e.1 (show (n : Int) + 1 ≠ 0 by omega)
    have hm0' := Int.emod_lt_of_pos e.1 (show 0 < (n : Int) + 1 by omega)
    have hm1 := Int.emod_nonneg e.2 (show (n : Int) + 1 ≠ 0 by omega)
    have hm1' := Int.emod_lt_of_pos e.2 (show 0 < (n : Int) + 1 by omega)
    have ve5 : veq 5 (Value.slice (some ⟨b, off, none⟩) es.length ce) (Value.slice (some ⟨b, off, none⟩) es.length ce) = true := veq_slice _ _ _ _ _
    generalize hF : endI n e.1 = F at hE0
    generalize hT : endI n e.2 = T0 at hE1
    generalize hB : bitB K i = B
    have hBe : decide (andB (shrB K i) = 1) = B := hB
    apply zz
    refine Cd.ra (h := ?_)
    apply Run.by_eq
    · intro self
      conv => lhs; simp -implicitDefEqProofs (maxSteps := 300000) (disch := omega) [-getElem?_pos, -getElem?_neg, h9, h1, hg0, hil, hi6]
    try (with_reducible refine Run.ret ?_)
    apply zz
    apply Cd.ite rfl
    · conv => lhs; simp -implicitDefEqProofs (maxSteps := 300000) (disch := omega) [-getElem?_pos, -getElem?_neg]
    all_goals intro c0
    all_goals try (cases c0; done)
    all_goals try simp only [Bool.not_eq_true', Bool.not_eq_false', decide_eq_true_eq, decide_eq_false_iff_not] at c0
    all_goals apply zz
    refine Cd.mono (Q := fun x f1 s1 => x = Ex.normal ∧ f1.marks = [] ∧ (∀ t : Nat, t < 10 → f1.get t = f.get t) ∧ f1.get 10 = .pointer (some ⟨s'.next, 0, none⟩) ∧ s1.next = s'.next + 1 ∧ Keep s' s1 ∧ s1.heap.get s'.next = some (.cells [.int .i64 F, .int .i64 T0, .bool B, .int .i64 0, .int .i64 0, .int .i64 0, .int .i64 0] none)) ?_ ?_
    · apply zz
      refine Cd.drawn (pl := [(0, 0, false, false), (1, 1, false, false), (2, 0, false, false), (3, 7, false, false), (4, 15, false, false), (5, 31, false, false), (6, 63, false, false), (7, 0, false, false), (8, 128, false, false), (9, 511, false, false), (10, 1023, false, false), (11, 0, false, false), (12, 2048, false, false), (13, 0, false, false), (14, 14336, false, false), (15, 30720, false, false), (16, 63488, false, false), (17, 129024, false, false), (18, 0, false, false), (19, 262144, false, false), (20, 1046528, false, false), (21, 2095104, false, false), (22, 0, false, false), (23, 4194304, false, false), (24, 0, false, false), (25, 29360128, false, false), (26, 62914560, false, false), (27, 130023424, false, false), (28, 268435455, false, false), (29, 0, false, true), (30, 1073741823, true, false)]) (by kernel_rfl) (by conv => lhs; simp only [List.map_cons, List.map_nil]) (by conv => lhs; simp [strip, ordered]) ?_
      apply Run.by_eq
      · intro self
        conv => lhs; simp -implicitDefEqProofs (maxSteps := 300000) (disch := omega) [filter_bt, (show ∀ i, Nat.testBit 1073741823 i = decide (i < 30) from fun i => Nat.testBit_two_pow_sub_one 30 i), -getElem?_pos, -getElem?_neg, h9, h1, h4, hg0, hil, ho, hc, ht0, ht1, hr0, hr1, hE0, hE1, hBe, ve5]
      try (with_reducible refine Run.ret ?_)
      apply zz
      exact ⟨rfl, by simp [hm], fun t ht => by (repeat rw [Fr.get_put_lt ht (by decide)]), by simp, by simp, ⟨by (try simp only [pushed_next', upded_next']); omega, fun i hi => by simp -implicitDefEqProofs (disch := omega) []⟩, by simp -implicitDefEqProofs (disch := omega)⟩
    rintro x f1 s1 ⟨rfl, hm1, hfk1, g10, hnx1, hk1, hg10⟩
    have hk1a := hk1.1
    have hk1b := hk1.2
    obtain ⟨TO, hTO⟩ : ∃ TO, TO = millTo n e := ⟨_, rfl⟩
    have hTOv : TO = if F = T0 then (F + 2) % ((n : Int) + 1) - 1 else T0 := by rw [hTO]; unfold millTo; rw [hF, hT]
    have hFr := @endI_range n e.1
    rw [hF] at hFr
    have hTr := @millTo_range n e
    rw [← hTO] at hTr
    have hFT : F ≠ TO := by rw [hTO, ← hF]; exact millTo_ne hn1
    refine SeqK.nm (Cd.seq (Cd.mono (Q := fun x f2 s2 => x = Ex.normal ∧ f2.marks = [] ∧ (∀ t : Nat, t < 11 → f2.get t = f1.get t) ∧ s2.next = s1.next ∧ (∀ j, j ≠ s'.next → s2.heap.get j = s1.heap.get j) ∧ s2.heap.get s'.next = some (.cells [.int .i64 F, .int .i64 TO, .bool B, .int .i64 0, .int .i64 0, .int .i64 0, .int .i64 0] none)) ?_ ?_))
    · have g4 := (hfk1 4 (by omega)).trans h4
      have hr2 := intOp_rem .i64 (F + 2) ((n : Int) + 1) (by omega) (by omega)
      have hq0 := Int.emod_nonneg (F + 2) (show (n : Int) + 1 ≠ 0 by omega)
      have hq1 := Int.emod_lt_of_pos (F + 2) (show 0 < (n : Int) + 1 by omega)
      apply zz
      refine Cd.ra (h := ?_)
      apply Run.by_eq
      · intro self
        conv => lhs; simp -implicitDefEqProofs (maxSteps := 300000) (disch := omega) [-getElem?_pos, -getElem?_neg, g10, hg10]
      try (with_reducible refine Run.ret ?_)
      apply zz
      apply Cd.ite rfl
      · conv => lhs; simp -implicitDefEqProofs (maxSteps := 300000) (disch := omega) [-getElem?_pos, -getElem?_neg]
      all_goals intro c1
      all_goals try (cases c1; done)
      all_goals try simp only [Bool.not_eq_true', Bool.not_eq_false', decide_eq_true_eq, decide_eq_false_iff_not] at c1
      all_goals apply zz
      · rw [if_pos c1] at hTOv
        apply zz
        refine Cd.ra (h := ?_)
        apply Run.by_eq
        · intro self
          conv => lhs; simp -implicitDefEqProofs (maxSteps := 300000) (disch := omega) [-getElem?_pos, -getElem?_neg, g10, g4, hg10, hr2]
        try (with_reducible refine Run.ret ?_)
        apply zz
        rw [← hTOv]
        exact ⟨rfl, by simp [hm1], fun t ht => by (repeat rw [Fr.get_put_lt ht (by decide)]), by simp, fun j hj => by simp -implicitDefEqProofs (disch := omega) [get_upded_other], by simp -implicitDefEqProofs (disch := omega) [hg10]⟩
      · rw [if_neg c1] at hTOv
        rw [← hTOv] at hg10
        exact ⟨rfl, by simp [hm1], fun t ht => by (repeat rw [Fr.get_put_lt ht (by decide)]), rfl, fun j hj => rfl, hg10⟩
    rintro x f2 s2 ⟨rfl, hm2, hfk2, hnx2, hk2, hG10⟩
    have p1 := ((hfk2 1 (by omega)).trans (hfk1 1 (by omega))).trans h1
    have p2 := ((hfk2 2 (by omega)).trans (hfk1 2 (by omega))).trans h2
    have p4 := ((hfk2 4 (by omega)).trans (hfk1 4 (by omega))).trans h4
    have p5 := ((hfk2 5 (by omega)).trans (hfk1 5 (by omega))).trans h5
    have p6 := (hfk2 6 (by omega)).trans (hfk1 6 (by omega))
    have p7 := ((hfk2 7 (by omega)).trans (hfk1 7 (by omega))).trans h7
    have p8 := ((hfk2 8 (by omega)).trans (hfk1 8 (by omega))).trans h8
    have p9 := ((hfk2 9 (by omega)).trans (hfk1 9 (by omega))).trans h9
    have p10 := (hfk2 10 (by omega)).trans g10
    have H0 := ((hk2 s.next (by omega)).trans (hk1b _ (by omega))).trans hg0
    have H1 := ((hk2 (s.next + 1) (by omega)).trans (hk1b _ (by omega))).trans hg1
    have H2 := ((hk2 (s.next + 1 + 1) (by omega)).trans (hk1b _ (by omega))).trans hg2
    have H3 := ((hk2 (s.next + 1 + 1 + 1) (by omega)).trans (hk1b _ (by omega))).trans hg3
    have hk2' : ∀ j, j < s'.next → s2.heap.get j = s'.heap.get j := fun j hj => (hk2 j (by omega)).trans (hk1b j hj)
    have hOF2 := hOF.keep (s' := s2) (by omega) fun j _ hj => hk2' j hj
    have hOR2 := hOR.keep (s' := s2) (by omega) fun j _ hj => hk2' j hj
    have hkp2 : Keep s s2 := ⟨by omega, fun j hj => (hk2' j (by omega)).trans (hkpb j hj)⟩
    have hN2 : s2.next = s'.next + 1 := by omega
    have hRS : restR n ms es (i + 1) = restK F TO ms i 4 (restR n ms es i) := by
      show restK (endI n (eAt es i).1) (millTo n (eAt es i)) ms i 4 (restR n ms es i) = _
      rw [hge, hF, hTO]
    have hFLW : millFlow n K ms i (eAt es i) = ⟨F, TO, B, if B = true then massM ms i else Mass.zero⟩ := by
      unfold millFlow
      rw [hge, hF, ← hTO, hB]
    clear hfk1 hfk2 hg0 hg1 hg2 hg3 hg10 h1 h2 h4 h5 h7 h8 h9 g10 hk2 hk1 hk1a hk1b hOF hOR ho hc ht0 ht1 hE0 hE1 hr0 hr1 hm0 hm0' hm1 hm1'
    obtain ⟨b10, hb10⟩ : ∃ b10, b10 = s'.next := ⟨_, rfl⟩
    rw [← hb10] at hG10 p10 hN2 hk2'
    have hb10' : s.next + 1 + 1 + 1 < b10 := by omega
    apply zz
    refine Cd.ra (h := ?_)
    apply Run.by_eq
    · intro self
      conv => lhs; simp -implicitDefEqProofs (maxSteps := 300000) (disch := omega) [-getElem?_pos, -getElem?_neg]
    try (with_reducible refine Run.ret ?_)
    apply zz
    refine Cd.ra (h := ?_)
    apply Run.by_eq
    · intro self
      conv => lhs; simp -implicitDefEqProofs (maxSteps := 300000) (disch := omega) [-getElem?_pos, -getElem?_neg]
    try (with_reducible refine Run.ret ?_)
    apply zz
    have hRb : ∀ p, -1536 ≤ restR n ms es i p ∧ restR n ms es i p ≤ 1536 := fun p => by
      have := restR_le (n := n) (es := es) hbm i p
      omega
    generalize restR n ms es i = R at hRb H3 hRS
    have hm0 : massL ms i 0 = [.int .i64 0, .int .i64 0, .int .i64 0, .int .i64 0] := rfl
    have hTO0 : TO = -1 ∨ 0 ≤ TO := by omega
    refine Cd.inv (fun z f s4 => ∃ k : Nat, k ≤ 4 ∧ z = 4 - k ∧ f.marks = [] ∧ f.get 77 = .int .i64 k ∧ (∀ t : Nat, t < 11 → f.get t = f2.get t) ∧ f.get 11 = .pointer (some ⟨b10 + 1, 0, none⟩) ∧ b10 + 1 < s4.next ∧ (∀ j, j ≤ b10 → j ≠ s.next + 1 + 1 + 1 → s4.heap.get j = s2.heap.get j) ∧ s4.heap.get (s.next + 1 + 1 + 1) = some (.cells (restL (restK F TO ms i k R)) none) ∧ s4.heap.get (b10 + 1) = some (.cells (massL ms i k) none)) 4 ?_ ?_
    · refine ⟨0, by omega, rfl, by simp [hm2], by simp, fun t ht => by (repeat rw [Fr.get_put_lt ht (by decide)]), by simp [hN2], by simp [hN2], fun j hj hj2 => ?_, ?_, ?_⟩
      · simp -implicitDefEqProofs (disch := omega)
      · rw [restK_zero]; simp -implicitDefEqProofs (disch := omega) [H3]
      · rw [hm0, ← hN2]; simp -implicitDefEqProofs (disch := omega)
    rintro z f4 s4 ⟨k, hk, rfl, hm4, g77, hf4, g11, hn4', ho4, hr4, hM4⟩
    have q1 := (hf4 1 (by omega)).trans p1
    have q7 := (hf4 7 (by omega)).trans p7
    have q8 := (hf4 8 (by omega)).trans p8
    have q9 := (hf4 9 (by omega)).trans p9
    have q10 := (hf4 10 (by omega)).trans p10
    have K0 := (ho4 s.next (by omega) (by omega)).trans H0
    have K10 := (ho4 b10 (by omega) (by omega)).trans hG10
    have hkp4 : Keep s s4 := ⟨by omega, fun j hj => (ho4 j (by omega) (by omega)).trans (hkp2.2 j hj)⟩
    have hkp4a := hkp4.1
    have hkp4b := hkp4.2
    by_cases hk4 : k < 4
    · have hmp := massL_put ms i hk4
      have hmg := massL_get ms i hk4
      have hml := mass1_le hbm i k
      have hK4 : ((k : Int) < 4) := by omega
      apply zz
      refine Cd.ra (h := ?_)
      apply Run.by_eq
      · intro self
        conv => lhs; simp -implicitDefEqProofs (maxSteps := 300000) (disch := omega) [-getElem?_pos, -getElem?_neg, g77]
      try (with_reducible refine Run.ret ?_)
      apply zz
      apply Cd.ite rfl
      · conv => lhs; simp -implicitDefEqProofs (maxSteps := 300000) (disch := omega) [-getElem?_pos, -getElem?_neg]
      all_goals intro c2
      all_goals try (cases c2; done)
      all_goals try simp only [Bool.not_eq_true', Bool.not_eq_false', decide_eq_true_eq, decide_eq_false_iff_not] at c2
      all_goals apply zz
      · apply zz
        refine Cd.ra (h := ?_)
        apply Run.by_eq
        · intro self
          conv => lhs; simp -implicitDefEqProofs (maxSteps := 300000) (disch := omega) [-getElem?_pos, -getElem?_neg, g77]
        try (with_reducible refine Run.ret ?_)
        apply zz
        refine Cd.ra (h := ?_)
        apply Run.by_eq
        · intro self
          conv => lhs; simp -implicitDefEqProofs (maxSteps := 300000) (disch := omega) [-getElem?_pos, -getElem?_neg, q8, q9]
        try (with_reducible refine Run.ret ?_)
        apply zz
        refine Run.call ((mass_ev U K (.slice (some ⟨b, off, none⟩) es.length ce) _ ms i k s.next _ (by omega) hk4 (by omega) (by simp -implicitDefEqProofs (disch := omega) [K0]) (hms.keep ⟨by (try simp only [pushed_next', upded_next']); omega, fun i hi => by simp -implicitDefEqProofs (disch := omega) [hkp4b]⟩) hbm).mono fun v wy hv => ?_)
        obtain ⟨rfl, y⟩ := hv
        have ya := y.1
        have yb := y.2
        try simp only [pushed_next', upded_next'] at ya yb
        have yb10 := (yb b10 (by omega)).trans K10
        have yb11 := (yb (b10 + 1) (by omega)).trans hM4
        have ybR := (yb (s.next + 1 + 1 + 1) (by omega)).trans hr4
        apply Run.by_eq
        · intro self
          conv => lhs; simp -implicitDefEqProofs (maxSteps := 300000) (disch := omega) [-getElem?_pos, -getElem?_neg, g11, yb11, hmp]
        try (with_reducible refine Run.ret ?_)
        apply zz
        have hRk := fun p => restK_le (fr := F) (to := TO) (i := i) (k := k) hbm hRb p
        apply zz
        refine Cd.ra (h := ?_)
        apply Run.by_eq
        · intro self
          conv => lhs; simp -implicitDefEqProofs (maxSteps := 300000) (disch := omega) [-getElem?_pos, -getElem?_neg, q10, yb10]
        try (with_reducible refine Run.ret ?_)
        apply zz
        refine Cd.mono (Q := fun x f5 s5 => x = Ex.normal ∧ f5.marks = [] ∧ f5.get 77 = .int .i64 k ∧ f5.get 12 = .int .i64 k ∧ (∀ t : Nat, t < 11 → f5.get t = f2.get t) ∧ f5.get 11 = .pointer (some ⟨b10 + 1, 0, none⟩) ∧ b10 + 1 < s5.next ∧ (∀ j, j ≤ b10 → j ≠ s.next + 1 + 1 + 1 → s5.heap.get j = s2.heap.get j) ∧ s5.heap.get (s.next + 1 + 1 + 1) = some (.cells (restL (restT TO ms i k (restK F TO ms i k R))) none) ∧ s5.heap.get (b10 + 1) = some (.cells (massL ms i (k + 1)) none)) ?_ ?_
        · apply zz
          apply Cd.ite rfl
          · conv => lhs; simp -implicitDefEqProofs (maxSteps := 300000) (disch := omega) [-getElem?_pos, -getElem?_neg]
          all_goals intro c3
          all_goals try (cases c3; done)
          all_goals try simp only [Bool.not_eq_true', Bool.not_eq_false', decide_eq_true_eq, decide_eq_false_iff_not] at c3
          all_goals apply zz
          · obtain ⟨t, rfl⟩ : ∃ t : Nat, TO = t := ⟨TO.toNat, by omega⟩
            have htk : t * 4 + k < 16 := by omega
            have hget := restL_get (restK F t ms i k R) htk
            have hput := restL_put (restK F t ms i k R) htk (restK F t ms i k R (t * 4 + k) + mass1 ms i k)
            have hput2 := restK_to (fr := F) (to := t) (ms := ms) (i := i) (R := R) hk4 (by omega) hFT
            rw [Int.toNat_natCast] at hput2
            rw [hput2, show (fun q => restK F t ms i k R q + (if ((q / 4 : Nat) : Int) = (t : Int) ∧ q % 4 = k then mass1 ms i (q % 4) else 0)) = restT t ms i k (restK F t ms i k R) from rfl] at hput
            have hRb1 := hRk (t * 4 + k)
            generalize restK F t ms i k R (t * 4 + k) = X at hget hput hRb1
            generalize mass1 ms i k = Y at hmg hml hput
            have ht4 : ((t : Int) < 4) := by omega
            apply zz
            refine Cd.drawnH (pl := [(0, 0, false, false), (1, 1, false, false), (2, 0, false, false), (3, 3, false, false), (4, 15, false, false), (5, 31, false, false), (6, 0, false, false), (7, 64, false, false), (8, 192, false, false), (9, 511, false, false), (10, 3, false, false), (11, 2047, false, false), (12, 4095, true, false)]) [false, false, false, false, false, false, false, false, false, false, false, false, false] (by kernel_rfl) (by decide) (by decide) (by conv => lhs; simp only [List.map_cons, List.map_nil]) (by conv => lhs; simp [strip, orderedG, flagH]) ?_
            apply Run.by_eq
            · intro self
              conv => lhs; simp -implicitDefEqProofs (maxSteps := 300000) (disch := omega) [-getElem?_pos, -getElem?_neg, q10, yb10, q7, g11, yb11, hmg, ybR, hget, hput, ht4]
            try (with_reducible refine Run.ret ?_)
            apply zz
            refine ⟨rfl, by simp [hm4], by simp [g77], by simp, fun t ht => by (repeat rw [Fr.get_put_lt ht (by decide)]); exact hf4 t ht, by simp [g11], by simp; omega, fun j hj hj2 => ?_, ?_, ?_⟩
            · simp -implicitDefEqProofs (disch := omega) [yb, ho4]
            · simp -implicitDefEqProofs (disch := omega)
            · simp -implicitDefEqProofs (disch := omega)
          · have hTn : TO = -1 := by omega
            refine ⟨rfl, by simp [hm4], by simp [g77], by simp, fun t ht => by (repeat rw [Fr.get_put_lt ht (by decide)]); exact hf4 t ht, by simp [g11], by simp; omega, fun j hj hj2 => ?_, ?_, ?_⟩
            · simp -implicitDefEqProofs (disch := omega) [yb, ho4]
            · have hz : restT TO ms i k (restK F TO ms i k R) = restK F TO ms i k R := funext fun q => restT_no (by omega)
              rw [hz]
              simp -implicitDefEqProofs (disch := omega) [ybR]
            · simp -implicitDefEqProofs (disch := omega)
        rintro x f5 s5 ⟨rfl, hm5, r77, r12, hf5, r11, hn5', ho5, hr5, hM5⟩
        have u7 := (hf5 7 (by omega)).trans p7
        have u10 := (hf5 10 (by omega)).trans p10
        have U10 := (ho5 b10 (by omega) (by omega)).trans hG10
        apply zz
        refine Cd.ra (h := ?_)
        apply Run.by_eq
        · intro self
          conv => lhs; simp -implicitDefEqProofs (maxSteps := 300000) (disch := omega) [-getElem?_pos, -getElem?_neg, u10, U10]
        try (with_reducible refine Run.ret ?_)
        apply zz
        apply Cd.ite rfl
        · conv => lhs; simp -implicitDefEqProofs (maxSteps := 300000) (disch := omega) [-getElem?_pos, -getElem?_neg]
        all_goals intro c4
        all_goals try (cases c4; done)
        all_goals try simp only [Bool.not_eq_true', Bool.not_eq_false', decide_eq_true_eq, decide_eq_false_iff_not] at c4
        all_goals apply zz
        · obtain ⟨t, rfl⟩ : ∃ t : Nat, F = t := ⟨F.toNat, by omega⟩
          have htk : t * 4 + k < 16 := by omega
          have hput := restL_put (restT TO ms i k (restK t TO ms i k R)) htk (restK t TO ms i k R (t * 4 + k) - mass1 ms i k)
          have hget := restL_get (restT TO ms i k (restK t TO ms i k R)) htk
          have hdm : (t * 4 + k) / 4 = t ∧ (t * 4 + k) % 4 = k := by omega
          rw [restT_no (fun h => hFT (by rw [← h.1, hdm.1]))] at hget
          have hput2 : (fun q => if q = t * 4 + k then restK t TO ms i k R (t * 4 + k) - mass1 ms i k else restT TO ms i k (restK t TO ms i k R) q) = restK t TO ms i (k + 1) R := by
            funext q
            rw [restT_next q]
            by_cases e : q = t * 4 + k
            · subst e
              rw [if_pos rfl, restT_no (fun h => hFT (by rw [← h.1, hdm.1])), hdm.1, hdm.2, if_pos ⟨rfl, rfl⟩]
            · rw [if_neg e, if_neg (show ¬ (((q / 4 : Nat) : Int) = t ∧ q % 4 = k) by omega)]; omega
          rw [hput2] at hput
          have hRb1 := hRk (t * 4 + k)
          generalize restK t TO ms i k R (t * 4 + k) = X at hget hput hRb1
          generalize mass1 ms i k = Y at hmg hml hput
          have ht4 : ((t : Int) < 4) := by omega
          apply zz
          refine Cd.drawnH (pl := [(0, 0, false, false), (1, 1, false, false), (2, 0, false, false), (3, 3, false, false), (4, 15, false, false), (5, 31, false, false), (6, 0, false, false), (7, 64, false, false), (8, 192, false, false), (9, 511, false, false), (10, 3, false, false), (11, 2047, false, false), (12, 4095, true, false)]) [false, false, false, false, false, false, false, false, false, false, false, false, false] (by kernel_rfl) (by decide) (by decide) (by conv => lhs; simp only [List.map_cons, List.map_nil]) (by conv => lhs; simp [strip, orderedG, flagH]) ?_
          apply Run.by_eq
          · intro self
            conv => lhs; simp -implicitDefEqProofs (maxSteps := 300000) (disch := omega) [-getElem?_pos, -getElem?_neg, u10, U10, u7, r11, r12, hM5, hmg, hr5, hget, hput, ht4]
          try (with_reducible refine Run.ret ?_)
          apply zz
          refine Cd.ra (h := ?_)
          apply Run.by_eq
          · intro self
            conv => lhs; simp -implicitDefEqProofs (maxSteps := 300000) (disch := omega) [-getElem?_pos, -getElem?_neg, r77]
          try (with_reducible refine Run.ret ?_)
          apply zz
          refine LoopK.nm (4 - (k + 1)) (by omega) ⟨k + 1, by omega, rfl, by simp [hm5], by simp, fun t ht => by (repeat rw [Fr.get_put_lt ht (by decide)]); exact hf5 t ht, by simp [r11], by simp; omega, fun j hj hj2 => ?_, ?_, ?_⟩
          · simp -implicitDefEqProofs (disch := omega) [ho5]
          · simp -implicitDefEqProofs (disch := omega)
          · simp -implicitDefEqProofs (disch := omega) [hM5]
        · have hz : restT TO ms i k (restK F TO ms i k R) = restK F TO ms i (k + 1) R := by
            funext q
            rw [restT_next q, if_neg (show ¬ (((q / 4 : Nat) : Int) = F ∧ q % 4 = k) by omega)]; omega
          rw [hz] at hr5
          apply zz
          refine Cd.ra (h := ?_)
          apply Run.by_eq
          · intro self
            conv => lhs; simp -implicitDefEqProofs (maxSteps := 300000) (disch := omega) [-getElem?_pos, -getElem?_neg, r77]
          try (with_reducible refine Run.ret ?_)
          apply zz
          exact LoopK.nm (4 - (k + 1)) (by omega) ⟨k + 1, by omega, rfl, by simp [hm5], by simp, fun t ht => by (repeat rw [Fr.get_put_lt ht (by decide)]); exact hf5 t ht, by simp [r11], by omega, ho5, hr5, hM5⟩
      · omega
    obtain rfl : k = 4 := by omega
    apply zz
    refine Cd.ra (h := ?_)
    apply Run.by_eq
    · intro self
      conv => lhs; simp -implicitDefEqProofs (maxSteps := 300000) (disch := omega) [-getElem?_pos, -getElem?_neg, g77]
    try (with_reducible refine Run.ret ?_)
    apply zz
    apply Cd.ite rfl
    · conv => lhs; simp -implicitDefEqProofs (maxSteps := 300000) (disch := omega) [-getElem?_pos, -getElem?_neg]
    all_goals intro c2
    all_goals try (cases c2; done)
    all_goals try simp only [Bool.not_eq_true', Bool.not_eq_false', decide_eq_true_eq, decide_eq_false_iff_not] at c2
    all_goals apply zz
    have hM4' : s4.heap.get (b10 + 1) = some (.cells [.int .i64 (massM ms i).a, .int .i64 (massM ms i).b, .int .i64 (massM ms i).c, .int .i64 (massM ms i).d] none) := hM4
    generalize hMM : massM ms i = MM at hM4' hFLW
    obtain ⟨M5, hM5⟩ : ∃ M5, M5 = if B = true then MM else Mass.zero := ⟨_, rfl⟩
    rw [← hM5] at hFLW
    apply zz
    refine Cd.ra (h := ?_)
    apply Run.by_eq
    · intro self
      conv => lhs; simp -implicitDefEqProofs (maxSteps := 300000) (disch := omega) [-getElem?_pos, -getElem?_neg, q10, K10]
    try (with_reducible refine Run.ret ?_)
    apply zz
    refine Cd.mono (Q := fun x f5 s5 => x = Ex.normal ∧ f5.marks = [] ∧ (∀ t : Nat, t < 11 → f5.get t = f2.get t) ∧ f5.get 11 = .pointer (some ⟨b10 + 1, 0, none⟩) ∧ s5.next = s4.next ∧ (∀ j, j ≠ b10 → s5.heap.get j = s4.heap.get j) ∧ s5.heap.get b10 = some (.cells [.int .i64 F, .int .i64 TO, .bool B, .int .i64 M5.a, .int .i64 M5.b, .int .i64 M5.c, .int .i64 M5.d] none)) ?_ ?_
    · apply zz
      apply Cd.ite rfl
      · conv => lhs; simp -implicitDefEqProofs (maxSteps := 300000) (disch := omega) [-getElem?_pos, -getElem?_neg]
      all_goals intro c5
      all_goals try (cases c5; done)
      all_goals try simp only [Bool.not_eq_true', Bool.not_eq_false', decide_eq_true_eq, decide_eq_false_iff_not] at c5
      all_goals apply zz
      · subst c5
        rw [if_pos rfl] at hM5
        subst hM5
        apply zz
        refine Cd.ra (h := ?_)
        apply Run.by_eq
        · intro self
          conv => lhs; simp -implicitDefEqProofs (maxSteps := 300000) (disch := omega) [-getElem?_pos, -getElem?_neg, q10, g11, hM4', K10]
        try (with_reducible refine Run.ret ?_)
        apply zz
        refine ⟨rfl, by simp [hm4], fun t ht => by (repeat rw [Fr.get_put_lt ht (by decide)]); exact hf4 t ht, by simp [g11], by simp, fun j hj => ?_, ?_⟩
        · simp -implicitDefEqProofs (disch := omega)
        · simp -implicitDefEqProofs (disch := omega)
      · subst c5
        rw [if_neg (by decide)] at hM5
        subst hM5
        exact ⟨rfl, by simp [hm4], fun t ht => by (repeat rw [Fr.get_put_lt ht (by decide)]); exact hf4 t ht, by simp [g11], rfl, fun j hj => rfl, K10⟩
    rintro x f5 s5 ⟨rfl, hm5, hf5, r11, hn5, ho5, hr5⟩
    have u1 := (hf5 1 (by omega)).trans p1
    have u2 := (hf5 2 (by omega)).trans p2
    have u4 := (hf5 4 (by omega)).trans p4
    have u5 := (hf5 5 (by omega)).trans p5
    have u6 := (hf5 6 (by omega)).trans p6
    have u7 := (hf5 7 (by omega)).trans p7
    have u8 := (hf5 8 (by omega)).trans p8
    have u9 := (hf5 9 (by omega)).trans p9
    have u10 := (hf5 10 (by omega)).trans p10
    have ho' : ∀ j, j < b10 → j ≠ s.next + 1 + 1 + 1 → s5.heap.get j = s2.heap.get j := fun j h1 h2 => (ho5 j (by omega)).trans (ho4 j (by omega) h2)
    have U0 := (ho' s.next (by omega) (by omega)).trans H0
    have U1 := (ho' (s.next + 1) (by omega) (by omega)).trans H1
    have U2 := (ho' (s.next + 1 + 1) (by omega) (by omega)).trans H2
    have U3 := (ho5 (s.next + 1 + 1 + 1) (by omega)).trans hr4
    have U11 := (ho5 (b10 + 1) (by omega)).trans hM4'
    have hkp5 : Keep s s5 := ⟨by omega, fun j hj => (ho' j (by omega) (by omega)).trans (hkp2.2 j hj)⟩
    have hkp5a := hkp5.1
    have hkp5b := hkp5.2
    rw [← hRS] at U3
    have hL1 : (((List.range i).map fun j => millFlow n K ms j (eAt es j)).map FlowD.cs).length = i := by simp
    have hL2 : (((List.range i).map fun j => massM ms j).map Mass.cs).length = i := by simp
    have hS1 : ((List.range (i + 1)).map fun j => millFlow n K ms j (eAt es j)).map FlowD.cs = ((List.range i).map fun j => millFlow n K ms j (eAt es j)).map FlowD.cs ++ [[.int .i64 F, .int .i64 TO, .bool B, .int .i64 M5.a, .int .i64 M5.b, .int .i64 M5.c, .int .i64 M5.d]] := by
      rw [List.range_succ, List.map_append, List.map_append]
      simp only [List.map_cons, List.map_nil, hFLW]
      rfl
    have hS2 : ((List.range (i + 1)).map fun j => massM ms j).map Mass.cs = ((List.range i).map fun j => massM ms j).map Mass.cs ++ [[.int .i64 MM.a, .int .i64 MM.b, .int .i64 MM.c, .int .i64 MM.d]] := by
      rw [List.range_succ, List.map_append, List.map_append]
      simp only [List.map_cons, List.map_nil, hMM]
      rfl
    have hfl1 := flat_len (flows_len ((List.range i).map fun j => millFlow n K ms j (eAt es j)))
    have hfl2 := flat_len (masses_len ((List.range i).map fun j => massM ms j))
    rw [hL1] at hfl1
    rw [hL2] at hfl2
    rw [← u6] at hOR2
    generalize ((List.range i).map fun j => millFlow n K ms j (eAt es j)).map FlowD.cs = L1 at hOF2 hL1 hS1 hfl1
    generalize ((List.range i).map fun j => massM ms j).map Mass.cs = L2 at hOR2 hL2 hS2 hfl2
    apply zz
    refine Cd.mono (Q := fun x f6 s6 => x = Ex.normal ∧ f6.marks = [] ∧ f6.get 1 = .pointer (some ⟨s.next, 0, none⟩) ∧ f6.get 2 = .pointer (some ⟨s.next + 1, 0, none⟩) ∧ f6.get 4 = .int .i64 n ∧ f6.get 5 = .pointer (some ⟨s.next + 1 + 1, 0, none⟩) ∧ f6.get 7 = .pointer (some ⟨s.next + 1 + 1 + 1, 0, none⟩) ∧ f6.get 8 = .func (.func 58) #[] #[.pointer (some ⟨s.next, 0, none⟩)] ∧ f6.get 9 = .int .i64 i ∧ Keep s s6 ∧ s.next + 1 + 1 + 1 < s6.next ∧ ∃ w',
      s6.heap.get s.next = some (.cells [.int .u8 U, .slice (some ⟨b, off, none⟩) es.length ce, .slice am ms.length cm, .int .u16 K] none) ∧ s6.heap.get (s.next + 1) = some (.cells [.int .i64 0, .slice none 0 0] none) ∧ s6.heap.get (s.next + 1 + 1) = some (.cells [.int .i64 n, w'] none) ∧ s6.heap.get (s.next + 1 + 1 + 1) = some (.cells (restL (restR n ms es (i + 1))) none) ∧
      OwnG 7 (s.next + 1 + 1 + 1 + 1) s6 w' (((List.range (i + 1)).map fun j => millFlow n K ms j (eAt es j)).map FlowD.cs) ∧ OwnG 4 (s.next + 1 + 1 + 1 + 1) s6 (f6.get 6) (((List.range (i + 1)).map fun j => massM ms j).map Mass.cs)) ?_ ?_
    · rcases hOF2 with ⟨e1, rfl⟩ | ⟨bw, rfl, hne1, hw1, hw2, hw3⟩
      · have hi0 : i = 0 := by rw [← hL1, e1]; rfl
        subst hi0
        rcases hOR2 with ⟨e2, ew⟩ | ⟨br, ew, hne2, hv1, hv2, hv3⟩
        · apply zz
          refine Cd.drawn (pl := [(0, 0, false, false), (1, 1, false, false), (2, 0, false, false), (3, 4, false, true), (5, 0, false, false), (6, 0, false, false), (7, 64, false, true), (4, 15, true, false), (9, 31, false, false), (8, 255, true, false), (10, 1023, true, false), (11, 2047, false, false)]) (by kernel_rfl) (by conv => lhs; simp only [List.map_cons, List.map_nil]) (by conv => lhs; simp [strip, ordered]) ?_
          apply Run.by_eq
          · intro self
            conv => lhs; simp -implicitDefEqProofs (maxSteps := 300000) (disch := omega) [filter_bt, (show ∀ i, Nat.testBit 15 i = decide (i < 4) from fun i => Nat.testBit_two_pow_sub_one 4 i), (show ∀ i, Nat.testBit 255 i = decide (i < 8) from fun i => Nat.testBit_two_pow_sub_one 8 i), (show ∀ i, Nat.testBit 1023 i = decide (i < 10) from fun i => Nat.testBit_two_pow_sub_one 10 i), -getElem?_pos, -getElem?_neg, u5, U2, u10, hr5, ew, r11, U11]
          try (with_reducible refine Run.ret ?_)
          apply zz
          refine ⟨rfl, by simp [hm5], by simp [u1], by simp [u2], by simp [u4], by simp [u5], by simp [u7], by simp [u8], by simp [u9], ⟨by (try simp only [pushed_next', upded_next']); omega, fun i hi => by simp -implicitDefEqProofs (disch := omega) [hkp5b]⟩, by (try simp only [pushed_next', upded_next']); omega, .slice (some ⟨s5.next + 1 + 1, 0, none⟩) (0 + 1) (0 + 1), ?_, ?_, ?_, ?_, ?_, ?_⟩
          · simp -implicitDefEqProofs (disch := omega) [U0]
          · simp -implicitDefEqProofs (disch := omega) [U1]
          · simp -implicitDefEqProofs (disch := omega)
          · simp -implicitDefEqProofs (disch := omega) [U3]
          · rw [hS1]
            refine OwnG.snoc hL1 (by omega) (by (try simp only [pushed_next', upded_next']); omega) ?_
            simp -implicitDefEqProofs (disch := omega) [e1]
          · rw [hS2]
            simp only [Fr.get_put', if_true]
            refine OwnG.snoc (b := s5.next + 1 + 1 + 1) hL2 (by omega) (by (try simp only [pushed_next', upded_next']); omega) ?_
            simp -implicitDefEqProofs (disch := omega) [e2]
        · exact absurd (List.eq_nil_of_length_eq_zero hL2) hne2
      · have hi0 : 0 < i := by rw [← hL1]; exact List.length_pos_iff.2 hne1
        rcases hOR2 with ⟨e2, ew⟩ | ⟨br, ew, hne2, hv1, hv2, hv3⟩
        · rw [e2] at hL2; simp at hL2; omega
        · rw [hL2] at ew
          rw [hL1] at U2
          have hbw : bw ≠ b10 := fun e => by rw [e, hG10] at hw3; simp at hw3
          have hbr : br ≠ b10 := fun e => by rw [e, hG10] at hv3; simp at hv3
          have hbb : bw ≠ br := fun e => by rw [e, hv3] at hw3; simp at hw3
          have hw5 := (ho' bw (by omega) (by omega)).trans hw3
          have hv5 := (ho' br (by omega) (by omega)).trans hv3
          have happ1 := appV_moreE (size := 7) (n := i) (b := bw) (b2 := s5.next) (old := L1.flatten) (s := (s5.pushed (.cells [.int .i64 F, .int .i64 TO, .bool B, .int .i64 M5.a, .int .i64 M5.b, .int .i64 M5.c, .int .i64 M5.d] none)).pushed (.cells [.int .i64 MM.a, .int .i64 MM.b, .int .i64 MM.c, .int .i64 MM.d] none)) (by simp -implicitDefEqProofs (disch := omega) [hw5]) hfl1 (by omega)
          have happ2 := appV_moreE (size := 4) (n := i) (b := br) (b2 := s5.next + 1) (old := L2.flatten) (s := ((((s5.pushed (.cells [.int .i64 F, .int .i64 TO, .bool B, .int .i64 M5.a, .int .i64 M5.b, .int .i64 M5.c, .int .i64 M5.d] none)).pushed (.cells [.int .i64 MM.a, .int .i64 MM.b, .int .i64 MM.c, .int .i64 MM.d] none)).upded bw .dead).pushed (.cells (L1.flatten ++ [.int .i64 F, .int .i64 TO, .bool B, .int .i64 M5.a, .int .i64 M5.b, .int .i64 M5.c, .int .i64 M5.d]) (some 7)))) (by simp -implicitDefEqProofs (disch := omega) [hv5]) hfl2 (by omega)
          apply zz
          refine Cd.drawn (pl := [(0, 0, false, false), (1, 1, false, false), (2, 0, false, false), (3, 4, false, true), (5, 0, false, false), (6, 0, false, false), (7, 64, false, true), (4, 15, true, false), (9, 31, false, false), (8, 255, true, false), (10, 1023, true, false), (11, 2047, false, false)]) (by kernel_rfl) (by conv => lhs; simp only [List.map_cons, List.map_nil]) (by conv => lhs; simp [strip, ordered]) ?_
          apply Run.by_eq
          · intro self
            conv => lhs; simp -implicitDefEqProofs (maxSteps := 300000) (disch := omega) [filter_bt, (show ∀ i, Nat.testBit 15 i = decide (i < 4) from fun i => Nat.testBit_two_pow_sub_one 4 i), (show ∀ i, Nat.testBit 255 i = decide (i < 8) from fun i => Nat.testBit_two_pow_sub_one 8 i), (show ∀ i, Nat.testBit 1023 i = decide (i < 10) from fun i => Nat.testBit_two_pow_sub_one 10 i), -getElem?_pos, -getElem?_neg, u5, U2, u10, hr5, ew, r11, U11, happ1, happ2]
          try (with_reducible refine Run.ret ?_)
          apply zz
          refine ⟨rfl, by simp [hm5], by simp [u1], by simp [u2], by simp [u4], by simp [u5], by simp [u7], by simp [u8], by simp [u9], ⟨by (try simp only [pushed_next', upded_next']); omega, fun i hi => by simp -implicitDefEqProofs (disch := omega) [hkp5b]⟩, by (try simp only [pushed_next', upded_next']); omega, .slice (some ⟨s5.next + 1 + 1, 0, none⟩) (i + 1) (i + 1), ?_, ?_, ?_, ?_, ?_, ?_⟩
          · simp -implicitDefEqProofs (disch := omega) [U0]
          · simp -implicitDefEqProofs (disch := omega) [U1]
          · simp -implicitDefEqProofs (disch := omega)
          · simp -implicitDefEqProofs (disch := omega) [U3]
          · rw [hS1]
            refine OwnG.snoc hL1 (by omega) (by (try simp only [pushed_next', upded_next']); omega) ?_
            simp -implicitDefEqProofs (disch := omega) []
          · rw [hS2]
            simp only [Fr.get_put', if_true]
            refine OwnG.snoc (b := s5.next + 1 + 1 + 1) hL2 (by omega) (by (try simp only [pushed_next', upded_next']); omega) ?_
            simp -implicitDefEqProofs (disch := omega) []
    rintro x f6 s6 ⟨rfl, hm6, t1, t2, t4, t5, t7, t8, t9, hkp6, hn6, w', T0', T1', T2', T3', hO1, hO2⟩
    apply zz
    refine Cd.ra (h := ?_)
    apply Run.by_eq
    · intro self
      conv => lhs; simp -implicitDefEqProofs (maxSteps := 300000) (disch := omega) [-getElem?_pos, -getElem?_neg, t9]
    try (with_reducible refine Run.ret ?_)
    apply zz
    exact LoopK.nm (millN es - (i + 1)) (by omega) ⟨i + 1, w', by omega, rfl, by simp [hm6], by simp, by simp [t1], by simp [t2], by simp [t4], by simp [t5], by simp [t7], by simp [t8], hkp6, hn6, T0', T1', T2', T3', hO1, by simpa using hO2⟩
  · obtain rfl : i = millN es := by omega
    have hx : f.marks = [] ∧ f.get 1 = .pointer (some ⟨s.next, 0, none⟩) ∧ f.get 2 = .pointer (some ⟨s.next + 1, 0, none⟩) ∧ f.get 4 = .int .i64 n ∧ f.get 5 = .pointer (some ⟨s.next + 1 + 1, 0, none⟩) ∧ f.get 7 = .pointer (some ⟨s.next + 1 + 1 + 1, 0, none⟩) := ⟨hm, h1, h2, h4, h5, h7⟩
    by_cases hil : millN es < es.length
    · have hi6 : ¬ ((millN es : Int) < 6) := by unfold millN at hil ⊢; omega
      apply zz
      refine Cd.ra (h := ?_)
      apply Run.by_eq
      · intro self
        conv => lhs; simp -implicitDefEqProofs (maxSteps := 300000) (disch := omega) [-getElem?_pos, -getElem?_neg, h9, h1, hg0, hil, hi6]
      try (with_reducible refine Run.ret ?_)
      apply zz
      apply Cd.ite rfl
      · conv => lhs; simp -implicitDefEqProofs (maxSteps := 300000) (disch := omega) [-getElem?_pos, -getElem?_neg]
      all_goals intro c0
      all_goals try (cases c0; done)
      all_goals try simp only [Bool.not_eq_true', Bool.not_eq_false', decide_eq_true_eq, decide_eq_false_iff_not] at c0
      all_goals apply zz
      exact ⟨rfl, w, by simp [hm], by simp [h1], by simp [h2], by simp [h4], by simp [h5], by simp [h7], hkp, hnx, hg0, hg1, hg2, hg3, hOF, by simpa using hOR⟩
    · apply zz
      refine Cd.ra (h := ?_)
      apply Run.by_eq
      · intro self
        conv => lhs; simp -implicitDefEqProofs (maxSteps := 300000) (disch := omega) [-getElem?_pos, -getElem?_neg, h9, h1, hg0, hil]
      try (with_reducible refine Run.ret ?_)
      apply zz
      apply Cd.ite rfl
      · conv => lhs; simp -implicitDefEqProofs (maxSteps := 300000) (disch := omega) [-getElem?_pos, -getElem?_neg]
      all_goals intro c0
      all_goals try (cases c0; done)
      all_goals try simp only [Bool.not_eq_true', Bool.not_eq_false', decide_eq_true_eq, decide_eq_false_iff_not] at c0
      all_goals apply zz
      exact ⟨rfl, w, by simp [hm], by simp [h1], by simp [h2], by simp [h4], by simp [h5], by simp [h7], hkp, hnx, hg0, hg1, hg2, hg3, hOF, by simpa using hOR⟩
  rintro x f s' ⟨rfl, w, hm, h1, h2, h4, h5, h7, hkp, hnx, hg0, hg1, hg2, hg3, hOF, hOR⟩
  have hRb : ∀ p, -1536 ≤ restR n ms es (millN es) p ∧ restR n ms es (millN es) p ≤ 1536 := fun p => by
    have := restR_le (n := n) (es := es) hbm (millN es) p
    have : millN es ≤ 6 := Nat.min_le_right _ _
    omega
  have hM6 : millN es ≤ 6 := Nat.min_le_right _ _
  have hEnd : millFs n K ms es = (List.range (millN es)).map (fun j => millFlow n K ms j (eAt es j)) ++ (List.range n).map (millLast K (restR n ms es (millN es))) := rfl
  have hEnd2 : millReal n ms es = (List.range (millN es)).map (fun j => massM ms j) ++ (List.range n).map (rowM (restR n ms es (millN es))) := rfl
  have hA1 : ((List.range (millN es)).map fun j => millFlow n K ms j (eAt es j)).length = millN es := by simp
  have hA2 : ((List.range (millN es)).map fun j => massM ms j).length = millN es := by simp
  generalize ((List.range (millN es)).map fun j => millFlow n K ms j (eAt es j)) = A1 at hOF hA1 hEnd
  generalize ((List.range (millN es)).map fun j => massM ms j) = A2 at hOR hA2 hEnd2
  generalize restR n ms es (millN es) = R at hRb hg3 hEnd hEnd2
  generalize millN es = M at hM6 hA1 hA2
  apply zz
  refine Cd.ra (h := ?_)
  apply Run.by_eq
  · intro self
    conv => lhs; simp -implicitDefEqProofs (maxSteps := 300000) (disch := omega) [-getElem?_pos, -getElem?_neg]
  try (with_reducible refine Run.ret ?_)
  apply zz
  refine Cd.inv (fun z f s' => ∃ (u : Nat) (w : Value), u ≤ n ∧ z = n - u ∧ f.marks = [] ∧ f.get 13 = .int .i64 u ∧ f.get 1 = .pointer (some ⟨s.next, 0, none⟩) ∧ f.get 2 = .pointer (some ⟨s.next + 1, 0, none⟩) ∧ f.get 4 = .int .i64 n ∧ f.get 5 = .pointer (some ⟨s.next + 1 + 1, 0, none⟩) ∧ f.get 7 = .pointer (some ⟨s.next + 1 + 1 + 1, 0, none⟩) ∧
    Keep s s' ∧ s.next + 1 + 1 + 1 < s'.next ∧ s'.heap.get s.next = some (.cells [.int .u8 U, .slice ae es.length ce, .slice am ms.length cm, .int .u16 K] none) ∧ s'.heap.get (s.next + 1) = some (.cells [.int .i64 0, .slice none 0 0] none) ∧ s'.heap.get (s.next + 1 + 1) = some (.cells [.int .i64 n, w] none) ∧ s'.heap.get (s.next + 1 + 1 + 1) = some (.cells (restL R) none) ∧
    OwnG 7 (s.next + 1 + 1 + 1 + 1) s' w ((A1 ++ (List.range u).map (millLast K R)).map FlowD.cs) ∧ OwnG 4 (s.next + 1 + 1 + 1 + 1) s' (f.get 6) ((A2 ++ (List.range u).map (rowM R)).map Mass.cs)) n ?_ ?_
  · exact ⟨0, w, by omega, rfl, by simp [hm], by simp, by simp [h1], by simp [h2], by simp [h4], by simp [h5], by simp [h7], hkp, hnx, hg0, hg1, hg2, hg3, by simpa using hOF, by simpa using hOR⟩
  clear hOF hOR hkp hnx hg0 hg1 hg2 hg3 hm h1 h2 h4 h5 h7
  clear w
  rintro z f0 s0 ⟨u, w, hu, rfl, hm, h13, h1, h2, h4, h5, h7, hkp, hnx, hg0, hg1, hg2, hg3, hOF, hOR⟩
  have hkpa := hkp.1
  have hkpb := hkp.2
  by_cases hlt : u < n
  · have hB6 : decide (andB (shrB K (6 + u)) = 1) = bitB K (6 + u) := rfl
    have h6u : (6 : Int) + (u : Int) = ((6 + u : Nat) : Int) := by push_cast; rfl
    generalize hB : bitB K (6 + u) = B at hB6
    generalize hv6 : 6 + u = v6 at hB6 h6u hB
    apply zz
    refine Cd.ra (h := ?_)
    apply Run.by_eq
    · intro self
      conv => lhs; simp -implicitDefEqProofs (maxSteps := 300000) (disch := omega) [-getElem?_pos, -getElem?_neg, h13, h4]
    try (with_reducible refine Run.ret ?_)
    apply zz
    apply Cd.ite rfl
    · conv => lhs; simp -implicitDefEqProofs (maxSteps := 300000) (disch := omega) [-getElem?_pos, -getElem?_neg]
    all_goals intro c0
    all_goals try (cases c0; done)
    all_goals try simp only [Bool.not_eq_true', Bool.not_eq_false', decide_eq_true_eq, decide_eq_false_iff_not] at c0
    all_goals apply zz
    · apply zz
      refine Cd.ra (h := ?_)
      apply Run.by_eq
      · intro self
        conv => lhs; simp -implicitDefEqProofs (maxSteps := 300000) (disch := omega) [-getElem?_pos, -getElem?_neg, h13, h1, hg0, h6u, hB6]
      try (with_reducible refine Run.ret ?_)
      apply zz
      refine Cd.ra (h := ?_)
      apply Run.by_eq
      · intro self
        conv => lhs; simp -implicitDefEqProofs (maxSteps := 300000) (disch := omega) [-getElem?_pos, -getElem?_neg]
      try (with_reducible refine Run.ret ?_)
      apply zz
      refine Cd.mono (Q := fun x f1 s1 => x = Ex.exit 6 ∧ f1.marks = [] ∧ (∀ t : Nat, t < 14 → f1.get t = f0.get t) ∧ f1.get 14 = .pointer (some ⟨s0.next, 0, none⟩) ∧ s1.next = s0.next + 1 ∧ (∀ j, j < s0.next → s1.heap.get j = s0.heap.get j) ∧ s1.heap.get s0.next = some (.cells [.int .i64 u, .int .i64 (-1), .bool (B && restOk R u 4), .int .i64 0, .int .i64 0, .int .i64 0, .int .i64 0] none)) (Cd.inv (fun z f1 s1 => ∃ k : Nat, k ≤ 4 ∧ z = 4 - k ∧ f1.marks = [] ∧ f1.get 145 = .int .i64 k ∧ (∀ t : Nat, t < 14 → f1.get t = f0.get t) ∧ f1.get 14 = .pointer (some ⟨s0.next, 0, none⟩) ∧ s1.next = s0.next + 1 ∧ (∀ j, j < s0.next → s1.heap.get j = s0.heap.get j) ∧ s1.heap.get s0.next = some (.cells [.int .i64 u, .int .i64 (-1), .bool (B && restOk R u k), .int .i64 0, .int .i64 0, .int .i64 0, .int .i64 0] none)) 4 ?_ ?_) ?_
      · refine ⟨0, by omega, rfl, by simp [hm], by simp, fun t ht => by (repeat rw [Fr.get_put_lt ht (by decide)]), by simp, by simp, fun j hj => ?_, ?_⟩
        · simp -implicitDefEqProofs (disch := omega)
        · simp -implicitDefEqProofs (disch := omega) [restOk]
      · rintro z f1 s1 ⟨k, hk, rfl, hm1, g145, hf1, g14, hn1', ho1, hr1⟩
        have q7 := (hf1 7 (by omega)).trans h7
        have q13 := (hf1 13 (by omega)).trans h13
        have K3 := (ho1 (s.next + 1 + 1 + 1) (by omega)).trans hg3
        by_cases hk4 : k < 4
        · have hro : restOk R u (k + 1) = (restOk R u k && decide (0 ≤ R (u * 4 + k))) := by
            unfold restOk
            rw [List.range_succ, List.all_append]; simp
          have hget := restL_get R (p := u * 4 + k) (by omega)
          have hu4 : ((u : Int) < 4) := by omega
          have hk4' : ((k : Int) < 4) := by omega
          apply zz
          refine Cd.ra (h := ?_)
          apply Run.by_eq
          · intro self
            conv => lhs; simp -implicitDefEqProofs (maxSteps := 300000) (disch := omega) [-getElem?_pos, -getElem?_neg, g145]
          try (with_reducible refine Run.ret ?_)
          apply zz
          apply Cd.ite rfl
          · conv => lhs; simp -implicitDefEqProofs (maxSteps := 300000) (disch := omega) [-getElem?_pos, -getElem?_neg]
          all_goals intro c1
          all_goals try (cases c1; done)
          all_goals try simp only [Bool.not_eq_true', Bool.not_eq_false', decide_eq_true_eq, decide_eq_false_iff_not] at c1
          all_goals apply zz
          · apply zz
            refine Cd.ra (h := ?_)
            apply Run.by_eq
            · intro self
              conv => lhs; simp -implicitDefEqProofs (maxSteps := 300000) (disch := omega) [-getElem?_pos, -getElem?_neg, g145]
            try (with_reducible refine Run.ret ?_)
            apply zz
            obtain ⟨V, hV⟩ : ∃ V, V = (B && restOk R u k) := ⟨_, rfl⟩
            rw [← hV] at hr1
            have hV2 : (B && restOk R u (k + 1)) = (V && decide (0 ≤ R (u * 4 + k))) := by rw [hro, hV, Bool.and_assoc]
            cases V with
            | false =>
              rw [Bool.false_and] at hV2
              apply zz
              refine Cd.ra (h := ?_)
              apply Run.by_eq
              · intro self
                conv => lhs; simp -implicitDefEqProofs (maxSteps := 300000) (disch := omega) [-getElem?_pos, -getElem?_neg, g14, hr1]
              try (with_reducible refine Run.ret ?_)
              apply zz
              refine Cd.ra (h := ?_)
              apply Run.by_eq
              · intro self
                conv => lhs; simp -implicitDefEqProofs (maxSteps := 300000) (disch := omega) [-getElem?_pos, -getElem?_neg, g145]
              try (with_reducible refine Run.ret ?_)
              apply zz
              refine LoopK.nm (4 - (k + 1)) (by omega) ⟨k + 1, by omega, rfl, by simp [hm1], by simp, fun t ht => by (repeat rw [Fr.get_put_lt ht (by decide)]); exact hf1 t ht, by simp [g14], by simp [hn1'], fun j hj => ?_, ?_⟩
              · simp -implicitDefEqProofs (disch := omega) [ho1]
              · rw [hV2]; simp -implicitDefEqProofs (disch := omega)
            | true =>
              rw [Bool.true_and] at hV2
              generalize R (u * 4 + k) = X at hget hV2
              apply zz
              refine Cd.ra (h := ?_)
              apply Run.by_eq
              · intro self
                conv => lhs; simp -implicitDefEqProofs (maxSteps := 300000) (disch := omega) [-getElem?_pos, -getElem?_neg, g14, hr1, q13, q7, K3, hget, hu4, hk4']
              try (with_reducible refine Run.ret ?_)
              apply zz
              refine Cd.ra (h := ?_)
              apply Run.by_eq
              · intro self
                conv => lhs; simp -implicitDefEqProofs (maxSteps := 300000) (disch := omega) [-getElem?_pos, -getElem?_neg, g145]
              try (with_reducible refine Run.ret ?_)
              apply zz
              refine LoopK.nm (4 - (k + 1)) (by omega) ⟨k + 1, by omega, rfl, by simp [hm1], by simp, fun t ht => by (repeat rw [Fr.get_put_lt ht (by decide)]); exact hf1 t ht, by simp [g14], by simp [hn1'], fun j hj => ?_, ?_⟩
              · simp -implicitDefEqProofs (disch := omega) [ho1]
              · rw [hV2]; simp -implicitDefEqProofs (disch := omega)
          · omega
        · obtain rfl : k = 4 := by omega
          apply zz
          refine Cd.ra (h := ?_)
          apply Run.by_eq
          · intro self
            conv => lhs; simp -implicitDefEqProofs (maxSteps := 300000) (disch := omega) [-getElem?_pos, -getElem?_neg, g145]
          try (with_reducible refine Run.ret ?_)
          apply zz
          apply Cd.ite rfl
          · conv => lhs; simp -implicitDefEqProofs (maxSteps := 300000) (disch := omega) [-getElem?_pos, -getElem?_neg]
          all_goals intro c1
          all_goals try (cases c1; done)
          all_goals try simp only [Bool.not_eq_true', Bool.not_eq_false', decide_eq_true_eq, decide_eq_false_iff_not] at c1
          all_goals apply zz
          exact ⟨rfl, by simp [hm1], fun t ht => by (repeat rw [Fr.get_put_lt ht (by decide)]); exact hf1 t ht, by simp [g14], hn1', ho1, hr1⟩
      rintro x f1 s1 ⟨rfl, hm1, hf1, g14, hn1', ho1, hr1⟩
      obtain ⟨V, hV⟩ : ∃ V, V = (B && restOk R u 4) := ⟨_, rfl⟩
      rw [← hV] at hr1
      obtain ⟨MM, hMM⟩ : ∃ MM, MM = rowM R u := ⟨_, rfl⟩
      obtain ⟨M5, hM5⟩ : ∃ M5, M5 = if V = true then MM else Mass.zero := ⟨_, rfl⟩
      have hFLW : millLast K R u = ⟨u, -1, V, M5⟩ := by unfold millLast; rw [hv6, hB, ← hV, ← hMM, hM5]
      have q7 := (hf1 7 (by omega)).trans h7
      have q13 := (hf1 13 (by omega)).trans h13
      have K3 := (ho1 (s.next + 1 + 1 + 1) (by omega)).trans hg3
      have hu4 : ((u : Int) < 4) := by omega
      have hrow : takeL 4 ((restL R).drop (u * 4)) = some [.int .i64 MM.a, .int .i64 MM.b, .int .i64 MM.c, .int .i64 MM.d] := by
        rw [hMM]
        have : u < 4 := by omega
        match u, this with
        | 0, _ => rfl
        | 1, _ => rfl
        | 2, _ => rfl
        | 3, _ => rfl
      apply zz
      refine Cd.ra (h := ?_)
      apply Run.by_eq
      · intro self
        conv => lhs; simp -implicitDefEqProofs (maxSteps := 300000) (disch := omega) [-getElem?_pos, -getElem?_neg, g14, hr1]
      try (with_reducible refine Run.ret ?_)
      apply zz
      refine Cd.mono (Q := fun x f2 s2 => x = Ex.normal ∧ f2.marks = [] ∧ (∀ t : Nat, t < 14 → f2.get t = f0.get t) ∧ f2.get 14 = .pointer (some ⟨s0.next, 0, none⟩) ∧ s2.next = s0.next + 1 ∧ (∀ j, j < s0.next → s2.heap.get j = s0.heap.get j) ∧ s2.heap.get s0.next = some (.cells [.int .i64 u, .int .i64 (-1), .bool V, .int .i64 M5.a, .int .i64 M5.b, .int .i64 M5.c, .int .i64 M5.d] none)) ?_ ?_
      · apply zz
        apply Cd.ite rfl
        · conv => lhs; simp -implicitDefEqProofs (maxSteps := 300000) (disch := omega) [-getElem?_pos, -getElem?_neg]
        all_goals intro c5
        all_goals try (cases c5; done)
        all_goals try simp only [Bool.not_eq_true', Bool.not_eq_false', decide_eq_true_eq, decide_eq_false_iff_not] at c5
        all_goals apply zz
        · subst c5
          rw [if_pos rfl] at hM5
          subst hM5
          apply zz
          refine Cd.ra (h := ?_)
          apply Run.by_eq
          · intro self
            conv => lhs; simp -implicitDefEqProofs (maxSteps := 300000) (disch := omega) [-getElem?_pos, -getElem?_neg, g14, hr1, q13, q7, K3, hrow, hu4]
          try (with_reducible refine Run.ret ?_)
          apply zz
          refine ⟨rfl, by simp [hm1], fun t ht => by (repeat rw [Fr.get_put_lt ht (by decide)]); exact hf1 t ht, by simp [g14], by simp [hn1'], fun j hj => ?_, ?_⟩
          · simp -implicitDefEqProofs (disch := omega) [ho1]
          · simp -implicitDefEqProofs (disch := omega)
        · subst c5
          rw [if_neg (by decide)] at hM5
          subst hM5
          exact ⟨rfl, by simp [hm1], fun t ht => by (repeat rw [Fr.get_put_lt ht (by decide)]); exact hf1 t ht, by simp [g14], hn1', ho1, hr1⟩
      rintro x f2 s2 ⟨rfl, hm2, hf2, r14, hn2, ho2, hr2⟩
      have u1 := (hf2 1 (by omega)).trans h1
      have u2 := (hf2 2 (by omega)).trans h2
      have u4 := (hf2 4 (by omega)).trans h4
      have u5 := (hf2 5 (by omega)).trans h5
      have u6 := hf2 6 (by omega)
      have u7 := (hf2 7 (by omega)).trans h7
      have u13 := (hf2 13 (by omega)).trans h13
      have U0 := (ho2 s.next (by omega)).trans hg0
      have U1 := (ho2 (s.next + 1) (by omega)).trans hg1
      have U2 := (ho2 (s.next + 1 + 1) (by omega)).trans hg2
      have U3 := (ho2 (s.next + 1 + 1 + 1) (by omega)).trans hg3
      have hkp2 : Keep s s2 := ⟨by omega, fun j hj => (ho2 j (by omega)).trans (hkpb j hj)⟩
      have hkp2a := hkp2.1
      have hkp2b := hkp2.2
      rw [← u6] at hOR
      have hL1 : ((A1 ++ (List.range u).map (millLast K R)).map FlowD.cs).length = M + u := by simp [hA1]
      have hL2 : ((A2 ++ (List.range u).map (rowM R)).map Mass.cs).length = M + u := by simp [hA2]
      have hS1 : (A1 ++ (List.range (u + 1)).map (millLast K R)).map FlowD.cs = (A1 ++ (List.range u).map (millLast K R)).map FlowD.cs ++ [[.int .i64 u, .int .i64 (-1), .bool V, .int .i64 M5.a, .int .i64 M5.b, .int .i64 M5.c, .int .i64 M5.d]] := by
        rw [show (List.range (u + 1)).map (millLast K R) = (List.range u).map (millLast K R) ++ [millLast K R u] by rw [List.range_succ, List.map_append]; rfl, ← List.append_assoc, List.map_append (l₁ := A1 ++ (List.range u).map (millLast K R))]
        simp only [List.map_cons, List.map_nil, hFLW]
        rfl
      have hS2 : (A2 ++ (List.range (u + 1)).map (rowM R)).map Mass.cs = (A2 ++ (List.range u).map (rowM R)).map Mass.cs ++ [[.int .i64 MM.a, .int .i64 MM.b, .int .i64 MM.c, .int .i64 MM.d]] := by
        rw [show (List.range (u + 1)).map (rowM R) = (List.range u).map (rowM R) ++ [rowM R u] by rw [List.range_succ, List.map_append]; rfl, ← List.append_assoc, List.map_append (l₁ := A2 ++ (List.range u).map (rowM R))]
        simp only [List.map_cons, List.map_nil, ← hMM]
        rfl
      have hfl1 := flat_len (flows_len (A1 ++ (List.range u).map (millLast K R)))
      have hfl2 := flat_len (masses_len (A2 ++ (List.range u).map (rowM R)))
      rw [hL1] at hfl1
      rw [hL2] at hfl2
      generalize (A1 ++ (List.range u).map (millLast K R)).map FlowD.cs = L1 at hOF hL1 hS1 hfl1
      generalize (A2 ++ (List.range u).map (rowM R)).map Mass.cs = L2 at hOR hL2 hS2 hfl2
      apply zz
      refine Cd.mono (Q := fun x f6 s6 => x = Ex.normal ∧ f6.marks = [] ∧ f6.get 13 = .int .i64 u ∧ f6.get 1 = .pointer (some ⟨s.next, 0, none⟩) ∧ f6.get 2 = .pointer (some ⟨s.next + 1, 0, none⟩) ∧ f6.get 4 = .int .i64 n ∧ f6.get 5 = .pointer (some ⟨s.next + 1 + 1, 0, none⟩) ∧ f6.get 7 = .pointer (some ⟨s.next + 1 + 1 + 1, 0, none⟩) ∧ Keep s s6 ∧ s.next + 1 + 1 + 1 < s6.next ∧ ∃ w',
        s6.heap.get s.next = some (.cells [.int .u8 U, .slice ae es.length ce, .slice am ms.length cm, .int .u16 K] none) ∧ s6.heap.get (s.next + 1) = some (.cells [.int .i64 0, .slice none 0 0] none) ∧ s6.heap.get (s.next + 1 + 1) = some (.cells [.int .i64 n, w'] none) ∧ s6.heap.get (s.next + 1 + 1 + 1) = some (.cells (restL R) none) ∧
        OwnG 7 (s.next + 1 + 1 + 1 + 1) s6 w' ((A1 ++ (List.range (u + 1)).map (millLast K R)).map FlowD.cs) ∧ OwnG 4 (s.next + 1 + 1 + 1 + 1) s6 (f6.get 6) ((A2 ++ (List.range (u + 1)).map (rowM R)).map Mass.cs)) ?_ ?_
      · rcases hOF with ⟨e1, rfl⟩ | ⟨bw, rfl, hne1, hw1, hw2, hw3⟩
        · have hMu : M + u = 0 := by rw [← hL1, e1]; rfl
          rcases hOR with ⟨e2, ew⟩ | ⟨br, ew, hne2, hv1, hv2, hv3⟩
          · apply zz
            refine Cd.drawn (pl := [(0, 0, false, false), (1, 1, false, false), (2, 0, false, false), (3, 4, false, true), (5, 0, false, false), (6, 0, false, false), (7, 64, false, false), (8, 192, false, false), (9, 448, false, true), (4, 15, true, false), (11, 31, false, false), (10, 1023, true, false), (12, 4095, true, false), (13, 8191, false, false)]) (by kernel_rfl) (by conv => lhs; simp only [List.map_cons, List.map_nil]) (by conv => lhs; simp [strip, ordered]) ?_
            apply Run.by_eq
            · intro self
              conv => lhs; simp -implicitDefEqProofs (maxSteps := 300000) (disch := omega) [filter_bt, (show ∀ i, Nat.testBit 15 i = decide (i < 4) from fun i => Nat.testBit_two_pow_sub_one 4 i), (show ∀ i, Nat.testBit 1023 i = decide (i < 10) from fun i => Nat.testBit_two_pow_sub_one 10 i), (show ∀ i, Nat.testBit 4095 i = decide (i < 12) from fun i => Nat.testBit_two_pow_sub_one 12 i), -getElem?_pos, -getElem?_neg, u5, U2, r14, hr2, ew, u13, u7, U3, hrow, hu4]
            try (with_reducible refine Run.ret ?_)
            apply zz
            refine ⟨rfl, by simp [hm2], by simp [u13], by simp [u1], by simp [u2], by simp [u4], by simp [u5], by simp [u7], ⟨by (try simp only [pushed_next', upded_next']); omega, fun i hi => by simp -implicitDefEqProofs (disch := omega) [hkp2b]⟩, by (try simp only [pushed_next', upded_next']); omega, .slice (some ⟨s2.next + 1 + 1, 0, none⟩) (M + u + 1) (M + u + 1), ?_, ?_, ?_, ?_, ?_, ?_⟩
            · simp -implicitDefEqProofs (disch := omega) [U0]
            · simp -implicitDefEqProofs (disch := omega) [U1]
            · simp -implicitDefEqProofs (disch := omega) [hMu]
            · simp -implicitDefEqProofs (disch := omega) [U3]
            · rw [hS1]
              refine OwnG.snoc hL1 (by omega) (by (try simp only [pushed_next', upded_next']); omega) ?_
              simp -implicitDefEqProofs (disch := omega) [e1]
            · rw [hS2]
              simp only [Fr.get_put', if_true, hMu]
              refine OwnG.snoc (b := s2.next + 1 + 1 + 1) (hL2.trans hMu) (by omega) (by (try simp only [pushed_next', upded_next']); omega) ?_
              simp -implicitDefEqProofs (disch := omega) [e2]
          · exact absurd (List.eq_nil_of_length_eq_zero (by rw [hL2, hMu])) hne2
        · have hi0 : 0 < M + u := by rw [← hL1]; exact List.length_pos_iff.2 hne1
          rcases hOR with ⟨e2, ew⟩ | ⟨br, ew, hne2, hv1, hv2, hv3⟩
          · rw [e2] at hL2; simp at hL2; omega
          · rw [hL2] at ew
            rw [hL1] at U2
            have hbb : bw ≠ br := fun e => by rw [e, hv3] at hw3; simp at hw3
            have hw5 := (ho2 bw (by omega)).trans hw3
            have hv5 := (ho2 br (by omega)).trans hv3
            have happ1 := appV_moreE (size := 7) (n := M + u) (b := bw) (b2 := s2.next) (old := L1.flatten) (s := (s2.pushed (.cells [.int .i64 u, .int .i64 (-1), .bool V, .int .i64 M5.a, .int .i64 M5.b, .int .i64 M5.c, .int .i64 M5.d] none)).pushed (.cells [.int .i64 MM.a, .int .i64 MM.b, .int .i64 MM.c, .int .i64 MM.d] none)) (by simp -implicitDefEqProofs (disch := omega) [hw5]) hfl1 (by omega)
            have happ2 := appV_moreE (size := 4) (n := M + u) (b := br) (b2 := s2.next + 1) (old := L2.flatten) (s := ((((s2.pushed (.cells [.int .i64 u, .int .i64 (-1), .bool V, .int .i64 M5.a, .int .i64 M5.b, .int .i64 M5.c, .int .i64 M5.d] none)).pushed (.cells [.int .i64 MM.a, .int .i64 MM.b, .int .i64 MM.c, .int .i64 MM.d] none)).upded bw .dead).pushed (.cells (L1.flatten ++ [.int .i64 u, .int .i64 (-1), .bool V, .int .i64 M5.a, .int .i64 M5.b, .int .i64 M5.c, .int .i64 M5.d]) (some 7)))) (by simp -implicitDefEqProofs (disch := omega) [hv5]) hfl2 (by omega)
            apply zz
            refine Cd.drawn (pl := [(0, 0, false, false), (1, 1, false, false), (2, 0, false, false), (3, 4, false, true), (5, 0, false, false), (6, 0, false, false), (7, 64, false, false), (8, 192, false, false), (9, 448, false, true), (4, 15, true, false), (11, 31, false, false), (10, 1023, true, false), (12, 4095, true, false), (13, 8191, false, false)]) (by kernel_rfl) (by conv => lhs; simp only [List.map_cons, List.map_nil]) (by conv => lhs; simp [strip, ordered]) ?_
            apply Run.by_eq
            · intro self
              conv => lhs; simp -implicitDefEqProofs (maxSteps := 300000) (disch := omega) [filter_bt, (show ∀ i, Nat.testBit 15 i = decide (i < 4) from fun i => Nat.testBit_two_pow_sub_one 4 i), (show ∀ i, Nat.testBit 1023 i = decide (i < 10) from fun i => Nat.testBit_two_pow_sub_one 10 i), (show ∀ i, Nat.testBit 4095 i = decide (i < 12) from fun i => Nat.testBit_two_pow_sub_one 12 i), -getElem?_pos, -getElem?_neg, u5, U2, r14, hr2, ew, u13, u7, U3, hrow, hu4, happ1, happ2]
            try (with_reducible refine Run.ret ?_)
            apply zz
            refine ⟨rfl, by simp [hm2], by simp [u13], by simp [u1], by simp [u2], by simp [u4], by simp [u5], by simp [u7], ⟨by (try simp only [pushed_next', upded_next']); omega, fun i hi => by simp -implicitDefEqProofs (disch := omega) [hkp2b]⟩, by (try simp only [pushed_next', upded_next']); omega, .slice (some ⟨s2.next + 1 + 1, 0, none⟩) (M + u + 1) (M + u + 1), ?_, ?_, ?_, ?_, ?_, ?_⟩
            · simp -implicitDefEqProofs (disch := omega) [U0]
            · simp -implicitDefEqProofs (disch := omega) [U1]
            · simp -implicitDefEqProofs (disch := omega)
            · simp -implicitDefEqProofs (disch := omega) [U3]
            · rw [hS1]
              refine OwnG.snoc hL1 (by omega) (by (try simp only [pushed_next', upded_next']); omega) ?_
              simp -implicitDefEqProofs (disch := omega) []
            · rw [hS2]
              simp only [Fr.get_put', if_true]
              refine OwnG.snoc (b := s2.next + 1 + 1 + 1) hL2 (by omega) (by (try simp only [pushed_next', upded_next']); omega) ?_
              simp -implicitDefEqProofs (disch := omega) []
      rintro x f6 s6 ⟨rfl, hm6, t13, t1, t2, t4, t5, t7, hkp6, hn6, w', T0', T1', T2', T3', hO1, hO2⟩
      apply zz
      refine Cd.ra (h := ?_)
      apply Run.by_eq
      · intro self
        conv => lhs; simp -implicitDefEqProofs (maxSteps := 300000) (disch := omega) [-getElem?_pos, -getElem?_neg, t13]
      try (with_reducible refine Run.ret ?_)
      apply zz
      exact LoopK.nm (n - (u + 1)) (by omega) ⟨u + 1, w', by omega, rfl, by simp [hm6], by simp, by simp [t1], by simp [t2], by simp [t4], by simp [t5], by simp [t7], hkp6, hn6, T0', T1', T2', T3', hO1, by simpa using hO2⟩
    · omega
  · obtain rfl : u = n := by omega
    rw [← hEnd] at hOF
    rw [← hEnd2] at hOR
    have hw1 : oneV w = true := by rcases hOF with ⟨_, rfl⟩ | ⟨_, rfl, _⟩ <;> rfl
    apply zz
    refine Cd.ra (h := ?_)
    apply Run.by_eq
    · intro self
      conv => lhs; simp -implicitDefEqProofs (maxSteps := 300000) (disch := omega) [-getElem?_pos, -getElem?_neg, h13, h4]
    try (with_reducible refine Run.ret ?_)
    apply zz
    apply Cd.ite rfl
    · conv => lhs; simp -implicitDefEqProofs (maxSteps := 300000) (disch := omega) [-getElem?_pos, -getElem?_neg]
    all_goals intro c0
    all_goals try (cases c0; done)
    all_goals try simp only [Bool.not_eq_true', Bool.not_eq_false', decide_eq_true_eq, decide_eq_false_iff_not] at c0
    all_goals apply zz
    apply zz
    refine Cd.ra (h := ?_)
    apply Run.by_eq
    · intro self
      conv => lhs; simp -implicitDefEqProofs (maxSteps := 300000) (disch := omega) [-getElem?_pos, -getElem?_neg, h5, hg2, h2, hg1, hw1]
    try (with_reducible refine Run.ret ?_)
    apply zz
    apply Leave.mk (by first | exact .inl rfl | exact .inr rfl) (by simp only [Fr.marks_put, fr0_marks, hm, h2])
    · conv => lhs; simp -implicitDefEqProofs (disch := omega) [Try.results34, hm, h2]
    refine ⟨⟨by (try simp only [pushed_next', upded_next']); omega, fun i hi => by simp -implicitDefEqProofs (disch := omega) [hkpb]⟩, u, w, f0.get 6, rfl, hn1, hn4, rfl, ?_, ?_⟩
    · rcases hOF with ⟨h, h'⟩ | ⟨b, h, h', hb1, hb2, hb3⟩
      · exact .inl ⟨h, h'⟩
      · exact .inr ⟨b, h, h', by omega, hb2, by rw [get_upded_other _ _ _ _ (by omega)]; exact hb3⟩
    · rcases hOR with ⟨h, h'⟩ | ⟨b, h, h', hb1, hb2, hb3⟩
      · exact .inl ⟨h, h'⟩
      · exact .inr ⟨b, h, h', by omega, hb2, by rw [get_upded_other _ _ _ _ (by omega)]; exact hb3⟩
end Go.Proofs.Ytjehpgflhgpalaa
namespace Go.Proofs.Ytjehpgflhgpalaa
open Go Kern
/-! Bits of a byte, and sets of units -/
def shr8 (K : Int) (i : Nat) : Int := K.fdiv (2 ^ (min i IntKind.u8.bits))
def and8 (x : Int) : Int := IntKind.u8.wrap ((BitVec.ofInt IntKind.u8.bits x &&& BitVec.ofInt IntKind.u8.bits 1).toNat : Nat)
@[simp] theorem intOp_and8 (x : Int) : intOp .and .u8 x (.u8, 1) = some (.int .u8 (and8 x)) := by
  show gd (kindEq .u8 .u8) _ = _
  rw [kindEq_refl]; rfl
@[simp] theorem intOp_shr8 (K : Int) (m : Nat) : intOp .shr .u8 K (.i64, (m : Int)) = some (.int .u8 (shr8 K m)) := rfl
def bit8 (K : Int) (i : Nat) : Bool := decide (and8 (shr8 K i) = 1)
/-- Units in ascending order, of the first k. -/
structure UnitsTo (k : Nat) (xs : List Int) : Prop where
  sorted : xs.Pairwise (· < ·)
  range : ∀ x ∈ xs, 0 ≤ x ∧ x < k
  len : xs.length ≤ k
theorem UnitsTo.nil : UnitsTo 0 [] := ⟨.nil, fun x h => by (cases h), Nat.le_refl _⟩
theorem UnitsTo.snoc {k : Nat} {xs : List Int} (h : UnitsTo k xs) : UnitsTo (k + 1) (xs ++ [(k : Int)]) := by
  refine ⟨?_, ?_, by simp; exact h.len⟩
  · rw [List.pairwise_append]
    refine ⟨h.sorted, by simp, fun a ha b hb => ?_⟩
    have := h.range a ha
    simp at hb
    omega
  · intro x hx
    rcases List.mem_append.1 hx with hx | hx
    · have := h.range x hx; omega
    · simp at hx; omega
def Mass.put (m : Mass) (q : Nat) (x : Int) : Mass := match q with
  | 0 => ⟨x, m.b, m.c, m.d⟩
  | 1 => ⟨m.a, x, m.c, m.d⟩
  | 2 => ⟨m.a, m.b, x, m.d⟩
  | _ => ⟨m.a, m.b, m.c, x⟩
theorem Mass.put_cs {f : FlowD} {q : Nat} (hq : q < 4) (x : Int) : putL (3 + q) [.int .i64 x] f.cs = some (FlowD.cs ⟨f.fr, f.to, f.me, f.m.put q x⟩) := by
  match q, hq with
  | 0, _ => rfl
  | 1, _ => rfl
  | 2, _ => rfl
  | 3, _ => rfl
end Go.Proofs.Ytjehpgflhgpalaa
namespace Go.Proofs.Ytjehpgflhgpalaa
open Go Kern
/-! What is met by rounds over the flows that are not measured -/
def stepJ (lo : Int) (fs : List FlowD) (M : Nat → Bool) (i : Nat) (j : Nat) : Bool := match fs[i]? with
  | some f => if (!f.me && !decide ((i : Int) = lo) && (M (f.fr + 1).toNat || M (f.to + 1).toNat)) = true then (if j = (f.to + 1).toNat then true else if j = (f.fr + 1).toNat then true else M j) else M j
  | none => M j
def passJ (lo : Int) (fs : List FlowD) (M : Nat → Bool) : Nat → Nat → Bool
  | 0 => M
  | k + 1 => stepJ lo fs (passJ lo fs M k) k
def metJ (lo : Int) (fs : List FlowD) (a : Int) : Nat → Nat → Bool
  | 0 => fun j => decide (j = (a + 1).toNat)
  | r + 1 => passJ lo fs (metJ lo fs a r) fs.length
section
variable {lo : Int} {fs : List FlowD} {M : Nat → Bool} {a : Int} {n : Nat}
/-- Each flow has both ends or none. -/
def ShutJ (lo : Int) (fs : List FlowD) (M : Nat → Bool) : Prop := ∀ (i : Nat) (f : FlowD), fs[i]? = some f → Unm fs lo i → (M (f.fr + 1).toNat = true ↔ M (f.to + 1).toNat = true)
def cntJ (M : Nat → Bool) (l : List Nat) : Nat := (l.filter M).length
end
end Go.Proofs.Ytjehpgflhgpalaa
namespace Go.Proofs.Ytjehpgflhgpalaa
open Go Kern
/-! The law's own question whether ends are joined -/
def cellsB (m : Nat) (M : Nat → Bool) : List Value := (List.range m).map fun j => Value.bool (M j)
def orAt (M : Nat → Bool) (p j : Nat) : Bool := if j = p then true else M j
end Go.Proofs.Ytjehpgflhgpalaa
namespace Go.Proofs.Ytjehpgflhgpalaa
open Go Kern
end Go.Proofs.Ytjehpgflhgpalaa
namespace Go.Proofs.Ytjehpgflhgpalaa
open Go Kern
/-! What is true of a plant with a balance -/
theorem realF_le {n : Nat} {ms : List Int} {es : List (Int × Int)} (hb : ∀ x ∈ ms, 0 ≤ x ∧ x < 256) (j : Nat) : (realF n ms es j).le 1536 := by
  unfold realF
  split
  · have h0 := mass1_le hb j 0
    have h1 := mass1_le hb j 1
    have h2 := mass1_le hb j 2
    have h3 := mass1_le hb j 3
    unfold massM Mass.le
    simp only []
    omega
  · have h6 := millN_le es
    have hr := fun p => restR_le (n := n) (es := es) hb (millN es) p
    have h0 := hr ((j - millN es) * 4)
    have h1 := hr ((j - millN es) * 4 + 1)
    have h2 := hr ((j - millN es) * 4 + 2)
    have h3 := hr ((j - millN es) * 4 + 3)
    unfold rowM Mass.le
    simp only []
    omega
/-- What Close tells of a flow with a balance: its state. -/
def stB (fs : List FlowD) (j : Nat) (f : FlowD) : Int := if f.me = true then 1 else if rtF j fs 0 id f.fr = rtF j fs 0 id f.to then 3 else 2
theorem knB_at {fs : List FlowD} {n : Nat} {R : Nat → Mass} (h : BalF fs n R) {j : Nat} {f : FlowD} (hf : fs[j]? = some f) : knB fs R j = ⟨stB fs j f, if stB fs j f = 3 then Mass.zero else R j⟩ := by
  unfold knB stB
  rw [hf]
  simp only []
  by_cases hm : f.me = true
  · rw [if_pos hm, if_pos hm, if_neg (by decide), h.meas j f hf hm]
  · rw [if_neg hm, if_neg hm]
    by_cases hd : rtF j fs 0 id f.fr = rtF j fs 0 id f.to
    · rw [if_pos hd, if_pos hd, if_pos rfl]
    · rw [if_neg hd, if_neg hd, if_neg (by decide)]
end Go.Proofs.Ytjehpgflhgpalaa
