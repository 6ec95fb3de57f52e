/-
  A part with an excess is a proof that there is no balance. It holds with no condition but those that are written in each theorem.
-/
import Derived.Test.YtifkpaomhnlahaaA16
import Derived.Test.YtifkpaomhnlahaaA22
namespace Go.Proofs.Ytifkpaomhnlahaa
open Go Kern
/-- The first kind of which there is something. -/
def nzK (m : Mass) : Option Nat := if m.a ≠ 0 then some 0 else if m.b ≠ 0 then some 1 else if m.c ≠ 0 then some 2 else if m.d ≠ 0 then some 3 else none
theorem nzK_none {m : Mass} : nzK m = none ↔ m = Mass.zero := by
  obtain ⟨a, b, c, d⟩ := m
  unfold nzK Mass.zero
  by_cases ha : a = 0 <;> by_cases hb : b = 0 <;> by_cases hc : c = 0 <;> by_cases hd : d = 0 <;> simp_all
theorem nzK_at {m : Mass} {k : Nat} (hk : k < 4) (hz : ∀ j, j < k → m.at j = 0) (h : m.at k ≠ 0) : nzK m = some k := by
  match k, hk with
  | 0, _ => simp only [Mass.at] at h; simp [nzK, h]
  | 1, _ => have h0 := hz 0 (by omega); simp only [Mass.at] at h h0; simp [nzK, h, h0]
  | 2, _ => have h0 := hz 0 (by omega); have h1 := hz 1 (by omega); simp only [Mass.at] at h h0 h1; simp [nzK, h, h0, h1]
  | 3, _ => have h0 := hz 0 (by omega); have h1 := hz 1 (by omega); have h2 := hz 2 (by omega); simp only [Mass.at] at h h0 h1 h2; simp [nzK, h, h0, h1, h2]
theorem nzK_zero {m : Mass} (h : ∀ j, j < 4 → m.at j = 0) : nzK m = none := by
  have h0 := h 0 (by omega); have h1 := h 1 (by omega); have h2 := h 2 (by omega); have h3 := h 3 (by omega)
  simp only [Mass.at] at h0 h1 h2 h3
  simp [nzK, h0, h1, h2, h3]
theorem nzK_some {m : Mass} {k : Nat} (h : nzK m = some k) : k < 4 ∧ m.at k ≠ 0 := by
  unfold nzK at h
  repeat' split at h
  all_goals first | (cases h; done) | (cases h; exact ⟨by omega, by simp_all [Mass.at]⟩)
/-- What proves that there is no balance, if it is part k. -/
def provAt (rt : Int → Int) (fs : List FlowD) (n k : Nat) : Option (List Int × Nat) :=
  if isLead rt n k = true then (nzK (excM (clsN rt k n) fs)).map fun j => (clsN rt k n, j) else none
def provF (rt : Int → Int) (fs : List FlowD) (n : Nat) : Nat → Nat → Option (List Int × Nat)
  | 0, _ => none
  | c + 1, k => match provAt rt fs n k with
    | some p => some p
    | none => provF rt fs n c (k + 1)
theorem provF_none {rt : Int → Int} {fs : List FlowD} {n : Nat} : ∀ {c k : Nat}, (∀ j, k ≤ j → j < k + c → provAt rt fs n j = none) → provF rt fs n c k = none
  | 0, _, _ => rfl
  | c + 1, k, h => by
    unfold provF
    rw [h k (Nat.le_refl _) (by omega)]
    exact provF_none fun j h1 h2 => h j (by omega) (by omega)
theorem provF_at {rt : Int → Int} {fs : List FlowD} {n : Nat} {p : List Int × Nat} : ∀ {c i k : Nat}, (∀ j, i ≤ j → j < k → provAt rt fs n j = none) → i ≤ k → k < i + c → provAt rt fs n k = some p → provF rt fs n c i = some p
  | 0, _, _, _, h1, h2, _ => by omega
  | c + 1, i, k, h, h1, h2, hp => by
    unfold provF
    by_cases e : i = k
    · subst e; rw [hp]
    · rw [h i (Nat.le_refl _) (by omega)]
      exact provF_at (fun j a b => h j (by omega) b) (by omega) (by omega) hp
theorem provF_some {rt : Int → Int} {fs : List FlowD} {n : Nat} {p : List Int × Nat} : ∀ {c i : Nat}, provF rt fs n c i = some p → ∃ k, k < i + c ∧ provAt rt fs n k = some p
  | 0, _, h => by cases h
  | c + 1, i, h => by
    unfold provF at h
    split at h
    · rename_i q hq; cases h; exact ⟨i, by omega, hq⟩
    · obtain ⟨k, h1, h2⟩ := provF_some h; exact ⟨k, by omega, h2⟩
/-- What is found: units, kind and error. -/
def proveR (u : Int) (fs : List FlowD) : List Int × Int × Int :=
  if checkErr u fs ≠ 0 then ([], 0, checkErr u fs) else match provF (rtF (-1) fs 0 id) fs u.toNat u.toNat 0 with
    | some p => (p.1, p.2, 0)
    | none => ([], 0, 5)
def leakB (xs : List Int) (f : FlowD) : Bool := !f.me && (decide (f.fr ∈ xs) != decide (f.to ∈ xs))
def refutesR (u : Int) (fs : List FlowD) (xs : List Int) (kind : Int) : Int :=
  if unitsErr u fs xs ≠ 0 then unitsErr u fs xs else if kind < 0 ∨ 4 ≤ kind then 18 else if (excM xs fs).at kind.toNat = 0 ∨ fs.any (leakB xs) = true then 11 else 0
theorem uni_same {rt : Int → Int} {a b x y : Int} (h : rt x = rt y) : uni rt a b x = uni rt a b y := by
  unfold uni
  split
  · exact h
  · simp only [h]
theorem uni_ends (rt : Int → Int) (a b : Int) : uni rt a b a = uni rt a b b := by
  unfold uni
  by_cases h : rt a = rt b
  · rw [if_pos h]; exact h
  · rw [if_neg h]
    simp only [if_true]
    rw [if_neg (fun q => h q.symm)]
theorem rtF_same (lo : Int) {x y : Int} : ∀ (fs : List FlowD) (i : Nat) (rt : Int → Int), rt x = rt y → rtF lo fs i rt x = rtF lo fs i rt y
  | [], _, _, h => h
  | f :: r, i, rt, h => by
    unfold rtF
    refine rtF_same lo r (i + 1) _ ?_
    split
    · exact uni_same h
    · exact h
theorem rtF_ends (lo : Int) : ∀ (fs : List FlowD) (i : Nat) (rt : Int → Int) (k : Nat) (f : FlowD), fs[k]? = some f → f.me = false → ((i + k : Nat) : Int) ≠ lo → rtF lo fs i rt f.fr = rtF lo fs i rt f.to
  | [], _, _, _, _, h, _, _ => by simp at h
  | g :: r, i, rt, 0, f, h, hm, hl => by
    simp at h; subst h
    unfold rtF
    rw [if_pos ⟨hm, hl⟩]
    exact rtF_same lo r (i + 1) _ (uni_ends rt g.fr g.to)
  | g :: r, i, rt, k + 1, f, h, hm, hl => by
    unfold rtF
    exact rtF_ends lo r (i + 1) _ k f (by simpa using h) hm (by rw [show i + 1 + k = i + (k + 1) by omega]; exact hl)
theorem cls_no_leak {fs : List FlowD} {n k : Nat} (hk : k < n) (hL : isLead (rtF (-1) fs 0 id) n k = true) (hf : ∀ f ∈ fs, (-1 ≤ f.fr ∧ f.fr < n) ∧ (-1 ≤ f.to ∧ f.to < n)) : fs.any (leakB (clsN (rtF (-1) fs 0 id) k n)) = false := by
  rw [List.any_eq_false]
  intro f hfm
  obtain ⟨i, hi⟩ := List.getElem?_of_mem hfm
  unfold leakB
  cases hm : f.me with
  | true => simp
  | false =>
    have he := rtF_ends (-1) fs 0 id i f hi hm (by omega)
    have key : ∀ x : Int, -1 ≤ x → x < n → (x ∈ clsN (rtF (-1) fs 0 id) k n ↔ rtF (-1) fs 0 id x = rtF (-1) fs 0 id k) := fun x h1 h2 => by
      by_cases h0 : x = -1
      · subst h0
        simp only [isLead, Bool.and_eq_true, Bool.not_eq_true', decide_eq_false_iff_not] at hL
        constructor
        · intro h
          unfold clsN at h
          obtain ⟨y, _, e⟩ := List.mem_map.1 h
          omega
        · intro h; exact absurd h.symm hL.2
      · obtain ⟨y, rfl⟩ : ∃ y : Nat, x = y := ⟨x.toNat, by omega⟩
        exact mem_cls (by omega)
    obtain ⟨⟨a, b⟩, c, d⟩ := hf f hfm
    have h1 := key f.fr a b
    have h2 := key f.to c d
    rw [he] at h1
    simp [h1, h2]
theorem clsN_sorted (rt : Int → Int) (k n : Nat) : (clsN rt k n).Pairwise (· < ·) := by
  unfold clsN
  rw [List.pairwise_map]
  exact (List.pairwise_lt_range.filter _).imp fun h => by omega
theorem cls_units {u : Int} {fs : List FlowD} {n k : Nat} {rt : Int → Int} (hu : u = n) (hc : checkErr u fs = 0) (hk : k < n) : unitsErr u fs (clsN rt k n) = 0 := by
  unfold unitsErr
  rw [if_neg (by omega), if_neg (by have := cls_self rt hk; intro h; exact this (List.eq_nil_of_length_eq_zero h))]
  refine firstNZ_zero fun j _ hj => ?_
  rw [Nat.zero_add] at hj
  unfold unitAt
  have hg : (clsN rt k n).getD j 0 = (clsN rt k n)[j] := by rw [List.getD_eq_getElem?_getD, List.getElem?_eq_getElem hj]; rfl
  have hb : unitB u ((clsN rt k n)[j]) = true := by
    have := List.getElem_mem hj
    unfold clsN at this
    obtain ⟨y, hy, e⟩ := List.mem_map.1 this
    have hy := List.mem_range.1 (List.mem_filter.1 hy).1
    unfold unitB
    simp only [Bool.and_eq_true, decide_eq_true_eq]
    change (y : Int) = (clsN rt k n)[j] at e
    omega
  rw [hg, hb]
  simp only [Bool.not_true, Bool.false_eq_true, if_false]
  rw [if_neg]
  rintro ⟨h0, hle⟩
  have hj1 : j - 1 < (clsN rt k n).length := by omega
  have hg1 : (clsN rt k n).getD (j - 1) 0 = (clsN rt k n)[j - 1] := by rw [List.getD_eq_getElem?_getD, List.getElem?_eq_getElem hj1]; rfl
  rw [hg1] at hle
  have := List.pairwise_iff_getElem.1 (clsN_sorted rt k n) (j - 1) j hj1 hj (by omega)
  omega
theorem prove_refutes {u : Int} {fs : List FlowD} (h : (proveR u fs).2.2 = 0) : refutesR u fs (proveR u fs).1 (proveR u fs).2.1 = 0 := by
  unfold proveR at h ⊢
  by_cases hc : checkErr u fs = 0
  · obtain ⟨hu1, hu2, _, _⟩ := checkErr_ok hc
    obtain ⟨n, rfl⟩ : ∃ n : Nat, u = n := ⟨u.toNat, by omega⟩
    rw [if_neg (by simp [hc])] at h ⊢
    rw [show (n : Int).toNat = n from rfl] at *
    cases hp : provF (rtF (-1) fs 0 id) fs n n 0 with
    | none => rw [hp] at h; cases h
    | some p =>
      obtain ⟨k, hk, hat⟩ := provF_some hp
      rw [Nat.zero_add] at hk
      unfold provAt at hat
      split at hat
      · rename_i hL
        cases hz : nzK (excM (clsN (rtF (-1) fs 0 id) k n) fs) with
        | none => rw [hz] at hat; cases hat
        | some j =>
          rw [hz] at hat
          simp at hat
          subst hat
          obtain ⟨h1, h2⟩ := nzK_some hz
          unfold refutesR
          simp only []
          rw [cls_units rfl hc hk, if_neg (by simp), if_neg (by omega), if_neg]
          rintro (h3 | h3)
          · exact h2 (by simpa using h3)
          · rw [cls_no_leak hk hL (ends_in hc)] at h3; cases h3
      · cases hat
  · rw [if_pos (by simp [hc])] at h
    exact absurd h hc
end Go.Proofs.Ytifkpaomhnlahaa
