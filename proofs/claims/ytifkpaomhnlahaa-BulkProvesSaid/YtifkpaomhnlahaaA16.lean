/-
  Heads and roots say the same of what is joined. It holds with no condition but those that are written in each theorem.
-/
import Derived.Test.YtifkpaomhnlahaaA15
namespace Go.Proofs.Ytifkpaomhnlahaa
open Go Kern
def Same (n : Nat) (rt : Int → Int) (h : Nat → Int) : Prop :=
  (∀ i, i ≤ n → 0 ≤ h i ∧ h i ≤ i ∧ h (h i).toNat = h i) ∧ ∀ i j, i ≤ n → j ≤ n → (h i = h j ↔ rt ((i : Int) - 1) = rt ((j : Int) - 1))
theorem Same.init (n : Nat) : Same n id fun x => x :=
  ⟨fun i hi => ⟨by dsimp only; omega, by dsimp only; omega, by dsimp only; omega⟩, fun i j _ _ => by simp only [id]; omega⟩
theorem Same.step {n : Nat} {rt : Int → Int} {h : Nat → Int} (hs : Same n rt h) {x y : Int} (hx : -1 ≤ x ∧ x < n) (hy : -1 ≤ y ∧ y < n) : Same n (uni rt x y) (relab h (h (x + 1).toNat) (h (y + 1).toNat)) := by
  obtain ⟨h1, h2⟩ := hs
  have px : (x + 1).toNat ≤ n := by omega
  have py : (y + 1).toNat ≤ n := by omega
  have ex : (((x + 1).toNat : Nat) : Int) - 1 = x := by omega
  have ey : (((y + 1).toNat : Nat) : Int) - 1 = y := by omega
  have hab := h2 _ _ px py
  rw [ex, ey] at hab
  have ha := h1 _ px
  have hb := h1 _ py
  have ca : ∀ i, i ≤ n → (h i = h (x + 1).toNat ↔ rt ((i : Int) - 1) = rt x) := fun i hi => by have := h2 i _ hi px; rw [ex] at this; exact this
  have cb : ∀ i, i ≤ n → (h i = h (y + 1).toNat ↔ rt ((i : Int) - 1) = rt y) := fun i hi => by have := h2 i _ hi py; rw [ey] at this; exact this
  generalize h (x + 1).toNat = A at *
  generalize h (y + 1).toNat = B at *
  unfold uni relab
  by_cases hr : rt x = rt y
  · have hAB : A = B := hab.2 hr
    subst hAB
    rw [if_pos hr]
    have hid : (fun z => if h z = max A A then min A A else h z) = h := by funext z; by_cases e : h z = A <;> simp [e]
    rw [hid]
    exact ⟨h1, h2⟩
  · have hAB : A ≠ B := fun e => hr (hab.1 e)
    rw [if_neg hr]
    refine ⟨fun i hi => ?_, fun i j hi hj => ?_⟩
    · obtain ⟨b1, b2, b3⟩ := h1 i hi
      by_cases e : h i = max A B
      · simp only [e, if_true]
        refine ⟨by omega, by omega, ?_⟩
        have hm : h (min A B).toNat = min A B := by
          by_cases q : A ≤ B
          · rw [show min A B = A by omega]; exact ha.2.2
          · rw [show min A B = B by omega]; exact hb.2.2
        rw [hm, if_neg (by omega)]
      · simp only [e, if_false]
        exact ⟨b1, b2, by rw [b3, if_neg e]⟩
    · have hij := h2 i j hi hj
      have ci := ca i hi
      have cj := ca j hj
      have di := cb i hi
      have dj := cb j hj
      have hry : rt y ≠ rt x := fun e => hr e.symm
      by_cases i1 : rt ((i : Int) - 1) = rt x
      · have hi1 := ci.2 i1
        by_cases j1 : rt ((j : Int) - 1) = rt x
        · have hj1 := cj.2 j1
          simp [i1, j1, hi1, hj1]
        · have hj1 : h j ≠ A := fun e => j1 (cj.1 e)
          by_cases j2 : rt ((j : Int) - 1) = rt y
          · have hj2 := dj.2 j2
            simp only [i1, if_true, j2, hry, if_false, hi1, hj2, iff_true]
            by_cases q : A ≤ B
            · rw [if_neg (by omega), if_pos (by omega)]; omega
            · rw [if_pos (by omega), if_neg (by omega)]; omega
          · have hj2 : h j ≠ B := fun e => j2 (dj.1 e)
            simp only [i1, if_true, j1, if_false, hi1]
            rw [if_neg (show ¬ h j = max A B by omega)]
            constructor
            · intro e; split at e <;> omega
            · intro e; exact absurd e.symm j2
      · have hi1 : h i ≠ A := fun e => i1 (ci.1 e)
        by_cases i2 : rt ((i : Int) - 1) = rt y
        · have hi2 := di.2 i2
          by_cases j1 : rt ((j : Int) - 1) = rt x
          · have hj1 := cj.2 j1
            simp only [i2, hry, if_false, j1, if_true, hi2, hj1, iff_true]
            by_cases q : A ≤ B
            · rw [if_pos (by omega), if_neg (by omega)]; omega
            · rw [if_neg (by omega), if_pos (by omega)]; omega
          · have hj1 : h j ≠ A := fun e => j1 (cj.1 e)
            by_cases j2 : rt ((j : Int) - 1) = rt y
            · have hj2 := dj.2 j2
              simp [i2, j2, hi2, hj2]
            · have hj2 : h j ≠ B := fun e => j2 (dj.1 e)
              simp only [i2, hry, if_false, j1, hi2]
              rw [if_neg (show ¬ h j = max A B by omega)]
              constructor
              · intro e; split at e <;> omega
              · intro e; exact absurd e.symm j2
        · have hi2 : h i ≠ B := fun e => i2 (di.1 e)
          simp only [i1, if_false]
          rw [if_neg (show ¬ h i = max A B by omega)]
          by_cases j1 : rt ((j : Int) - 1) = rt x
          · have hj1 := cj.2 j1
            simp only [j1, if_true, hj1]
            constructor
            · intro e; split at e <;> omega
            · intro e; exact absurd e i2
          · have hj1 : h j ≠ A := fun e => j1 (cj.1 e)
            simp only [j1, if_false]
            by_cases j2 : rt ((j : Int) - 1) = rt y
            · have hj2 := dj.2 j2
              rw [hj2]
              constructor
              · intro e; split at e <;> omega
              · intro e; exact absurd (e.trans j2) i2
            · have hj2 : h j ≠ B := fun e => j2 (dj.1 e)
              rw [if_neg (show ¬ h j = max A B by omega)]
              exact hij
theorem Same.flows {n : Nat} {lo : Int} : ∀ {fs : List FlowD} {i : Nat} {rt : Int → Int} {h : Nat → Int}, Same n rt h → (∀ f ∈ fs, (-1 ≤ f.fr ∧ f.fr < n) ∧ (-1 ≤ f.to ∧ f.to < n)) → Same n (rtF lo fs i rt) (labF lo fs i h)
  | [], _, _, _, hs, _ => hs
  | f :: r, i, rt, h, hs, hf => by
    have h0 := hf f (.head _)
    show Same n (rtF lo r (i + 1) _) (labF lo r (i + 1) _)
    refine Same.flows ?_ fun g hg => hf g (.tail _ hg)
    unfold labStep
    by_cases hm : f.me = false ∧ (i : Int) ≠ lo
    · rw [if_pos hm, if_neg (by rw [hm.1]; simp; exact hm.2)]
      exact hs.step h0.1 h0.2
    · rw [if_neg hm, if_pos (by cases hme : f.me <;> simp_all)]
      exact hs
def refO (L : Nat → Int) : Nat → List Int × Int
  | 0 => ([], 0)
  | x + 1 => if L (x + 1) = 0 then ((refO L x).1 ++ [-1], (refO L x).2) else if L (x + 1) = (x : Int) + 1 then ((refO L x).1 ++ [(refO L x).2], (refO L x).2 + 1) else ((refO L x).1 ++ [(refO L x).1.getD (L (x + 1) - 1).toNat 0], (refO L x).2)
theorem refO_length (L : Nat → Int) : ∀ k, (refO L k).1.length = k
  | 0 => rfl
  | k + 1 => by
    unfold refO
    split
    · simp [refO_length L k]
    · split <;> simp [refO_length L k]
theorem isLead_of {rt : Int → Int} {n k : Nat} (hk : k < n) (h : ∀ l : Nat, l < k → rt l ≠ rt k) (ho : rt k ≠ rt (-1)) : isLead rt n k = true := by
  unfold isLead
  rw [Bool.and_eq_true, decide_eq_true_eq]
  refine ⟨?_, by simpa using ho⟩
  unfold clsN
  have hsplit : List.range n = List.range k ++ k :: (List.range n).drop (k + 1) := by
    have h1 : (List.range n).drop k = k :: (List.range n).drop (k + 1) := by
      rw [List.drop_eq_getElem_cons (by simpa using hk)]
      simp
    rw [← h1]
    have h2 : List.range k = (List.range n).take k := by rw [List.take_range, show min k n = k by omega]
    rw [h2, List.take_append_drop]
  rw [hsplit, List.filter_append]
  have : (List.range k).filter (fun x : Nat => decide (rt x = rt k)) = [] := by
    rw [List.filter_eq_nil_iff]
    intro l hl
    simpa using h l (by simpa using hl)
  rw [this]
  simp
theorem refO_parts {n : Nat} {rt : Int → Int} {L : Nat → Int} (hs : Same n rt L) : ∀ k, k ≤ n → (refO L k).1 = (List.range k).map (partAt rt n k) ∧ (refO L k).2 = (leads rt n k).length
  | 0, _ => ⟨rfl, rfl⟩
  | k + 1, hk => by
    obtain ⟨ih1, ih2⟩ := refO_parts hs k (by omega)
    obtain ⟨h1, h2⟩ := hs
    have c := h1 (k + 1) hk
    have cst : ∀ l : Nat, l < n → ((L (l + 1) = L (k + 1)) ↔ rt l = rt k) := fun l hl => by
      have := h2 (l + 1) (k + 1) (by omega) hk
      rw [show (((l + 1 : Nat) : Int) - 1) = l by omega, show (((k + 1 : Nat) : Int) - 1) = k by omega] at this
      exact this
    have cout : (L (k + 1) = 0) ↔ rt k = rt (-1) := by
      have h0 := h1 0 (by omega)
      have hz : L 0 = 0 := by omega
      have := h2 (k + 1) 0 hk (by omega)
      rw [show (((k + 1 : Nat) : Int) - 1) = k by omega, hz] at this
      simpa using this
    have hstay : isLead rt n k = false → (List.range (k + 1)).map (partAt rt n (k + 1)) = (List.range k).map (partAt rt n k) ++ [partAt rt n k k] := fun hL => by
      have hp : partAt rt n (k + 1) = partAt rt n k := by funext x; unfold partAt; rw [leads_succ, hL]; rfl
      rw [List.range_succ, List.map_append, hp]; rfl
    unfold refO
    by_cases e0 : L (k + 1) = 0
    · rw [if_pos e0]
      have hL : isLead rt n k = false := by unfold isLead; simp [cout.1 e0]
      refine ⟨?_, by rw [leads_succ, hL]; exact ih2⟩
      rw [hstay hL]
      dsimp only
      rw [ih1]
      congr 2
      unfold partAt
      refine (idxR_none _ fun l hl e => ?_).symm
      obtain ⟨_, hl2⟩ := mem_leads.1 hl
      simp only [isLead, Bool.and_eq_true, Bool.not_eq_true', decide_eq_false_iff_not] at hl2
      exact hl2.2 (e.trans (cout.1 e0))
    · rw [if_neg e0]
      by_cases e1 : L (k + 1) = (k : Int) + 1
      · rw [if_pos e1]
        have hfirst : ∀ l : Nat, l < k → rt l ≠ rt k := fun l hl e => by
          have := (cst l (by omega)).2 e
          have := (h1 (l + 1) (by omega)).2.1
          omega
        have hL := isLead_of (n := n) (by omega) hfirst (fun e => e0 (cout.2 e))
        refine ⟨?_, by rw [leads_succ, hL]; simp [ih2]⟩
        rw [List.range_succ, List.map_append]
        dsimp only
        rw [ih1]
        congr 1
        · apply List.map_congr_left
          intro x hx
          have hxk : x < k := by simpa using hx
          unfold partAt
          rw [leads_succ, if_pos hL, idxR_append]
          by_cases h : ∃ l ∈ leads rt n k, rt l = rt x
          · rw [if_pos h]
          · rw [if_neg h, if_neg (fun q => hfirst x hxk q.symm)]
            exact idxR_none _ fun l hl e => h ⟨l, hl, e⟩
        · show [(refO L k).2] = [partAt rt n (k + 1) k]
          unfold partAt
          rw [leads_succ, if_pos hL, idxR_append, if_neg, if_pos rfl, ih2, Int.zero_add]
          rintro ⟨l, hl, e⟩
          exact hfirst l (mem_leads.1 hl).1 e
      · rw [if_neg e1]
        have hl1 : (L (k + 1) - 1).toNat < k := by have := c.2.1; push_cast at this; omega
        have hmem : rt ((L (k + 1) - 1).toNat : Int) = rt k := by
          refine (cst _ (by omega)).1 ?_
          rw [show (L (k + 1) - 1).toNat + 1 = (L (k + 1)).toNat by omega]
          exact c.2.2
        have hL : isLead rt n k = false := by
          cases hb : isLead rt n k with
          | false => rfl
          | true => exact absurd hmem (clsN_first hb hl1 (by omega))
        refine ⟨?_, by rw [leads_succ, hL]; exact ih2⟩
        rw [hstay hL]
        dsimp only
        rw [ih1]
        congr 2
        have : ((List.range k).map (partAt rt n k)).getD (L (k + 1) - 1).toNat 0 = partAt rt n k (L (k + 1) - 1).toNat := by rw [List.getD_eq_getElem?_getD, List.getElem?_map, List.getElem?_range hl1]; rfl
        rw [this]
        unfold partAt
        rw [hmem]
theorem refO_eq {n : Nat} {fs : List FlowD} {lo : Int} (hf : ∀ f ∈ fs, (-1 ≤ f.fr ∧ f.fr < n) ∧ (-1 ≤ f.to ∧ f.to < n)) : (refO (labF lo fs 0 fun x => x) n).1 = partL (rtF lo fs 0 id) n n :=
  (refO_parts (Same.flows (Same.init n) hf) n (Nat.le_refl _)).1
end Go.Proofs.Ytifkpaomhnlahaa
