/-
  Parts answers as stated, for every plant. It holds with no condition but those that are written in each theorem.
-/
import Derived.Test.YtifkpaomhnlahaaA12
namespace Go.Proofs.Ytifkpaomhnlahaa
open Go Kern
set_option maxRecDepth 100000 in
theorem parts_ev (u : Int) (v : Value) (s : St) : Ev TT 38 [plantV u v] s fun r s' => Keep s s' ∧ ∃ bp, r = .func (.func 59) #[] #[.pointer (some ⟨bp, 0, none⟩)] ∧ s.next ≤ bp ∧ bp < s'.next ∧ s'.heap.get bp = some (.cells [.int .i64 u, v] none) := by
  unfold plantV
  refine Ev.intro (fn := Try.f38) rfl (by kernel_rfl) rfl rfl ?_
  with_reducible repeat first|apply Z0|apply Z1|apply Z2|apply Z3|apply Z4|apply Z5|refine Z6 rfl ?_|apply Z7|apply Z8|apply Z9|apply Z10|apply Z11|apply Z12|apply Z13|apply Z14|apply Z15|apply Z16
  with_reducible repeat first|apply Z0|apply Z1|apply Z2|apply Z3|apply Z4|apply Z5|refine Z6 rfl ?_|apply Z7|apply Z8|apply Z9|apply Z10|apply Z11|apply Z12|apply Z13|apply Z14|apply Z15|apply Z16
  refine Cd.reg (by kernel_rfl) (by conv => lhs; simp only [List.map_cons, List.map_nil]) (by conv => lhs; simp only [List.map_cons, List.map_nil, strip]) ?_
  apply Run.by_eq
  · intro self
    conv => lhs; simp -implicitDefEqProofs (maxSteps := 300000) (disch := omega) [-getElem?_pos, -getElem?_neg]
  try (with_reducible refine Run.ret ?_)
  with_reducible repeat first|apply Z0|apply Z1|apply Z2|apply Z3|apply Z4|apply Z5|refine Z6 rfl ?_|apply Z7|apply Z8|apply Z9|apply Z10|apply Z11|apply Z12|apply Z13|apply Z14|apply Z15|apply Z16
  with_reducible repeat first|apply Z0|apply Z1|apply Z2|apply Z3|apply Z4|apply Z5|refine Z6 rfl ?_|apply Z7|apply Z8|apply Z9|apply Z10|apply Z11|apply Z12|apply Z13|apply Z14|apply Z15|apply Z16
  refine Cd.reg (by kernel_rfl) (by conv => lhs; simp only [List.map_cons, List.map_nil]) (by conv => lhs; simp only [List.map_cons, List.map_nil, strip]) ?_
  apply Run.by_eq
  · intro self
    conv => lhs; simp -implicitDefEqProofs (maxSteps := 300000) (disch := omega) [-getElem?_pos, -getElem?_neg]
  try (with_reducible refine Run.ret ?_)
  with_reducible repeat first|apply Z0|apply Z1|apply Z2|apply Z3|apply Z4|apply Z5|refine Z6 rfl ?_|apply Z7|apply Z8|apply Z9|apply Z10|apply Z11|apply Z12|apply Z13|apply Z14|apply Z15|apply Z16
  apply Leave.mk (by first | exact .inl rfl | exact .inr rfl) (by simp only [Fr.marks_put, fr0_marks])
  · conv => lhs; simp -implicitDefEqProofs (disch := omega) [Try.results38]
  exact ⟨(Keep.refl _).pushed _, s.next, rfl, Nat.le_refl _, by simp, by simp⟩
def idxR (rt : Int → Int) (r : Int) : List Nat → Int → Int
  | [], _ => -1
  | l :: t, i => if rt l = r then i else idxR rt r t (i + 1)
def partAt (rt : Int → Int) (n k x : Nat) : Int := idxR rt (rt x) (leads rt n k) 0
def partL (rt : Int → Int) (n k : Nat) : List Int := (List.range n).map (partAt rt n k)
theorem idxR_none {rt : Int → Int} {r : Int} : ∀ {L : List Nat} (i : Int), (∀ l ∈ L, rt l ≠ r) → idxR rt r L i = -1
  | [], _, _ => rfl
  | l :: t, i, h => by
    simp only [idxR, if_neg (h l (.head _))]
    exact idxR_none (i + 1) fun l hl => h l (.tail _ hl)
theorem idxR_append {rt : Int → Int} {r : Int} {k : Nat} : ∀ {L : List Nat} (i : Int), idxR rt r (L ++ [k]) i = if (∃ l ∈ L, rt l = r) then idxR rt r L i else if rt k = r then i + L.length else -1
  | [], i => by simp [idxR]
  | l :: t, i => by
    by_cases h : rt l = r
    · simp [idxR, h]
    · simp only [List.cons_append, idxR, if_neg h, idxR_append (L := t) (i + 1)]
      have e : (∃ x ∈ l :: t, rt x = r) ↔ ∃ x ∈ t, rt x = r := by simp [h]
      simp only [e, List.length_cons]
      by_cases h2 : ∃ x ∈ t, rt x = r
      · rw [if_pos h2, if_pos h2]
      · rw [if_neg h2, if_neg h2]
        by_cases h3 : rt k = r
        · rw [if_pos h3, if_pos h3]; push_cast; omega
        · rw [if_neg h3, if_neg h3]
theorem clsN_first {rt : Int → Int} {n k l : Nat} (h : isLead rt n k = true) (hl : l < k) (hk : k < n) : rt l ≠ rt k := by
  intro e
  simp only [isLead, Bool.and_eq_true, decide_eq_true_eq] at h
  obtain ⟨h1, _⟩ := h
  unfold clsN at h1
  have hsplit : List.range n = List.range (l + 1) ++ (List.range n).drop (l + 1) := by
    rw [← List.take_append_drop (l + 1) (List.range n), List.take_range]
    simp [show min (l + 1) n = l + 1 by omega]
  rw [hsplit, List.filter_append, List.map_append, List.head?_append] at h1
  have hmem : (l : Int) ∈ ((List.range (l + 1)).filter fun x : Nat => decide (rt x = rt k)).map fun x : Nat => (x : Int) := List.mem_map.2 ⟨l, by simp [e], rfl⟩
  cases hc : ((List.range (l + 1)).filter fun x : Nat => decide (rt x = rt k)).map (fun x : Nat => (x : Int)) with
  | nil => rw [hc] at hmem; cases hmem
  | cons a t =>
    rw [hc] at h1
    simp at h1
    have ha : a ∈ ((List.range (l + 1)).filter fun x : Nat => decide (rt x = rt k)).map (fun x : Nat => (x : Int)) := by rw [hc]; exact .head _
    obtain ⟨y, hy, rfl⟩ := List.mem_map.1 ha
    have := List.mem_range.1 (List.mem_filter.1 hy).1
    omega
theorem mem_leads {rt : Int → Int} {n k l : Nat} : l ∈ leads rt n k ↔ l < k ∧ isLead rt n l = true := by unfold leads; simp
theorem mem_cls {rt : Int → Int} {n k : Nat} {x : Nat} (hx : x < n) : (x : Int) ∈ clsN rt k n ↔ rt x = rt k := by
  unfold clsN
  constructor
  · intro h
    obtain ⟨y, hy, e⟩ := List.mem_map.1 h
    have : y = x := by omega
    subst this
    simpa using (List.mem_filter.1 hy).2
  · intro h
    exact List.mem_map.2 ⟨x, by simp [hx, h], rfl⟩
theorem partL_lead {rt : Int → Int} {n k : Nat} (hk : k < n) (h : isLead rt n k = true) : (List.range n).map (fun x : Nat => if (x : Int) ∈ clsN rt k n then ((leads rt n k).length : Int) else partAt rt n k x) = partL rt n (k + 1) := by
  unfold partL
  apply List.map_congr_left
  intro x hx
  have hxn : x < n := by simpa using hx
  unfold partAt
  rw [leads_succ, if_pos h, idxR_append, Int.zero_add]
  simp only [mem_cls hxn]
  by_cases e : rt x = rt k
  · rw [if_pos e, if_neg, if_pos e.symm]
    rintro ⟨l, hl, e2⟩
    obtain ⟨hl1, _⟩ := mem_leads.1 hl
    exact clsN_first h hl1 hk (e2.trans e)
  · rw [if_neg e]
    by_cases h2 : ∃ l ∈ leads rt n k, rt l = rt x
    · rw [if_pos h2]
    · rw [if_neg h2, if_neg (fun q => e q.symm)]
      exact idxR_none _ fun l hl e2 => h2 ⟨l, hl, e2⟩
theorem partL_skip {rt : Int → Int} {n k : Nat} (h : isLead rt n k = false) : partL rt n (k + 1) = partL rt n k := by
  unfold partL partAt
  rw [leads_succ, if_neg (by rw [h]; decide)]
theorem partL_zero (rt : Int → Int) (n : Nat) : partL rt n 0 = List.replicate n (-1) := by
  apply List.ext_getElem?
  intro i
  by_cases h : i < n <;> simp [partL, partAt, leads, idxR, h]
theorem Fr.get_mk (f : Fr) (m : List Nat) (t : Tmp) : Fr.get ⟨f.tmps, m⟩ t = f.get t := rfl
theorem ints_of_cells {s : St} {b c : Nat} {xs : List Int} {g : Option Nat} (h2 : b < s.next) (h3 : s.heap.get b = some (.cells (xs.map (Value.int .i64)) g)) : IntsAt s (.slice (some ⟨b, 0, none⟩) xs.length c) xs := by
  have := SlAt.mk (n := 1) (s := s) (off := 0) (c := c) (l := xs.map fun x => [.int .i64 x]) h2 h3 rfl (fun i e he => ?_)
  · rw [List.length_map] at this; exact this
  · rw [List.getElem?_map] at he
    cases hb : xs[i]? with
    | none => rw [hb] at he; cases he
    | some y =>
      rw [hb] at he; cases he
      rw [Nat.zero_add, Nat.mul_one]
      have hd : (xs.map (Value.int .i64)).drop i = .int .i64 y :: (xs.map (Value.int .i64)).drop (i + 1) := by
        rw [List.drop_eq_getElem_cons (by simpa using (List.getElem?_eq_some_iff.1 hb).1)]
        have := (List.getElem?_eq_some_iff.1 hb).2
        simp [this]
      rw [hd]; rfl
theorem range_set {g h : Nat → Int} {n k : Nat} (hk : k < n) (ho : ∀ x, x < n → x ≠ k → h x = g x) {w : Int} (hw : w = h k) : ((List.range n).map fun x : Nat => Value.int .i64 (g x)).set k (.int .i64 w) = (List.range n).map fun x : Nat => Value.int .i64 (h x) := by
  subst hw
  apply List.ext_getElem?
  intro i
  rw [List.getElem?_set]
  by_cases e : k = i
  · subst e; simp [hk]
  · rw [if_neg e]
    by_cases hi : i < n
    · simp [hi, ho i hi (fun q => e q.symm)]
    · simp [hi]
def partsErrL (u : Int) (fs : List FlowD) : List Int := if checkErr u fs = 0 then partL (rtF (-1) fs 0 id) u.toNat u.toNat else []
set_option maxRecDepth 100000 in
set_option maxHeartbeats 4000000 in
theorem partsP_ev (u : Int) (v : Value) (fs : List FlowD) (s : St) (hf : FlAt s v fs) (hl : fs.length ≤ 1000000) :
    Ev TT 14 [plantV u v] s fun r s' => Keep s s' ∧ ∃ w, r = .tuple #[w, .int .i64 (checkErr u fs)] ∧ IntsAt s' w (partsErrL u fs) := by
  unfold plantV
  refine Ev.intro (fn := Try.f14) rfl (by kernel_rfl) rfl rfl ?_
  with_reducible repeat first|apply Z0|apply Z1|apply Z2|apply Z3|apply Z4|apply Z5|refine Z6 rfl ?_|apply Z7|apply Z8|apply Z9|apply Z10|apply Z11|apply Z12|apply Z13|apply Z14|apply Z15|apply Z16
  with_reducible repeat first|apply Z0|apply Z1|apply Z2|apply Z3|apply Z4|apply Z5|refine Z6 rfl ?_|apply Z7|apply Z8|apply Z9|apply Z10|apply Z11|apply Z12|apply Z13|apply Z14|apply Z15|apply Z16
  refine Cd.reg (by kernel_rfl) (by conv => lhs; simp only [List.map_cons, List.map_nil]) (by conv => lhs; simp only [List.map_cons, List.map_nil, strip]) ?_
  apply Run.by_eq
  · intro self
    conv => lhs; simp -implicitDefEqProofs (maxSteps := 300000) (disch := omega) [-getElem?_pos, -getElem?_neg]
  try (with_reducible refine Run.ret ?_)
  with_reducible repeat first|apply Z0|apply Z1|apply Z2|apply Z3|apply Z4|apply Z5|refine Z6 rfl ?_|apply Z7|apply Z8|apply Z9|apply Z10|apply Z11|apply Z12|apply Z13|apply Z14|apply Z15|apply Z16
  with_reducible repeat first|apply Z0|apply Z1|apply Z2|apply Z3|apply Z4|apply Z5|refine Z6 rfl ?_|apply Z7|apply Z8|apply Z9|apply Z10|apply Z11|apply Z12|apply Z13|apply Z14|apply Z15|apply Z16
  refine Cd.reg (by kernel_rfl) (by conv => lhs; simp only [List.map_cons, List.map_nil]) (by conv => lhs; simp only [List.map_cons, List.map_nil, strip]) ?_
  apply Run.by_eq
  · intro self
    conv => lhs; simp -implicitDefEqProofs (maxSteps := 300000) (disch := omega) [-getElem?_pos, -getElem?_neg]
  try (with_reducible refine Run.ret ?_)
  with_reducible repeat first|apply Z0|apply Z1|apply Z2|apply Z3|apply Z4|apply Z5|refine Z6 rfl ?_|apply Z7|apply Z8|apply Z9|apply Z10|apply Z11|apply Z12|apply Z13|apply Z14|apply Z15|apply Z16
  refine Run.call ((check_ev u v fs _ (hf.keep ⟨by (try simp only [pushed_next', upded_next']); omega, fun i hi => by simp -implicitDefEqProofs (disch := omega) []⟩) hl).mono fun v wq hv => ?_)
  obtain ⟨rfl, q⟩ := hv
  have qa := q.1
  have qb := q.2
  try simp only [pushed_next', upded_next'] at qa qb
  apply Run.by_eq
  · intro self
    conv => lhs; simp -implicitDefEqProofs (maxSteps := 300000) (disch := omega) [-getElem?_pos, -getElem?_neg]
  try (with_reducible refine Run.ret ?_)
  with_reducible repeat first|apply Z0|apply Z1|apply Z2|apply Z3|apply Z4|apply Z5|refine Z6 rfl ?_|apply Z7|apply Z8|apply Z9|apply Z10|apply Z11|apply Z12|apply Z13|apply Z14|apply Z15|apply Z16
  with_reducible repeat first|apply Z0|apply Z1|apply Z2|apply Z3|apply Z4|apply Z5|refine Z6 rfl ?_|apply Z7|apply Z8|apply Z9|apply Z10|apply Z11|apply Z12|apply Z13|apply Z14|apply Z15|apply Z16
  refine Cd.reg (by kernel_rfl) (by conv => lhs; simp only [List.map_cons, List.map_nil]) (by conv => lhs; simp only [List.map_cons, List.map_nil, strip]) ?_
  apply Run.by_eq
  · intro self
    conv => lhs; simp -implicitDefEqProofs (maxSteps := 300000) (disch := omega) [-getElem?_pos, -getElem?_neg]
  try (with_reducible refine Run.ret ?_)
  with_reducible repeat first|apply Z0|apply Z1|apply Z2|apply Z3|apply Z4|apply Z5|refine Z6 rfl ?_|apply Z7|apply Z8|apply Z9|apply Z10|apply Z11|apply Z12|apply Z13|apply Z14|apply Z15|apply Z16
  with_reducible repeat first|apply Z0|apply Z1|apply Z2|apply Z3|apply Z4|apply Z5|refine Z6 rfl ?_|apply Z7|apply Z8|apply Z9|apply Z10|apply Z11|apply Z12|apply Z13|apply Z14|apply Z15|apply Z16
  apply Cd.ite rfl
  · conv => lhs; simp -implicitDefEqProofs (maxSteps := 300000) (disch := omega) [-getElem?_pos, -getElem?_neg]
  all_goals intro c0
  all_goals try (cases c0; done)
  all_goals try simp only [Bool.not_eq_true', Bool.not_eq_false', decide_eq_true_eq, decide_eq_false_iff_not] at c0
  all_goals with_reducible repeat first|apply Z0|apply Z1|apply Z2|apply Z3|apply Z4|apply Z5|refine Z6 rfl ?_|apply Z7|apply Z8|apply Z9|apply Z10|apply Z11|apply Z12|apply Z13|apply Z14|apply Z15|apply Z16
  · with_reducible repeat first|apply Z0|apply Z1|apply Z2|apply Z3|apply Z4|apply Z5|refine Z6 rfl ?_|apply Z7|apply Z8|apply Z9|apply Z10|apply Z11|apply Z12|apply Z13|apply Z14|apply Z15|apply Z16
    refine Cd.reg (by kernel_rfl) (by conv => lhs; simp only [List.map_cons, List.map_nil]) (by conv => lhs; simp only [List.map_cons, List.map_nil, strip]) ?_
    apply Run.by_eq
    · intro self
      conv => lhs; simp -implicitDefEqProofs (maxSteps := 300000) (disch := omega) [-getElem?_pos, -getElem?_neg]
    try (with_reducible refine Run.ret ?_)
    with_reducible repeat first|apply Z0|apply Z1|apply Z2|apply Z3|apply Z4|apply Z5|refine Z6 rfl ?_|apply Z7|apply Z8|apply Z9|apply Z10|apply Z11|apply Z12|apply Z13|apply Z14|apply Z15|apply Z16
    apply Leave.mk (by first | exact .inl rfl | exact .inr rfl) (by simp only [Fr.marks_put, fr0_marks])
    · conv => lhs; simp -implicitDefEqProofs (disch := omega) [Try.results14]
    refine ⟨⟨by (try simp only [pushed_next', upded_next']); omega, fun i hi => by simp -implicitDefEqProofs (disch := omega) [qb]⟩, _, rfl, ?_⟩
    unfold partsErrL; rw [if_neg c0]; exact .nil 0
  have hck : checkErr u fs = 0 := c0
  obtain ⟨hu1, hu2, hl20, _⟩ := checkErr_ok hck
  obtain ⟨n, hn⟩ : ∃ n : Nat, u = n := ⟨u.toNat, by omega⟩
  subst hn
  have hn8 : n ≤ 8 := by omega
  with_reducible repeat first|apply Z0|apply Z1|apply Z2|apply Z3|apply Z4|apply Z5|refine Z6 rfl ?_|apply Z7|apply Z8|apply Z9|apply Z10|apply Z11|apply Z12|apply Z13|apply Z14|apply Z15|apply Z16
  refine Cd.reg (by kernel_rfl) (by conv => lhs; simp only [List.map_cons, List.map_nil]) (by conv => lhs; simp only [List.map_cons, List.map_nil, strip]) ?_
  apply Run.by_eq
  · intro self
    conv => lhs; simp -implicitDefEqProofs (maxSteps := 300000) (disch := omega) [-getElem?_pos, -getElem?_neg, qb]
  try (with_reducible refine Run.ret ?_)
  with_reducible repeat first|apply Z0|apply Z1|apply Z2|apply Z3|apply Z4|apply Z5|refine Z6 rfl ?_|apply Z7|apply Z8|apply Z9|apply Z10|apply Z11|apply Z12|apply Z13|apply Z14|apply Z15|apply Z16
  with_reducible repeat first|apply Z0|apply Z1|apply Z2|apply Z3|apply Z4|apply Z5|refine Z6 rfl ?_|apply Z7|apply Z8|apply Z9|apply Z10|apply Z11|apply Z12|apply Z13|apply Z14|apply Z15|apply Z16
  refine Cd.reg (by kernel_rfl) (by conv => lhs; simp only [List.map_cons, List.map_nil]) (by conv => lhs; simp only [List.map_cons, List.map_nil, strip]) ?_
  apply Run.by_eq
  · intro self
    conv => lhs; simp -implicitDefEqProofs (maxSteps := 300000) (disch := omega) [-getElem?_pos, -getElem?_neg]
  try (with_reducible refine Run.ret ?_)
  with_reducible repeat first|apply Z0|apply Z1|apply Z2|apply Z3|apply Z4|apply Z5|refine Z6 rfl ?_|apply Z7|apply Z8|apply Z9|apply Z10|apply Z11|apply Z12|apply Z13|apply Z14|apply Z15|apply Z16
  refine Cd.inv (fun z f s' => ∃ k : Nat, k ≤ n ∧ z = n - k ∧ f.marks = [] ∧ f.get 21 = .int .i64 k ∧ f.get 20 = .int .i64 n ∧ f.get 1 = .pointer (some ⟨s.next, 0, none⟩) ∧ f.get 5 = .pointer (some ⟨wq.next + 1, 0, none⟩) ∧ Keep s s' ∧ wq.next + 1 < s'.next ∧ s'.heap.get s.next = some (.cells [.int .i64 n, v] none) ∧ s'.heap.get (wq.next + 1) = some (.cells [.slice (some ⟨wq.next, 0, none⟩) n n] none) ∧ s'.heap.get wq.next = some (.cells ((List.range n).map fun x : Nat => Value.int .i64 (if x < k then -1 else 0)) none)) n ?_ ?_
  · refine ⟨0, by omega, rfl, by simp, by simp, by simp, by simp, by simp, ⟨by (try simp only [pushed_next', upded_next']); omega, fun i hi => by simp -implicitDefEqProofs (disch := omega) [qb]⟩, by simp, ?_, ?_, ?_⟩
    · simp -implicitDefEqProofs (disch := omega) [qb]
    · simp -implicitDefEqProofs (disch := omega)
    · simp -implicitDefEqProofs (disch := omega) [repeatL_single]
      apply List.ext_getElem?
      intro i
      by_cases h : i < n <;> simp [h]
  rintro z f s' ⟨k, hk, rfl, hm, h21, h20, h1, h5, hkp, hnx, hg0, hg5, hgo⟩
  have hkpa := hkp.1
  have hkpb := hkp.2
  by_cases hlt : k < n
  · have hput := putL_set (Value.int .i64 (-1)) k ((List.range n).map fun x : Nat => Value.int .i64 (if x < k then -1 else 0)) (by simpa using hlt)
    rw [range_set (h := fun x => if x < k + 1 then -1 else 0) hlt (fun x _ hx => by by_cases e : x < k <;> simp [e] <;> omega) (by simp)] at hput
    with_reducible repeat first|apply Z0|apply Z1|apply Z2|apply Z3|apply Z4|apply Z5|refine Z6 rfl ?_|apply Z7|apply Z8|apply Z9|apply Z10|apply Z11|apply Z12|apply Z13|apply Z14|apply Z15|apply Z16
    refine Cd.reg (by kernel_rfl) (by conv => lhs; simp only [List.map_cons, List.map_nil]) (by conv => lhs; simp only [List.map_cons, List.map_nil, strip]) ?_
    apply Run.by_eq
    · intro self
      conv => lhs; simp -implicitDefEqProofs (maxSteps := 300000) (disch := omega) [-getElem?_pos, -getElem?_neg, h21, h20]
    try (with_reducible refine Run.ret ?_)
    with_reducible repeat first|apply Z0|apply Z1|apply Z2|apply Z3|apply Z4|apply Z5|refine Z6 rfl ?_|apply Z7|apply Z8|apply Z9|apply Z10|apply Z11|apply Z12|apply Z13|apply Z14|apply Z15|apply Z16
    with_reducible repeat first|apply Z0|apply Z1|apply Z2|apply Z3|apply Z4|apply Z5|refine Z6 rfl ?_|apply Z7|apply Z8|apply Z9|apply Z10|apply Z11|apply Z12|apply Z13|apply Z14|apply Z15|apply Z16
    apply Cd.ite rfl
    · conv => lhs; simp -implicitDefEqProofs (maxSteps := 300000) (disch := omega) [-getElem?_pos, -getElem?_neg]
    all_goals intro c1
    all_goals try (cases c1; done)
    all_goals try simp only [Bool.not_eq_true', Bool.not_eq_false', decide_eq_true_eq, decide_eq_false_iff_not] at c1
    all_goals with_reducible repeat first|apply Z0|apply Z1|apply Z2|apply Z3|apply Z4|apply Z5|refine Z6 rfl ?_|apply Z7|apply Z8|apply Z9|apply Z10|apply Z11|apply Z12|apply Z13|apply Z14|apply Z15|apply Z16
    · with_reducible repeat first|apply Z0|apply Z1|apply Z2|apply Z3|apply Z4|apply Z5|refine Z6 rfl ?_|apply Z7|apply Z8|apply Z9|apply Z10|apply Z11|apply Z12|apply Z13|apply Z14|apply Z15|apply Z16
      refine Cd.reg (by kernel_rfl) (by conv => lhs; simp only [List.map_cons, List.map_nil]) (by conv => lhs; simp only [List.map_cons, List.map_nil, strip]) ?_
      apply Run.by_eq
      · intro self
        conv => lhs; simp -implicitDefEqProofs (maxSteps := 300000) (disch := omega) [-getElem?_pos, -getElem?_neg, h21]
      try (with_reducible refine Run.ret ?_)
      with_reducible repeat first|apply Z0|apply Z1|apply Z2|apply Z3|apply Z4|apply Z5|refine Z6 rfl ?_|apply Z7|apply Z8|apply Z9|apply Z10|apply Z11|apply Z12|apply Z13|apply Z14|apply Z15|apply Z16
      with_reducible repeat first|apply Z0|apply Z1|apply Z2|apply Z3|apply Z4|apply Z5|refine Z6 rfl ?_|apply Z7|apply Z8|apply Z9|apply Z10|apply Z11|apply Z12|apply Z13|apply Z14|apply Z15|apply Z16
      refine Cd.reg (by kernel_rfl) (by conv => lhs; simp only [List.map_cons, List.map_nil]) (by conv => lhs; simp only [List.map_cons, List.map_nil, strip]) ?_
      apply Run.by_eq
      · intro self
        conv => lhs; simp -implicitDefEqProofs (maxSteps := 300000) (disch := omega) [-getElem?_pos, -getElem?_neg, h5, hg5, hgo, hlt, hput]
      try (with_reducible refine Run.ret ?_)
      with_reducible repeat first|apply Z0|apply Z1|apply Z2|apply Z3|apply Z4|apply Z5|refine Z6 rfl ?_|apply Z7|apply Z8|apply Z9|apply Z10|apply Z11|apply Z12|apply Z13|apply Z14|apply Z15|apply Z16
      with_reducible repeat first|apply Z0|apply Z1|apply Z2|apply Z3|apply Z4|apply Z5|refine Z6 rfl ?_|apply Z7|apply Z8|apply Z9|apply Z10|apply Z11|apply Z12|apply Z13|apply Z14|apply Z15|apply Z16
      refine Cd.reg (by kernel_rfl) (by conv => lhs; simp only [List.map_cons, List.map_nil]) (by conv => lhs; simp only [List.map_cons, List.map_nil, strip]) ?_
      apply Run.by_eq
      · intro self
        conv => lhs; simp -implicitDefEqProofs (maxSteps := 300000) (disch := omega) [-getElem?_pos, -getElem?_neg, h21]
      try (with_reducible refine Run.ret ?_)
      with_reducible repeat first|apply Z0|apply Z1|apply Z2|apply Z3|apply Z4|apply Z5|refine Z6 rfl ?_|apply Z7|apply Z8|apply Z9|apply Z10|apply Z11|apply Z12|apply Z13|apply Z14|apply Z15|apply Z16
      refine LoopK.nm (n - (k + 1)) (by omega) ⟨k + 1, by omega, rfl, by simp [hm], by simp, by simp [h20], by simp [h1], by simp [h5], ⟨by (try simp only [pushed_next', upded_next']); omega, fun i hi => by simp -implicitDefEqProofs (disch := omega) [hkpb]⟩, by (try simp only [upded_next']); omega, ?_, ?_, ?_⟩
      · simp -implicitDefEqProofs (disch := omega) [hg0]
      · simp -implicitDefEqProofs (disch := omega) [hg5]
      · rw [get_upded_same]
    · simp at c1; omega
  obtain rfl : k = n := by omega
  have hgo1 : s'.heap.get wq.next = some (.cells ((partL (rtF (-1) fs 0 id) k 0).map (Value.int .i64)) none) := by
    rw [hgo, partL_zero]
    congr 2
    apply List.ext_getElem?
    intro i
    by_cases h : i < k <;> simp [h]
  clear hgo
  generalize hrt : rtF (-1) fs 0 id = rt at hgo1
  with_reducible repeat first|apply Z0|apply Z1|apply Z2|apply Z3|apply Z4|apply Z5|refine Z6 rfl ?_|apply Z7|apply Z8|apply Z9|apply Z10|apply Z11|apply Z12|apply Z13|apply Z14|apply Z15|apply Z16
  refine Cd.reg (by kernel_rfl) (by conv => lhs; simp only [List.map_cons, List.map_nil]) (by conv => lhs; simp only [List.map_cons, List.map_nil, strip]) ?_
  apply Run.by_eq
  · intro self
    conv => lhs; simp -implicitDefEqProofs (maxSteps := 300000) (disch := omega) [-getElem?_pos, -getElem?_neg, h21, h20]
  try (with_reducible refine Run.ret ?_)
  with_reducible repeat first|apply Z0|apply Z1|apply Z2|apply Z3|apply Z4|apply Z5|refine Z6 rfl ?_|apply Z7|apply Z8|apply Z9|apply Z10|apply Z11|apply Z12|apply Z13|apply Z14|apply Z15|apply Z16
  with_reducible repeat first|apply Z0|apply Z1|apply Z2|apply Z3|apply Z4|apply Z5|refine Z6 rfl ?_|apply Z7|apply Z8|apply Z9|apply Z10|apply Z11|apply Z12|apply Z13|apply Z14|apply Z15|apply Z16
  apply Cd.ite rfl
  · conv => lhs; simp -implicitDefEqProofs (maxSteps := 300000) (disch := omega) [-getElem?_pos, -getElem?_neg]
  all_goals intro c1
  all_goals try (cases c1; done)
  all_goals try simp only [Bool.not_eq_true', Bool.not_eq_false', decide_eq_true_eq, decide_eq_false_iff_not] at c1
  all_goals with_reducible repeat first|apply Z0|apply Z1|apply Z2|apply Z3|apply Z4|apply Z5|refine Z6 rfl ?_|apply Z7|apply Z8|apply Z9|apply Z10|apply Z11|apply Z12|apply Z13|apply Z14|apply Z15|apply Z16
  with_reducible repeat first|apply Z0|apply Z1|apply Z2|apply Z3|apply Z4|apply Z5|refine Z6 rfl ?_|apply Z7|apply Z8|apply Z9|apply Z10|apply Z11|apply Z12|apply Z13|apply Z14|apply Z15|apply Z16
  refine Cd.reg (by kernel_rfl) (by conv => lhs; simp only [List.map_cons, List.map_nil]) (by conv => lhs; simp only [List.map_cons, List.map_nil, strip]) ?_
  apply Run.by_eq
  · intro self
    conv => lhs; simp -implicitDefEqProofs (maxSteps := 300000) (disch := omega) [-getElem?_pos, -getElem?_neg, h1, hg0]
  try (with_reducible refine Run.ret ?_)
  with_reducible repeat first|apply Z0|apply Z1|apply Z2|apply Z3|apply Z4|apply Z5|refine Z6 rfl ?_|apply Z7|apply Z8|apply Z9|apply Z10|apply Z11|apply Z12|apply Z13|apply Z14|apply Z15|apply Z16
  refine Run.call ((parts_ev k v _).mono fun r w1 hv => ?_)
  obtain ⟨hk1, bp, rfl, hbp1, hbp2, hgp⟩ := hv
  have k1a := hk1.1
  have k1b := hk1.2
  apply Run.by_eq
  · intro self
    conv => lhs; simp -implicitDefEqProofs (maxSteps := 300000) (disch := omega) [-getElem?_pos, -getElem?_neg]
  try (with_reducible refine Run.ret ?_)
  with_reducible repeat first|apply Z0|apply Z1|apply Z2|apply Z3|apply Z4|apply Z5|refine Z6 rfl ?_|apply Z7|apply Z8|apply Z9|apply Z10|apply Z11|apply Z12|apply Z13|apply Z14|apply Z15|apply Z16
  refine Cd.range (gi := 59) (first := #[]) (captured := #[.pointer (some ⟨bp, 0, none⟩)]) rfl (by simp) ?_
  generalize hR : ALoop.mk true none _ _ _ _ _ = R0
  show Ev TT 59 [.func (.yield (w1.next + 1)) #[] #[], .pointer (some ⟨bp, 0, none⟩)] _ _
  refine (iter_ev k v (.func (.yield (w1.next + 1)) #[] #[]) fs bp _ (fun i => i = wq.next ∨ i = w1.next + 1)
    (fun j s2 => s2.heap.get (w1.next + 1) = some (.loop R0) ∧ s2.heap.get wq.next = some (.cells ((partL rt k j).map (Value.int .i64)) none) ∧ s2.heap.get (wq.next + 1) = some (.cells [.slice (some ⟨wq.next, 0, none⟩) k k] none) ∧ s2.heap.get w1.next = some (.deferred true) ∧ w1.next + 1 < s2.next)
    hn8 (hf.keep ⟨by (try simp only [pushed_next', upded_next']); omega, fun i hi => by simp -implicitDefEqProofs (disch := omega) [k1b, hkpb]⟩) hl ?_ ?_ ?_ ?_ ?_ ?_ ?_ ?_).mono fun _ s2 hres => ?_
  · simp only [pushed_next']; omega
  · simp -implicitDefEqProofs (disch := omega) [hgp]
  · rintro i (rfl | rfl) <;> simp only [pushed_next'] <;> omega
  · rintro (h | h) <;> omega
  · refine ⟨?_, ?_, ?_, ?_, ?_⟩
    · simp -implicitDefEqProofs (disch := omega)
    · simp -implicitDefEqProofs (disch := omega) [k1b, hgo1]
    · simp -implicitDefEqProofs (disch := omega) [k1b, hg5]
    · simp -implicitDefEqProofs (disch := omega)
    · simp
  · rintro j s1 s2 ⟨j1, j2, j3, j4, j5⟩ h1 h2
    simp only [pushed_next'] at h2
    exact ⟨by rw [h2 _ (by omega)]; exact j1, by rw [h2 _ (by omega)]; exact j2, by rw [h2 _ (by omega)]; exact j3, by rw [h2 _ (by omega)]; exact j4, by omega⟩
  · rintro j s1 hj hL ⟨j1, j2, j3, j4, j5⟩
    rw [hrt] at hL
    exact ⟨j1, by rw [partL_skip hL]; exact j2, j3, j4, j5⟩
  · rintro j s1 w hj hL ⟨j1, j2, j3, j4, j5⟩ hs1 hw ⟨bw, hbw, rfl⟩
    rw [hrt] at hL hw ⊢
    simp only [pushed_next'] at hs1 hbw
    show Evn TT (fun self => exRound self (w1.next + 1) _ s1) _
    subst hR
    refine Evn.round j1 rfl ?_
    show Cd TT true _ _ ((((Fr.mk _ []).put (some 30) _).put (some 31) _)) _ _
    dsimp only
    have hbl : w1.next + 1 ≠ wq.next := by omega
    have hbb : w1.next + 1 ≠ wq.next + 1 := by omega
    with_reducible repeat first|apply Z0|apply Z1|apply Z2|apply Z3|apply Z4|apply Z5|refine Z6 rfl ?_|apply Z7|apply Z8|apply Z9|apply Z10|apply Z11|apply Z12|apply Z13|apply Z14|apply Z15|apply Z16
    refine Cd.reg (by kernel_rfl) (by conv => lhs; simp only [List.map_cons, List.map_nil]) (by conv => lhs; simp only [List.map_cons, List.map_nil, strip]) ?_
    apply Run.by_eq
    · intro self
      conv => lhs; simp -implicitDefEqProofs (maxSteps := 300000) (disch := omega) [-getElem?_pos, -getElem?_neg, Fr.get_mk]
    try (with_reducible refine Run.ret ?_)
    with_reducible repeat first|apply Z0|apply Z1|apply Z2|apply Z3|apply Z4|apply Z5|refine Z6 rfl ?_|apply Z7|apply Z8|apply Z9|apply Z10|apply Z11|apply Z12|apply Z13|apply Z14|apply Z15|apply Z16
    with_reducible repeat first|apply Z0|apply Z1|apply Z2|apply Z3|apply Z4|apply Z5|refine Z6 rfl ?_|apply Z7|apply Z8|apply Z9|apply Z10|apply Z11|apply Z12|apply Z13|apply Z14|apply Z15|apply Z16
    refine Cd.reg (by kernel_rfl) (by conv => lhs; simp only [List.map_cons, List.map_nil]) (by conv => lhs; simp only [List.map_cons, List.map_nil, strip]) ?_
    apply Run.by_eq
    · intro self
      conv => lhs; simp -implicitDefEqProofs (maxSteps := 300000) (disch := omega) [-getElem?_pos, -getElem?_neg, Fr.get_mk]
    try (with_reducible refine Run.ret ?_)
    with_reducible repeat first|apply Z0|apply Z1|apply Z2|apply Z3|apply Z4|apply Z5|refine Z6 rfl ?_|apply Z7|apply Z8|apply Z9|apply Z10|apply Z11|apply Z12|apply Z13|apply Z14|apply Z15|apply Z16
    refine ⟨rfl, _, j1, rfl, rfl, ?_⟩
    dsimp only
    with_reducible repeat first|apply Z0|apply Z1|apply Z2|apply Z3|apply Z4|apply Z5|refine Z6 rfl ?_|apply Z7|apply Z8|apply Z9|apply Z10|apply Z11|apply Z12|apply Z13|apply Z14|apply Z15|apply Z16
    refine Cd.reg (by kernel_rfl) (by conv => lhs; simp only [List.map_cons, List.map_nil]) (by conv => lhs; simp only [List.map_cons, List.map_nil, strip]) ?_
    apply Run.by_eq
    · intro self
      conv => lhs; simp -implicitDefEqProofs (maxSteps := 300000) (disch := omega) [-getElem?_pos, -getElem?_neg, Fr.get_mk]
    try (with_reducible refine Run.ret ?_)
    with_reducible repeat first|apply Z0|apply Z1|apply Z2|apply Z3|apply Z4|apply Z5|refine Z6 rfl ?_|apply Z7|apply Z8|apply Z9|apply Z10|apply Z11|apply Z12|apply Z13|apply Z14|apply Z15|apply Z16
    generalize hLf : ALoop.mk false none _ _ _ _ _ = Lf
    refine Cd.inv (fun z2 f2 s3 => ∃ i : Nat, i ≤ (clsN rt j k).length ∧ z2 = (clsN rt j k).length - i ∧ f2.get 34 = .int .i64 i ∧ f2.get 33 = .int .i64 (clsN rt j k).length ∧ f2.get 32 = .slice (some ⟨bw, 0, none⟩) (clsN rt j k).length (clsN rt j k).length ∧ f2.get 7 = .int .i64 (leads rt k j).length ∧ f2.get 5 = .pointer (some ⟨wq.next + 1, 0, none⟩) ∧ s1.next = s3.next ∧ (∀ x, x < s1.next → ¬ (x = wq.next ∨ x = w1.next + 1) → s3.heap.get x = s1.heap.get x) ∧ s3.heap.get (w1.next + 1) = some (.loop Lf) ∧ s3.heap.get wq.next = some (.cells ((List.range k).map fun x : Nat => Value.int .i64 (if (x : Int) ∈ (clsN rt j k).take i then ((leads rt k j).length : Int) else partAt rt k j x)) none)) (clsN rt j k).length ?_ ?_
    · refine ⟨0, by omega, rfl, by simp, by simp, by simp, by simp [Fr.get_mk], by simp [Fr.get_mk, h5], by simp, fun x hx hX => ?_, ?_, ?_⟩
      · rw [get_upded_other _ _ _ _ (fun e => hX (.inr e))]
      · rw [get_upded_same]
      · rw [get_upded_other _ _ _ _ (by omega), j2]
        simp [partL, List.map_map, Function.comp_def]
    rintro z2 f2 s3 ⟨i, hi, rfl, g34, g33, g32, g7, g5, hnx3, hold3, hlp3, hbo3⟩
    have hsl := hold3 (wq.next + 1) (by omega) (by omega)
    have hcll := clsN_length rt j k
    rw [j3] at hsl
    by_cases hic : i < (clsN rt j k).length
    · obtain ⟨y, hy⟩ : ∃ y, (clsN rt j k)[i]? = some y := ⟨(clsN rt j k)[i], by simp [hic]⟩
      obtain ⟨x, hx, rfl⟩ : ∃ x : Nat, x < k ∧ (x : Int) = y := by
        have := List.mem_of_getElem? hy
        unfold clsN at this
        obtain ⟨x, hx, e⟩ := List.mem_map.1 this
        exact ⟨x, by simpa using (List.mem_filter.1 hx).1, e⟩
      obtain ⟨b, off, o, cs, gg, e1, hb, ho, hc, ht⟩ := IntsAt.at hw hy
      cases e1
      rw [← hold3 bw hb (by omega)] at ho
      have hput := putL_set (Value.int .i64 ((leads rt k j).length : Int)) x ((List.range k).map fun x : Nat => Value.int .i64 (if (x : Int) ∈ (clsN rt j k).take i then ((leads rt k j).length : Int) else partAt rt k j x)) (by simpa using hx)
      have htk : (clsN rt j k).take (i + 1) = (clsN rt j k).take i ++ [(x : Int)] := by rw [List.take_add_one, hy]; rfl
      rw [range_set (h := fun z : Nat => if (z : Int) ∈ (clsN rt j k).take (i + 1) then ((leads rt k j).length : Int) else partAt rt k j z) hx (fun z _ hz => by
        have : ¬ (z : Int) = (x : Int) := by omega
        rw [htk]; simp [this]) (by rw [htk]; simp)] at hput
      rw [Nat.zero_add] at ht
      with_reducible repeat first|apply Z0|apply Z1|apply Z2|apply Z3|apply Z4|apply Z5|refine Z6 rfl ?_|apply Z7|apply Z8|apply Z9|apply Z10|apply Z11|apply Z12|apply Z13|apply Z14|apply Z15|apply Z16
      refine Cd.reg (by kernel_rfl) (by conv => lhs; simp only [List.map_cons, List.map_nil]) (by conv => lhs; simp only [List.map_cons, List.map_nil, strip]) ?_
      apply Run.by_eq
      · intro self
        conv => lhs; simp -implicitDefEqProofs (maxSteps := 300000) (disch := omega) [-getElem?_pos, -getElem?_neg, g34, g33]
      try (with_reducible refine Run.ret ?_)
      with_reducible repeat first|apply Z0|apply Z1|apply Z2|apply Z3|apply Z4|apply Z5|refine Z6 rfl ?_|apply Z7|apply Z8|apply Z9|apply Z10|apply Z11|apply Z12|apply Z13|apply Z14|apply Z15|apply Z16
      with_reducible repeat first|apply Z0|apply Z1|apply Z2|apply Z3|apply Z4|apply Z5|refine Z6 rfl ?_|apply Z7|apply Z8|apply Z9|apply Z10|apply Z11|apply Z12|apply Z13|apply Z14|apply Z15|apply Z16
      apply Cd.ite rfl
      · conv => lhs; simp -implicitDefEqProofs (maxSteps := 300000) (disch := omega) [-getElem?_pos, -getElem?_neg]
      all_goals intro e0
      all_goals try (cases e0; done)
      all_goals try simp only [Bool.not_eq_true', Bool.not_eq_false', decide_eq_true_eq, decide_eq_false_iff_not] at e0
      all_goals with_reducible repeat first|apply Z0|apply Z1|apply Z2|apply Z3|apply Z4|apply Z5|refine Z6 rfl ?_|apply Z7|apply Z8|apply Z9|apply Z10|apply Z11|apply Z12|apply Z13|apply Z14|apply Z15|apply Z16
      · with_reducible repeat first|apply Z0|apply Z1|apply Z2|apply Z3|apply Z4|apply Z5|refine Z6 rfl ?_|apply Z7|apply Z8|apply Z9|apply Z10|apply Z11|apply Z12|apply Z13|apply Z14|apply Z15|apply Z16
        refine Cd.reg (by kernel_rfl) (by conv => lhs; simp only [List.map_cons, List.map_nil]) (by conv => lhs; simp only [List.map_cons, List.map_nil, strip]) ?_
        apply Run.by_eq
        · intro self
          conv => lhs; simp -implicitDefEqProofs (maxSteps := 300000) (disch := omega) [-getElem?_pos, -getElem?_neg, g34, g32, ho, hc, ht, hic]
        try (with_reducible refine Run.ret ?_)
        with_reducible repeat first|apply Z0|apply Z1|apply Z2|apply Z3|apply Z4|apply Z5|refine Z6 rfl ?_|apply Z7|apply Z8|apply Z9|apply Z10|apply Z11|apply Z12|apply Z13|apply Z14|apply Z15|apply Z16
        with_reducible repeat first|apply Z0|apply Z1|apply Z2|apply Z3|apply Z4|apply Z5|refine Z6 rfl ?_|apply Z7|apply Z8|apply Z9|apply Z10|apply Z11|apply Z12|apply Z13|apply Z14|apply Z15|apply Z16
        refine Cd.reg (by kernel_rfl) (by conv => lhs; simp only [List.map_cons, List.map_nil]) (by conv => lhs; simp only [List.map_cons, List.map_nil, strip]) ?_
        apply Run.by_eq
        · intro self
          conv => lhs; simp -implicitDefEqProofs (maxSteps := 300000) (disch := omega) [-getElem?_pos, -getElem?_neg, g5, g7, hsl, hbo3, hx, hput]
        try (with_reducible refine Run.ret ?_)
        with_reducible repeat first|apply Z0|apply Z1|apply Z2|apply Z3|apply Z4|apply Z5|refine Z6 rfl ?_|apply Z7|apply Z8|apply Z9|apply Z10|apply Z11|apply Z12|apply Z13|apply Z14|apply Z15|apply Z16
        with_reducible repeat first|apply Z0|apply Z1|apply Z2|apply Z3|apply Z4|apply Z5|refine Z6 rfl ?_|apply Z7|apply Z8|apply Z9|apply Z10|apply Z11|apply Z12|apply Z13|apply Z14|apply Z15|apply Z16
        refine Cd.reg (by kernel_rfl) (by conv => lhs; simp only [List.map_cons, List.map_nil]) (by conv => lhs; simp only [List.map_cons, List.map_nil, strip]) ?_
        apply Run.by_eq
        · intro self
          conv => lhs; simp -implicitDefEqProofs (maxSteps := 300000) (disch := omega) [-getElem?_pos, -getElem?_neg, g34]
        try (with_reducible refine Run.ret ?_)
        with_reducible repeat first|apply Z0|apply Z1|apply Z2|apply Z3|apply Z4|apply Z5|refine Z6 rfl ?_|apply Z7|apply Z8|apply Z9|apply Z10|apply Z11|apply Z12|apply Z13|apply Z14|apply Z15|apply Z16
        refine LoopK.nm ((clsN rt j k).length - (i + 1)) (by omega) ⟨i + 1, by omega, rfl, by simp, by simp [g33], by simp [g32], by simp [g7], by simp [g5], by (try simp only [upded_next']); omega, fun z hz hX => ?_, ?_, ?_⟩
        · rw [get_upded_other _ _ _ _ (fun e => hX (.inl e))]; exact hold3 z hz hX
        · rw [get_upded_other _ _ _ _ (by omega)]; exact hlp3
        · rw [get_upded_same]
      · simp at e0; omega
    · obtain rfl : i = (clsN rt j k).length := by omega
      rw [List.take_length] at hbo3
      have hpl := partL_lead hj hL
      have hbo4 : s3.heap.get wq.next = some (.cells ((partL rt k (j + 1)).map (Value.int .i64)) none) := by
        rw [hbo3, ← hpl, List.map_map]; rfl
      with_reducible repeat first|apply Z0|apply Z1|apply Z2|apply Z3|apply Z4|apply Z5|refine Z6 rfl ?_|apply Z7|apply Z8|apply Z9|apply Z10|apply Z11|apply Z12|apply Z13|apply Z14|apply Z15|apply Z16
      refine Cd.reg (by kernel_rfl) (by conv => lhs; simp only [List.map_cons, List.map_nil]) (by conv => lhs; simp only [List.map_cons, List.map_nil, strip]) ?_
      apply Run.by_eq
      · intro self
        conv => lhs; simp -implicitDefEqProofs (maxSteps := 300000) (disch := omega) [-getElem?_pos, -getElem?_neg, g34, g33]
      try (with_reducible refine Run.ret ?_)
      with_reducible repeat first|apply Z0|apply Z1|apply Z2|apply Z3|apply Z4|apply Z5|refine Z6 rfl ?_|apply Z7|apply Z8|apply Z9|apply Z10|apply Z11|apply Z12|apply Z13|apply Z14|apply Z15|apply Z16
      with_reducible repeat first|apply Z0|apply Z1|apply Z2|apply Z3|apply Z4|apply Z5|refine Z6 rfl ?_|apply Z7|apply Z8|apply Z9|apply Z10|apply Z11|apply Z12|apply Z13|apply Z14|apply Z15|apply Z16
      apply Cd.ite rfl
      · conv => lhs; simp -implicitDefEqProofs (maxSteps := 300000) (disch := omega) [-getElem?_pos, -getElem?_neg]
      all_goals intro e0
      all_goals try (cases e0; done)
      all_goals try simp only [Bool.not_eq_true', Bool.not_eq_false', decide_eq_true_eq, decide_eq_false_iff_not] at e0
      all_goals with_reducible repeat first|apply Z0|apply Z1|apply Z2|apply Z3|apply Z4|apply Z5|refine Z6 rfl ?_|apply Z7|apply Z8|apply Z9|apply Z10|apply Z11|apply Z12|apply Z13|apply Z14|apply Z15|apply Z16
      refine ⟨rfl, Lf, hlp3, rfl, ⟨?_, ?_, ?_, ?_, ?_⟩, ?_, fun z hz hX => ?_⟩
      · rw [get_upded_same]; subst hLf; rfl
      · rw [get_upded_other _ _ _ _ (by omega)]; exact hbo4
      · rw [get_upded_other _ _ _ _ (by omega)]; exact hsl
      · rw [get_upded_other _ _ _ _ (by omega), hold3 w1.next (by omega) (by omega)]; exact j4
      · simp only [upded_next']; omega
      · simp only [upded_next']; omega
      · exact (get_upded_other _ _ _ _ (fun e => hX (.inr e))).trans (hold3 z hz hX)
  · obtain ⟨⟨j1, j2, j3, j4, j5⟩, r2, r3⟩ := hres
    simp only [pushed_next'] at r2 r3
    refine ⟨R0, j1, by rw [← hR], by rw [← hR], ?_⟩
    with_reducible repeat first|apply Z0|apply Z1|apply Z2|apply Z3|apply Z4|apply Z5|refine Z6 rfl ?_|apply Z7|apply Z8|apply Z9|apply Z10|apply Z11|apply Z12|apply Z13|apply Z14|apply Z15|apply Z16
    refine Cd.reg (by kernel_rfl) (by conv => lhs; simp only [List.map_cons, List.map_nil]) (by conv => lhs; simp only [List.map_cons, List.map_nil, strip]) ?_
    apply Run.by_eq
    · intro self
      conv => lhs; simp -implicitDefEqProofs (maxSteps := 300000) (disch := omega) [-getElem?_pos, -getElem?_neg, Fr.get_mk, h5, j3]
    try (with_reducible refine Run.ret ?_)
    with_reducible repeat first|apply Z0|apply Z1|apply Z2|apply Z3|apply Z4|apply Z5|refine Z6 rfl ?_|apply Z7|apply Z8|apply Z9|apply Z10|apply Z11|apply Z12|apply Z13|apply Z14|apply Z15|apply Z16
    apply Leave.one (m := w1.next) (by first | exact .inl rfl | exact .inr rfl) (by simp only [Fr.marks_put, hm])
    · simp -implicitDefEqProofs (disch := omega) [j4]
    · conv => lhs; simp -implicitDefEqProofs (disch := omega) [Try.results14]
    have hold : ∀ i, i < s.next → s2.heap.get i = s.heap.get i := fun i hi => by
      rw [r3 i (by omega) (by omega)]
      simp -implicitDefEqProofs (disch := omega) [k1b, hkpb]
    refine ⟨⟨by (try simp only [upded_next']); omega, fun i hi => by simp -implicitDefEqProofs (disch := omega) [hold]⟩, .slice (some ⟨wq.next, 0, none⟩) k k, by rw [hck]; rfl, ?_⟩
    have he : partsErrL k fs = partL rt k k := by unfold partsErrL; rw [if_pos hck, hrt]; rfl
    rw [he]
    have := ints_of_cells (s := (s2.upded (w1.next + 1) .dead).upded w1.next .dead) (b := wq.next) (c := k) (xs := partL rt k k) (g := none) (by (try simp only [upded_next']); omega) (by simp -implicitDefEqProofs (disch := omega) [j2])
    rw [show (partL rt k k).length = k by simp [partL]] at this
    exact this
end Go.Proofs.Ytifkpaomhnlahaa
