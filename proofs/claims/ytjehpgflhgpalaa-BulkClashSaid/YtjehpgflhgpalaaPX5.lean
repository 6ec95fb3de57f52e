/-
  A plant with no excess has a balance also when a flow is measured in addition, as far as it may be. A set of units that no flow leaves but measured ones has no excess, if there is a balance. Any balance tells what is found of flows. The masses of a mill are a balance, and the mill is a valid plant. A mill by numbers is made as stated, for every list of ends and masses. Bits of a byte, and what Refutes says of ascending units. The law BulkProves is calculated true, for every argument. What is true of a plant with a balance. Parts are numbered by who is joined, and an excess of one of them is a clash. Rounds over flows that are not measured meet just what they join. The law asks whether ends are joined, and is told just that. Fill answers as stated, for every plant, flow and masses. The law BulkCloses is calculated true, for every argument. The law BulkTrue is calculated true, for every argument. The law BulkClash is calculated true, for every argument. The law's self-check returns true in every world, and leaves what was there as it was: its answer is calculated by the kernel. What is calculated true of slices of the world holds of the call. Arguments that the row reads are slices, plants and numbers of the world. Mills by numbers, as the row reads them. The statement BulkClash is true. They hold with no condition but those that are written in each theorem.
-/
import Derived.Test.YtjehpgflhgpalaaProg
import Derived.Test.YtjehpgflhgpalaaRows
import Derived.ProofKit
import Derived.Deep.Slices
import Derived.Lib.SmallJoins
import Derived.Laws.IdiomArrays
import Derived.Carry
import Derived.Test.YtjehpgflhgpalaaPX1
import Derived.Test.YtjehpgflhgpalaaPX2
import Derived.Test.YtjehpgflhgpalaaPX3
import Derived.Test.YtjehpgflhgpalaaPX4
set_option linter.unusedSimpArgs false
set_option linter.unusedVariables false
namespace Go.Proofs.Ytjehpgflhgpalaa
open Go Kern
/-! A flow is measured in addition -/
def meas (f : FlowD) (m : Mass) : FlowD := ⟨f.fr, f.to, true, m⟩
theorem set_at {fs : List FlowD} {k : Nat} {f : FlowD} {g : FlowD} (hk : fs[k]? = some f) : (fs.set k g)[k]? = some g := by
  have := (List.getElem?_eq_some_iff.1 hk).1
  simp [List.getElem?_set, this]
theorem set_ne {fs : List FlowD} {k j : Nat} {g : FlowD} (h : j ≠ k) : (fs.set k g)[j]? = fs[j]? := by
  rw [List.getElem?_set, if_neg (fun e => h e.symm)]
theorem provF_nones {rt : Int → Int} {fs : List FlowD} {n : Nat} : ∀ {c i : Nat}, provF rt fs n c i = none → ∀ j, i ≤ j → j < i + c → provAt rt fs n j = none
  | 0, i, _, j, h1, h2 => by omega
  | c + 1, i, h, j, h1, h2 => by
    unfold provF at h
    cases hp : provAt rt fs n i with
    | some p => rw [hp] at h; cases h
    | none =>
      rw [hp] at h
      by_cases e : j = i
      · subst e; exact hp
      · exact provF_nones h j (by omega) (by omega)
theorem closeErr_zero {n : Nat} {fs : List FlowD} (h : closeErr n fs = 0) : checkErr n fs = 0 ∧ ∀ k : Nat, k < n → isLead (rtF (-1) fs 0 id) n k = true → excM (clsN (rtF (-1) fs 0 id) k n) fs = Mass.zero := by
  unfold closeErr at h
  split at h
  · rename_i e; exact absurd h e
  · rename_i e
    refine ⟨by simpa using e, fun k hk hL => ?_⟩
    simp only [Int.toNat_natCast] at h
    cases hp : provF (rtF (-1) fs 0 id) fs n n 0 with
    | some p => rw [hp] at h; cases h
    | none => exact excM_zero_of (provF_nones hp k (by omega) (by omega)) hL
theorem lead_out {rt : Int → Int} {n k : Nat} (h : isLead rt n k = true) : rt k ≠ rt (-1) := by
  simp only [isLead, Bool.and_eq_true, Bool.not_eq_true', decide_eq_false_iff_not] at h
  exact h.2
end Go.Proofs.Ytjehpgflhgpalaa
namespace Go.Proofs.Ytjehpgflhgpalaa
open Go Kern
/-! What is accepted as a proof is one -/
theorem closeErr_or {u : Int} {fs : List FlowD} (h : checkErr u fs = 0) : closeErr u fs = 0 ∨ closeErr u fs = 12 := by
  unfold closeErr
  rw [if_neg (by omega)]
  split
  · exact .inr rfl
  · exact .inl rfl
end Go.Proofs.Ytjehpgflhgpalaa
namespace Go.Proofs.Ytjehpgflhgpalaa
open Go Kern
/-! Any balance tells what is found -/
/-- Masses that come to nothing at each unit and agree with what is measured. -/
structure BalF (fs : List FlowD) (n : Nat) (R : Nat → Mass) : Prop where
  meas : ∀ (j : Nat) (f : FlowD), fs[j]? = some f → f.me = true → R j = f.m
  nets : ∀ u : Nat, u < n → sumN (fun j => match fs[j]? with | some f => brings f u (R j) | none => Mass.zero) fs.length = Mass.zero
def knB (fs : List FlowD) (R : Nat → Mass) (j : Nat) : KnownD := match fs[j]? with
  | some f => if f.me = true then ⟨1, f.m⟩ else if rtF j fs 0 id f.fr = rtF j fs 0 id f.to then ⟨3, Mass.zero⟩ else ⟨2, R j⟩
  | none => ⟨0, Mass.zero⟩
end Go.Proofs.Ytjehpgflhgpalaa
namespace Go.Proofs.Ytjehpgflhgpalaa
open Go Kern
/-! The masses of a mill are a balance -/
theorem sumN_split (g : Nat → Mass) (a : Nat) : ∀ b, sumN g (a + b) = (sumN g a).add (sumN (fun j => g (a + j)) b)
  | 0 => (Mass.add_zero _).symm
  | b + 1 => by
    show (sumN g (a + b)).add (g (a + b)) = (sumN g a).add ((sumN (fun j => g (a + j)) b).add (g (a + b)))
    rw [sumN_split g a b, Mass.add_assoc]
theorem rowM_step {fr to : Int} {ms : List Int} {i u : Nat} {R : Nat → Int} {me : Bool} {m : Mass} (hne : fr ≠ to) : rowM (restK fr to ms i 4 R) u = (rowM R u).add (brings ⟨fr, to, me, m⟩ u (massM ms i)) := by
  have h0 : ∀ q, q < 4 → (u * 4 + q) / 4 = u ∧ (u * 4 + q) % 4 = q := fun q hq => by omega
  have h1 : ∀ q, q < 4 → restK fr to ms i 4 R (u * 4 + q) = R (u * 4 + q) + (if (u : Int) = to then mass1 ms i q else 0) - (if (u : Int) = fr then mass1 ms i q else 0) := fun q hq => by
    unfold restK
    rw [(h0 q hq).1, (h0 q hq).2]
    simp [hq]
  have h2 := h1 0 (by omega)
  have h3 := h1 1 (by omega)
  have h4 := h1 2 (by omega)
  have h5 := h1 3 (by omega)
  rw [Nat.add_zero] at h2
  unfold rowM brings massM
  rw [h2, h3, h4, h5]
  by_cases e1 : to = u
  · have hq : ¬ (u : Int) = fr := fun q => hne (q.symm.trans e1.symm)
    have hp : (u : Int) = to := e1.symm
    rw [if_pos e1, if_pos hp, if_pos hp, if_pos hp, if_pos hp, if_neg hq, if_neg hq, if_neg hq, if_neg hq]
    apply Mass.ext' <;> simp [Mass.add]
  · have hp : ¬ (u : Int) = to := fun q => e1 q.symm
    rw [if_neg e1, if_neg hp, if_neg hp, if_neg hp, if_neg hp]
    by_cases e2 : fr = u
    · have hq : (u : Int) = fr := e2.symm
      rw [if_pos e2, if_pos hq, if_pos hq, if_pos hq, if_pos hq]
      apply Mass.ext' <;> simp [Mass.add, Mass.sub, Mass.zero] <;> omega
    · have hq : ¬ (u : Int) = fr := fun q => e2 q.symm
      rw [if_neg e2, if_neg hq, if_neg hq, if_neg hq, if_neg hq]
      apply Mass.ext' <;> simp [Mass.add, Mass.zero]
theorem rowM_sum {n : Nat} {K : Int} {ms : List Int} {es : List (Int × Int)} (hn : 1 ≤ n) (u : Nat) : ∀ i, rowM (restR n ms es i) u = sumN (fun j => brings (millFlow n K ms j (eAt es j)) u (massM ms j)) i
  | 0 => rfl
  | i + 1 => by
    show rowM (restK (endI n (eAt es i).1) (millTo n (eAt es i)) ms i 4 (restR n ms es i)) u = _
    unfold sumN
    rw [← rowM_sum hn u i]
    exact rowM_step (millTo_ne hn)
def realF (n : Nat) (ms : List Int) (es : List (Int × Int)) (j : Nat) : Mass := if j < millN es then massM ms j else rowM (restR n ms es (millN es)) (j - millN es)
theorem millFs_length (n : Nat) (K : Int) (ms : List Int) (es : List (Int × Int)) : (millFs n K ms es).length = millN es + n := by unfold millFs; simp
theorem millFs_fst {n : Nat} {K : Int} {ms : List Int} {es : List (Int × Int)} {j : Nat} (h : j < millN es) : (millFs n K ms es)[j]? = some (millFlow n K ms j (eAt es j)) := by
  unfold millFs
  rw [List.getElem?_append_left (by simp [h]), List.getElem?_map, List.getElem?_range h]; rfl
theorem millFs_snd {n : Nat} {K : Int} {ms : List Int} {es : List (Int × Int)} {u : Nat} (h : u < n) : (millFs n K ms es)[millN es + u]? = some (millLast K (restR n ms es (millN es)) u) := by
  unfold millFs
  rw [List.getElem?_append_right (by simp), List.length_map, List.length_range, Nat.add_sub_cancel_left, List.getElem?_map, List.getElem?_range h]; rfl
theorem mill_bal {n : Nat} {K : Int} {ms : List Int} {es : List (Int × Int)} (hn : 1 ≤ n) : BalF (millFs n K ms es) n (realF n ms es) := by
  constructor
  · intro j f hf hm
    have hlt := (List.getElem?_eq_some_iff.1 hf).1
    rw [millFs_length] at hlt
    by_cases h : j < millN es
    · rw [millFs_fst h] at hf
      cases hf
      unfold realF
      rw [if_pos h]
      unfold millFlow at hm ⊢
      simp only [] at hm ⊢
      rw [if_pos hm]
    · obtain ⟨u, rfl⟩ : ∃ u, j = millN es + u := ⟨j - millN es, by omega⟩
      rw [millFs_snd (by omega)] at hf
      cases hf
      unfold realF
      rw [if_neg h, Nat.add_sub_cancel_left]
      unfold millLast at hm ⊢
      simp only [] at hm ⊢
      rw [if_pos hm]
  · intro u hu
    rw [millFs_length, sumN_split]
    have h1 : sumN (fun j => match (millFs n K ms es)[j]? with | some f => brings f u (realF n ms es j) | none => Mass.zero) (millN es) = rowM (restR n ms es (millN es)) u := by
      rw [rowM_sum (K := K) hn u]
      refine sumN_congr fun j hj => ?_
      rw [millFs_fst hj]
      simp only [realF, if_pos hj]
    have h2 : sumN (fun j => match (millFs n K ms es)[millN es + j]? with | some f => brings f u (realF n ms es (millN es + j)) | none => Mass.zero) n = Mass.zero.sub (rowM (restR n ms es (millN es)) u) := by
      have hb : ∀ v, v < n → (match (millFs n K ms es)[millN es + v]? with | some f => brings f u (realF n ms es (millN es + v)) | none => Mass.zero) = if v = u then Mass.zero.sub (rowM (restR n ms es (millN es)) v) else Mass.zero := fun v hv => by
        rw [millFs_snd hv]
        simp only [realF]
        rw [if_neg (by omega), Nat.add_sub_cancel_left]
        unfold brings millLast
        simp only []
        rw [if_neg (by omega)]
        by_cases e : v = u
        · subst e; rw [if_pos rfl, if_pos rfl]
        · rw [if_neg (by omega), if_neg e]
      rw [sumN_one (i := u) hu fun v hv hvu => (hb v hv).trans (if_neg hvu)]
      exact (hb u hu).trans (if_pos rfl)
    have h3 : ∀ {a b c d : Mass}, a = c → b = d → a.add b = c.add d := fun e1 e2 => by rw [e1, e2]
    exact (h3 h1 h2).trans (Mass.add_neg _)
/-! A mill is a valid plant -/
theorem millN_le (es : List (Int × Int)) : millN es ≤ 6 := Nat.min_le_right _ _
theorem massM_each {ms : List Int} (hb : ∀ x ∈ ms, 0 ≤ x ∧ x < 256) (i : Nat) : eachB (massM ms i) 0 1000000000 = true := by
  have h0 := mass1_le hb i 0
  have h1 := mass1_le hb i 1
  have h2 := mass1_le hb i 2
  have h3 := mass1_le hb i 3
  unfold eachB isB massM
  simp only [Bool.and_eq_true, decide_eq_true_eq]
  omega
theorem checkErr_mk {u : Int} {fs : List FlowD} (h1 : 1 ≤ u) (h2 : u ≤ 8) (h3 : fs.length ≤ 20) (h : ∀ f ∈ fs, flowErr u f = 0) : checkErr u fs = 0 := by
  unfold checkErr
  rw [if_neg (by omega), if_neg (by omega)]
  exact firstErr_zero fun j f hf => h f (List.mem_of_getElem? hf)
theorem flowErr_mk {n : Nat} {f : FlowD} (h1 : -1 ≤ f.fr ∧ f.fr < n) (h2 : -1 ≤ f.to ∧ f.to < n) (h3 : f.fr ≠ f.to) (h4 : f.me = true → eachB f.m 0 1000000000 = true) : flowErr n f = 0 := by
  have e : ∀ x : Int, -1 ≤ x ∧ x < n → endB n x = true := fun x hx => by
    unfold endB unitB
    simp only [Bool.or_eq_true, Bool.and_eq_true, decide_eq_true_eq]
    omega
  unfold flowErr
  rw [e _ h1, e _ h2]
  by_cases hm : f.me = true
  · simp [h3, h4 hm]
  · have hm : f.me = false := by simpa using hm
    simp [h3, hm]
theorem mill_mem {n : Nat} {K : Int} {ms : List Int} {es : List (Int × Int)} {f : FlowD} (h : f ∈ millFs n K ms es) : (∃ i, i < millN es ∧ f = millFlow n K ms i (eAt es i)) ∨ ∃ u, u < n ∧ f = millLast K (restR n ms es (millN es)) u := by
  unfold millFs at h
  rcases List.mem_append.1 h with h | h
  · obtain ⟨i, hi, rfl⟩ := List.mem_map.1 h
    exact .inl ⟨i, List.mem_range.1 hi, rfl⟩
  · obtain ⟨i, hi, rfl⟩ := List.mem_map.1 h
    exact .inr ⟨i, List.mem_range.1 hi, rfl⟩
theorem mill_check {n : Nat} {K : Int} {ms : List Int} {es : List (Int × Int)} (hn : 1 ≤ n) (hn4 : n ≤ 4) (hb : ∀ x ∈ ms, 0 ≤ x ∧ x < 256) : checkErr n (millFs n K ms es) = 0 := by
  have h6 := millN_le es
  refine checkErr_mk (by omega) (by omega) (by rw [millFs_length]; omega) fun f hf => ?_
  rcases mill_mem hf with ⟨i, _, rfl⟩ | ⟨u, hu, rfl⟩
  · refine flowErr_mk endI_range millTo_range (millTo_ne hn) fun hm => ?_
    unfold millFlow at hm ⊢
    simp only [] at hm ⊢
    rw [if_pos hm]
    exact massM_each hb i
  · refine flowErr_mk (f := millLast K (restR n ms es (millN es)) u) (by unfold millLast; simp only []; omega) (by unfold millLast; simp only []; omega) (by unfold millLast; simp only []; omega) fun hm => ?_
    unfold millLast at hm ⊢
    simp only [] at hm ⊢
    rw [if_pos hm]
    simp only [Bool.and_eq_true, restOk, List.all_eq_true, List.mem_range, decide_eq_true_eq] at hm
    have hr : ∀ p, restR n ms es (millN es) p ≤ 1536 := fun p => by
      have := (restR_le (n := n) (es := es) hb (millN es) p).2
      omega
    have a0 := hm.2 0 (by omega)
    have a1 := hm.2 1 (by omega)
    have a2 := hm.2 2 (by omega)
    have a3 := hm.2 3 (by omega)
    have b0 := hr (u * 4)
    have b1 := hr (u * 4 + 1)
    have b2 := hr (u * 4 + 2)
    have b3 := hr (u * 4 + 3)
    rw [Nat.add_zero] at a0
    unfold eachB isB rowM
    simp only [Bool.and_eq_true, decide_eq_true_eq]
    omega
end Go.Proofs.Ytjehpgflhgpalaa
namespace Go.Proofs.Ytjehpgflhgpalaa
open Go Kern
def restT (to : Int) (ms : List Int) (i k : Nat) (X : Nat → Int) (q : Nat) : Int := X q + (if ((q / 4 : Nat) : Int) = to ∧ q % 4 = k then mass1 ms i (q % 4) else 0)
theorem restT_no {to : Int} {ms : List Int} {i k : Nat} {X : Nat → Int} {q : Nat} (h : ¬ (((q / 4 : Nat) : Int) = to ∧ q % 4 = k)) : restT to ms i k X q = X q := by unfold restT; rw [if_neg h]; omega
theorem restT_next {fr to : Int} {ms : List Int} {i k : Nat} {R : Nat → Int} (q : Nat) : restK fr to ms i (k + 1) R q = restT to ms i k (restK fr to ms i k R) q - (if ((q / 4 : Nat) : Int) = fr ∧ q % 4 = k then mass1 ms i (q % 4) else 0) := restK_next q
theorem flat_len {n : Nat} : ∀ {l : List (List Value)}, (∀ x ∈ l, x.length = n) → l.flatten.length = l.length * n
  | [], _ => by simp
  | e :: r, h => by rw [List.flatten_cons, List.length_append, flat_len fun x hx => h x (.tail _ hx), h e (.head _), List.length_cons, Nat.add_mul]; omega
theorem masses_len (l : List Mass) : ∀ x ∈ l.map Mass.cs, x.length = 4 := fun x hx => by obtain ⟨m, _, rfl⟩ := List.mem_map.1 hx; rfl
@[simp] theorem newObj_22 {f : Fr} {pl0 : Array (Nat × Operand)} : Kern.newObj TT (.buildSlice 22 1 pl0) f = ob (fillL f.eval (placesA 7 pl0.toList) (repeatL [.int .i64 0, .int .i64 0, .bool false, .int .i64 0, .int .i64 0, .int .i64 0, .int .i64 0] 1)) fun c => some (.cells c none) :=
  newObj_buildSlice 22 1 pl0 und_22 size_82 zero_82 rfl
@[simp] theorem newObj_58 {f : Fr} {pl0 : Array (Nat × Operand)} : Kern.newObj TT (.buildSlice 58 1 pl0) f = ob (fillL f.eval (placesA 4 pl0.toList) (repeatL [.int .i64 0, .int .i64 0, .int .i64 0, .int .i64 0] 1)) fun c => some (.cells c none) :=
  newObj_buildSlice 58 1 pl0 und_58 size_36 zero_36 rfl
theorem Fr.get_put_lt {f : Fr} {t m d : Nat} {v : Value} (h : t < m) (hd : m ≤ d) : (f.put (some d) v).get t = f.get t := by rw [Fr.get_put', if_neg (by omega)]
set_option maxRecDepth 100000 in
set_option maxHeartbeats 4000000 in
theorem made_ev (U K : Int) (ve vm : Value) (es : List (Int × Int)) (ms : List Int) (s : St) (hU : 0 ≤ U ∧ U < 256) (hes : EndsAt s ve es) (hms : BytesAt s vm ms) (hbe : ∀ e ∈ es, (0 ≤ e.1 ∧ e.1 < 256) ∧ (0 ≤ e.2 ∧ e.2 < 256)) (hbm : ∀ x ∈ ms, 0 ≤ x ∧ x < 256) :
    Ev TT 34 [millV U ve vm K] s fun r s' => Keep s s' ∧ ∃ (n : Nat) (w wr : Value), (n : Int) = 1 + U % 4 ∧ 1 ≤ n ∧ n ≤ 4 ∧ r = .tuple #[plantV n w, wr] ∧ OwnG 7 s.next s' w ((millFs n K ms es).map FlowD.cs) ∧ OwnG 4 s.next s' wr ((millReal n ms es).map Mass.cs) := by
  obtain ⟨ae, ce, rfl⟩ := hes.shape
  obtain ⟨am, cm, rfl⟩ := hms.shape
  rw [List.length_map] at hes hms ⊢
  rw [List.length_map]
  have hrem := intOp_rem .i64 U 4 hU.1 (by omega)
  obtain ⟨n, hn⟩ : ∃ n : Nat, (n : Int) = 1 + U % 4 := ⟨(1 + U % 4).toNat, by omega⟩
  have hn1 : 1 ≤ n := by omega
  have hn4 : n ≤ 4 := by omega
  unfold millV
  refine Ev.intro (fn := Try.f34) rfl (by kernel_rfl) rfl rfl ?_
  apply zz
  refine Cd.ra (h := ?_)
  apply Run.by_eq
  · intro self
    conv => lhs; simp -implicitDefEqProofs (maxSteps := 300000) (disch := omega) [-getElem?_pos, -getElem?_neg]
  try (with_reducible refine Run.ret ?_)
  apply zz
  refine Cd.ra (h := ?_)
  apply Run.by_eq
  · intro self
    conv => lhs; simp -implicitDefEqProofs (maxSteps := 300000) (disch := omega) [-getElem?_pos, -getElem?_neg, hrem]
  try (with_reducible refine Run.ret ?_)
  apply zz
  rw [← hn]
  apply zz
  refine Cd.ra (h := ?_)
  apply Run.by_eq
  · intro self
    conv => lhs; simp -implicitDefEqProofs (maxSteps := 300000) (disch := omega) [-getElem?_pos, -getElem?_neg]
  try (with_reducible refine Run.ret ?_)
  apply zz
  refine Cd.ra (h := ?_)
  apply Run.by_eq
  · intro self
    conv => lhs; simp -implicitDefEqProofs (maxSteps := 300000) (disch := omega) [-getElem?_pos, -getElem?_neg]
  try (with_reducible refine Run.ret ?_)
  apply zz
  refine Cd.ra (h := ?_)
  apply Run.by_eq
  · intro self
    conv => lhs; simp -implicitDefEqProofs (maxSteps := 300000) (disch := omega) [-getElem?_pos, -getElem?_neg]
  try (with_reducible refine Run.ret ?_)
  apply zz
  refine Cd.ra (h := ?_)
  apply Run.by_eq
  · intro self
    conv => lhs; simp -implicitDefEqProofs (maxSteps := 300000) (disch := omega) [-getElem?_pos, -getElem?_neg]
  try (with_reducible refine Run.ret ?_)
  apply zz
  refine Cd.ra (h := ?_)
  apply Run.by_eq
  · intro self
    conv => lhs; simp -implicitDefEqProofs (maxSteps := 300000) (disch := omega) [-getElem?_pos, -getElem?_neg]
  try (with_reducible refine Run.ret ?_)
  apply zz
  have hR0 : restL (fun _ => 0) = [.int .i64 0, .int .i64 0, .int .i64 0, .int .i64 0, .int .i64 0, .int .i64 0, .int .i64 0, .int .i64 0, .int .i64 0, .int .i64 0, .int .i64 0, .int .i64 0, .int .i64 0, .int .i64 0, .int .i64 0, .int .i64 0] := rfl
  refine Cd.mono (Q := fun x f s' => x = Ex.exit 0 ∧ ∃ w : Value, f.marks = [] ∧ f.get 1 = .pointer (some ⟨s.next, 0, none⟩) ∧ f.get 2 = .pointer (some ⟨s.next + 1, 0, none⟩) ∧ f.get 4 = .int .i64 n ∧ f.get 5 = .pointer (some ⟨s.next + 1 + 1, 0, none⟩) ∧ f.get 7 = .pointer (some ⟨s.next + 1 + 1 + 1, 0, none⟩) ∧
    Keep s s' ∧ s.next + 1 + 1 + 1 < s'.next ∧ s'.heap.get s.next = some (.cells [.int .u8 U, .slice ae es.length ce, .slice am ms.length cm, .int .u16 K] none) ∧ s'.heap.get (s.next + 1) = some (.cells [.int .i64 0, .slice none 0 0] none) ∧ s'.heap.get (s.next + 1 + 1) = some (.cells [.int .i64 n, w] none) ∧ s'.heap.get (s.next + 1 + 1 + 1) = some (.cells (restL (restR n ms es (millN es))) none) ∧
    OwnG 7 (s.next + 1 + 1 + 1 + 1) s' w (((List.range (millN es)).map fun j => millFlow n K ms j (eAt es j)).map FlowD.cs) ∧ OwnG 4 (s.next + 1 + 1 + 1 + 1) s' (f.get 6) (((List.range (millN es)).map fun j => massM ms j).map Mass.cs)) (Cd.inv (fun z f s' => ∃ (i : Nat) (w : Value), i ≤ millN es ∧ z = millN es - i ∧ f.marks = [] ∧ f.get 9 = .int .i64 i ∧ f.get 1 = .pointer (some ⟨s.next, 0, none⟩) ∧ f.get 2 = .pointer (some ⟨s.next + 1, 0, none⟩) ∧ f.get 4 = .int .i64 n ∧ f.get 5 = .pointer (some ⟨s.next + 1 + 1, 0, none⟩) ∧ f.get 7 = .pointer (some ⟨s.next + 1 + 1 + 1, 0, none⟩) ∧ f.get 8 = .func (.func 58) #[] #[.pointer (some ⟨s.next, 0, none⟩)] ∧
    Keep s s' ∧ s.next + 1 + 1 + 1 < s'.next ∧ s'.heap.get s.next = some (.cells [.int .u8 U, .slice ae es.length ce, .slice am ms.length cm, .int .u16 K] none) ∧ s'.heap.get (s.next + 1) = some (.cells [.int .i64 0, .slice none 0 0] none) ∧ s'.heap.get (s.next + 1 + 1) = some (.cells [.int .i64 n, w] none) ∧ s'.heap.get (s.next + 1 + 1 + 1) = some (.cells (restL (restR n ms es i)) none) ∧
    OwnG 7 (s.next + 1 + 1 + 1 + 1) s' w (((List.range i).map fun j => millFlow n K ms j (eAt es j)).map FlowD.cs) ∧ OwnG 4 (s.next + 1 + 1 + 1 + 1) s' (f.get 6) (((List.range i).map fun j => massM ms j).map Mass.cs)) (millN es) ?_ ?_) ?_
  · refine ⟨0, .slice none 0 0, by omega, rfl, by simp, by simp, by simp, by simp, by simp, by simp, by simp, by simp, ⟨by (try simp only [pushed_next', upded_next']); omega, fun i hi => by simp -implicitDefEqProofs (disch := omega) []⟩, by simp, ?_, ?_, ?_, ?_, .inl ⟨rfl, rfl⟩, .inl ⟨rfl, by simp⟩⟩
    · simp -implicitDefEqProofs (disch := omega)
    · simp -implicitDefEqProofs (disch := omega)
    · simp -implicitDefEqProofs (disch := omega)
    · show _ = some (AObj.cells (restL (fun _ => 0)) none)
      rw [hR0]
      simp -implicitDefEqProofs (disch := omega)
  rintro z f s' ⟨i, w, hi, rfl, hm, h9, h1, h2, h4, h5, h7, h8, hkp, hnx, hg0, hg1, hg2, hg3, hOF, hOR⟩
  have hkpa := hkp.1
  have hkpb := hkp.2
  have hN6 : millN es ≤ 6 := Nat.min_le_right _ _
  have hNl : millN es ≤ es.length := Nat.min_le_left _ _
  by_cases hlt : i < millN es
  · have hil : i < es.length := by omega
    have hi6 : ((i : Int) < 6) := by omega
    obtain ⟨e, he⟩ : ∃ e, es[i]? = some e := ⟨es[i], by simp [hil]⟩
    have hge := eAt_of he
    obtain ⟨⟨he1, he2⟩, he3, he4⟩ := hbe e (List.mem_of_getElem? he)
    obtain ⟨b, off, o, cs, gg, rfl, hb, ho, hc, ht0, ht1⟩ := EndsAt.at (hes.keep hkp) he
    have hr0 := intOp_rem .i64 e.1 ((n : Int) + 1) he1 (by omega)
    have hr1 := intOp_rem .i64 e.2 ((n : Int) + 1) he3 (by omega)
    have hE0 : e.1 % ((n : Int) + 1) - 1 = endI n e.1 := rfl
    have hE1 : e.2 % ((n : Int) + 1) - 1 = endI n e.2 := rfl
    have hm0 := Int.emod_nonneg e.1 (show (n : Int) + 1 ≠ 0 by omega)
    have hm0' := Int.emod_lt_of_pos e.1 (show 0 < (n : Int) + 1 by omega)
    have hm1 := Int.emod_nonneg e.2 (show (n : Int) + 1 ≠ 0 by omega)
    have hm1' := Int.emod_lt_of_pos e.2 (show 0 < (n : Int) + 1 by omega)
    have ve5 : veq 5 (Value.slice (some ⟨b, off, none⟩) es.length ce) (Value.slice (some ⟨b, off, none⟩) es.length ce) = true := veq_slice _ _ _ _ _
    generalize hF : endI n e.1 = F at hE0
    generalize hT : endI n e.2 = T0 at hE1
    generalize hB : bitB K i = B
    have hBe : decide (andB (shrB K i) = 1) = B := hB
    apply zz
    refine Cd.ra (h := ?_)
    apply Run.by_eq
    · intro self
      conv => lhs; simp -implicitDefEqProofs (maxSteps := 300000) (disch := omega) [-getElem?_pos, -getElem?_neg, h9, h1, hg0, hil, hi6]
    try (with_reducible refine Run.ret ?_)
    apply zz
    apply Cd.ite rfl
    · conv => lhs; simp -implicitDefEqProofs (maxSteps := 300000) (disch := omega) [-getElem?_pos, -getElem?_neg]
    all_goals intro c0
    all_goals try (cases c0; done)
    all_goals try simp only [Bool.not_eq_true', Bool.not_eq_false', decide_eq_true_eq, decide_eq_false_iff_not] at c0
    all_goals apply zz
    refine Cd.mono (Q := fun x f1 s1 => x = Ex.normal ∧ f1.marks = [] ∧ (∀ t : Nat, t < 10 → f1.get t = f.get t) ∧ f1.get 10 = .pointer (some ⟨s'.next, 0, none⟩) ∧ s1.next = s'.next + 1 ∧ Keep s' s1 ∧ s1.heap.get s'.next = some (.cells [.int .i64 F, .int .i64 T0, .bool B, .int .i64 0, .int .i64 0, .int .i64 0, .int .i64 0] none)) ?_ ?_
    · apply zz
      refine Cd.drawn (pl := [(0, 0, false, false), (1, 1, false, false), (2, 0, false, false), (3, 7, false, false), (4, 15, false, false), (5, 31, false, false), (6, 63, false, false), (7, 0, false, false), (8, 128, false, false), (9, 511, false, false), (10, 1023, false, false), (11, 0, false, false), (12, 2048, false, false), (13, 0, false, false), (14, 14336, false, false), (15, 30720, false, false), (16, 63488, false, false), (17, 129024, false, false), (18, 0, false, false), (19, 262144, false, false), (20, 1046528, false, false), (21, 2095104, false, false), (22, 0, false, false), (23, 4194304, false, false), (24, 0, false, false), (25, 29360128, false, false), (26, 62914560, false, false), (27, 130023424, false, false), (28, 268435455, false, false), (29, 0, false, true), (30, 1073741823, true, false)]) (by kernel_rfl) (by conv => lhs; simp only [List.map_cons, List.map_nil]) (by conv => lhs; simp [strip, ordered]) ?_
      apply Run.by_eq
      · intro self
        conv => lhs; simp -implicitDefEqProofs (maxSteps := 300000) (disch := omega) [filter_bt, (show ∀ i, Nat.testBit 1073741823 i = decide (i < 30) from fun i => Nat.testBit_two_pow_sub_one 30 i), -getElem?_pos, -getElem?_neg, h9, h1, h4, hg0, hil, ho, hc, ht0, ht1, hr0, hr1, hE0, hE1, hBe, ve5]
      try (with_reducible refine Run.ret ?_)
      apply zz
      exact ⟨rfl, by simp [hm], fun t ht => by (repeat rw [Fr.get_put_lt ht (by decide)]), by simp, by simp, ⟨by (try simp only [pushed_next', upded_next']); omega, fun i hi => by simp -implicitDefEqProofs (disch := omega) []⟩, by simp -implicitDefEqProofs (disch := omega)⟩
    rintro x f1 s1 ⟨rfl, hm1, hfk1, g10, hnx1, hk1, hg10⟩
    have hk1a := hk1.1
    have hk1b := hk1.2
    obtain ⟨TO, hTO⟩ : ∃ TO, TO = millTo n e := ⟨_, rfl⟩
    have hTOv : TO = if F = T0 then (F + 2) % ((n : Int) + 1) - 1 else T0 := by rw [hTO]; unfold millTo; rw [hF, hT]
    have hFr := @endI_range n e.1
    rw [hF] at hFr
    have hTr := @millTo_range n e
    rw [← hTO] at hTr
    have hFT : F ≠ TO := by rw [hTO, ← hF]; exact millTo_ne hn1
    refine SeqK.nm (Cd.seq (Cd.mono (Q := fun x f2 s2 => x = Ex.normal ∧ f2.marks = [] ∧ (∀ t : Nat, t < 11 → f2.get t = f1.get t) ∧ s2.next = s1.next ∧ (∀ j, j ≠ s'.next → s2.heap.get j = s1.heap.get j) ∧ s2.heap.get s'.next = some (.cells [.int .i64 F, .int .i64 TO, .bool B, .int .i64 0, .int .i64 0, .int .i64 0, .int .i64 0] none)) ?_ ?_))
    · have g4 := (hfk1 4 (by omega)).trans h4
      have hr2 := intOp_rem .i64 (F + 2) ((n : Int) + 1) (by omega) (by omega)
      have hq0 := Int.emod_nonneg (F + 2) (show (n : Int) + 1 ≠ 0 by omega)
      have hq1 := Int.emod_lt_of_pos (F + 2) (show 0 < (n : Int) + 1 by omega)
      apply zz
      refine Cd.ra (h := ?_)
      apply Run.by_eq
      · intro self
        conv => lhs; simp -implicitDefEqProofs (maxSteps := 300000) (disch := omega) [-getElem?_pos, -getElem?_neg, g10, hg10]
      try (with_reducible refine Run.ret ?_)
      apply zz
      apply Cd.ite rfl
      · conv => lhs; simp -implicitDefEqProofs (maxSteps := 300000) (disch := omega) [-getElem?_pos, -getElem?_neg]
      all_goals intro c1
      all_goals try (cases c1; done)
      all_goals try simp only [Bool.not_eq_true', Bool.not_eq_false', decide_eq_true_eq, decide_eq_false_iff_not] at c1
      all_goals apply zz
      · rw [if_pos c1] at hTOv
        apply zz
        refine Cd.ra (h := ?_)
        apply Run.by_eq
        · intro self
          conv => lhs; simp -implicitDefEqProofs (maxSteps := 300000) (disch := omega) [-getElem?_pos, -getElem?_neg, g10, g4, hg10, hr2]
        try (with_reducible refine Run.ret ?_)
        apply zz
        rw [← hTOv]
        exact ⟨rfl, by simp [hm1], fun t ht => by (repeat rw [Fr.get_put_lt ht (by decide)]), by simp, fun j hj => by simp -implicitDefEqProofs (disch := omega) [get_upded_other], by simp -implicitDefEqProofs (disch := omega) [hg10]⟩
      · rw [if_neg c1] at hTOv
        rw [← hTOv] at hg10
        exact ⟨rfl, by simp [hm1], fun t ht => by (repeat rw [Fr.get_put_lt ht (by decide)]), rfl, fun j hj => rfl, hg10⟩
    rintro x f2 s2 ⟨rfl, hm2, hfk2, hnx2, hk2, hG10⟩
    have p1 := ((hfk2 1 (by omega)).trans (hfk1 1 (by omega))).trans h1
    have p2 := ((hfk2 2 (by omega)).trans (hfk1 2 (by omega))).trans h2
    have p4 := ((hfk2 4 (by omega)).trans (hfk1 4 (by omega))).trans h4
    have p5 := ((hfk2 5 (by omega)).trans (hfk1 5 (by omega))).trans h5
    have p6 := (hfk2 6 (by omega)).trans (hfk1 6 (by omega))
    have p7 := ((hfk2 7 (by omega)).trans (hfk1 7 (by omega))).trans h7
    have p8 := ((hfk2 8 (by omega)).trans (hfk1 8 (by omega))).trans h8
    have p9 := ((hfk2 9 (by omega)).trans (hfk1 9 (by omega))).trans h9
    have p10 := (hfk2 10 (by omega)).trans g10
    have H0 := ((hk2 s.next (by omega)).trans (hk1b _ (by omega))).trans hg0
    have H1 := ((hk2 (s.next + 1) (by omega)).trans (hk1b _ (by omega))).trans hg1
    have H2 := ((hk2 (s.next + 1 + 1) (by omega)).trans (hk1b _ (by omega))).trans hg2
    have H3 := ((hk2 (s.next + 1 + 1 + 1) (by omega)).trans (hk1b _ (by omega))).trans hg3
    have hk2' : ∀ j, j < s'.next → s2.heap.get j = s'.heap.get j := fun j hj => (hk2 j (by omega)).trans (hk1b j hj)
    have hOF2 := hOF.keep (s' := s2) (by omega) fun j _ hj => hk2' j hj
    have hOR2 := hOR.keep (s' := s2) (by omega) fun j _ hj => hk2' j hj
    have hkp2 : Keep s s2 := ⟨by omega, fun j hj => (hk2' j (by omega)).trans (hkpb j hj)⟩
    have hN2 : s2.next = s'.next + 1 := by omega
    have hRS : restR n ms es (i + 1) = restK F TO ms i 4 (restR n ms es i) := by
      show restK (endI n (eAt es i).1) (millTo n (eAt es i)) ms i 4 (restR n ms es i) = _
      rw [hge, hF, hTO]
    have hFLW : millFlow n K ms i (eAt es i) = ⟨F, TO, B, if B = true then massM ms i else Mass.zero⟩ := by
      unfold millFlow
      rw [hge, hF, ← hTO, hB]
    clear hfk1 hfk2 hg0 hg1 hg2 hg3 hg10 h1 h2 h4 h5 h7 h8 h9 g10 hk2 hk1 hk1a hk1b hOF hOR ho hc ht0 ht1 hE0 hE1 hr0 hr1 hm0 hm0' hm1 hm1'
    obtain ⟨b10, hb10⟩ : ∃ b10, b10 = s'.next := ⟨_, rfl⟩
    rw [← hb10] at hG10 p10 hN2 hk2'
    have hb10' : s.next + 1 + 1 + 1 < b10 := by omega
    apply zz
    refine Cd.ra (h := ?_)
    apply Run.by_eq
    · intro self
      conv => lhs; simp -implicitDefEqProofs (maxSteps := 300000) (disch := omega) [-getElem?_pos, -getElem?_neg]
    try (with_reducible refine Run.ret ?_)
    apply zz
    refine Cd.ra (h := ?_)
    apply Run.by_eq
    · intro self
      conv => lhs; simp -implicitDefEqProofs (maxSteps := 300000) (disch := omega) [-getElem?_pos, -getElem?_neg]
    try (with_reducible refine Run.ret ?_)
    apply zz
    have hRb : ∀ p, -1536 ≤ restR n ms es i p ∧ restR n ms es i p ≤ 1536 := fun p => by
      have := restR_le (n := n) (es := es) hbm i p
      omega
    generalize restR n ms es i = R at hRb H3 hRS
    have hm0 : massL ms i 0 = [.int .i64 0, .int .i64 0, .int .i64 0, .int .i64 0] := rfl
    have hTO0 : TO = -1 ∨ 0 ≤ TO := by omega
    refine Cd.inv (fun z f s4 => ∃ k : Nat, k ≤ 4 ∧ z = 4 - k ∧ f.marks = [] ∧ f.get 77 = .int .i64 k ∧ (∀ t : Nat, t < 11 → f.get t = f2.get t) ∧ f.get 11 = .pointer (some ⟨b10 + 1, 0, none⟩) ∧ b10 + 1 < s4.next ∧ (∀ j, j ≤ b10 → j ≠ s.next + 1 + 1 + 1 → s4.heap.get j = s2.heap.get j) ∧ s4.heap.get (s.next + 1 + 1 + 1) = some (.cells (restL (restK F TO ms i k R)) none) ∧ s4.heap.get (b10 + 1) = some (.cells (massL ms i k) none)) 4 ?_ ?_
    · refine ⟨0, by omega, rfl, by simp [hm2], by simp, fun t ht => by (repeat rw [Fr.get_put_lt ht (by decide)]), by simp [hN2], by simp [hN2], fun j hj hj2 => ?_, ?_, ?_⟩
      · simp -implicitDefEqProofs (disch := omega)
      · rw [restK_zero]; simp -implicitDefEqProofs (disch := omega) [H3]
      · rw [hm0, ← hN2]; simp -implicitDefEqProofs (disch := omega)
    rintro z f4 s4 ⟨k, hk, rfl, hm4, g77, hf4, g11, hn4', ho4, hr4, hM4⟩
    have q1 := (hf4 1 (by omega)).trans p1
    have q7 := (hf4 7 (by omega)).trans p7
    have q8 := (hf4 8 (by omega)).trans p8
    have q9 := (hf4 9 (by omega)).trans p9
    have q10 := (hf4 10 (by omega)).trans p10
    have K0 := (ho4 s.next (by omega) (by omega)).trans H0
    have K10 := (ho4 b10 (by omega) (by omega)).trans hG10
    have hkp4 : Keep s s4 := ⟨by omega, fun j hj => (ho4 j (by omega) (by omega)).trans (hkp2.2 j hj)⟩
    have hkp4a := hkp4.1
    have hkp4b := hkp4.2
    by_cases hk4 : k < 4
    · have hmp := massL_put ms i hk4
      have hmg := massL_get ms i hk4
      have hml := mass1_le hbm i k
      have hK4 : ((k : Int) < 4) := by omega
      apply zz
      refine Cd.ra (h := ?_)
      apply Run.by_eq
      · intro self
        conv => lhs; simp -implicitDefEqProofs (maxSteps := 300000) (disch := omega) [-getElem?_pos, -getElem?_neg, g77]
      try (with_reducible refine Run.ret ?_)
      apply zz
      apply Cd.ite rfl
      · conv => lhs; simp -implicitDefEqProofs (maxSteps := 300000) (disch := omega) [-getElem?_pos, -getElem?_neg]
      all_goals intro c2
      all_goals try (cases c2; done)
      all_goals try simp only [Bool.not_eq_true', Bool.not_eq_false', decide_eq_true_eq, decide_eq_false_iff_not] at c2
      all_goals apply zz
      · apply zz
        refine Cd.ra (h := ?_)
        apply Run.by_eq
        · intro self
          conv => lhs; simp -implicitDefEqProofs (maxSteps := 300000) (disch := omega) [-getElem?_pos, -getElem?_neg, g77]
        try (with_reducible refine Run.ret ?_)
        apply zz
        refine Cd.ra (h := ?_)
        apply Run.by_eq
        · intro self
          conv => lhs; simp -implicitDefEqProofs (maxSteps := 300000) (disch := omega) [-getElem?_pos, -getElem?_neg, q8, q9]
        try (with_reducible refine Run.ret ?_)
        apply zz
        refine Run.call ((mass_ev U K (.slice (some ⟨b, off, none⟩) es.length ce) _ ms i k s.next _ (by omega) hk4 (by omega) (by simp -implicitDefEqProofs (disch := omega) [K0]) (hms.keep ⟨by (try simp only [pushed_next', upded_next']); omega, fun i hi => by simp -implicitDefEqProofs (disch := omega) [hkp4b]⟩) hbm).mono fun v wy hv => ?_)
        obtain ⟨rfl, y⟩ := hv
        have ya := y.1
        have yb := y.2
        try simp only [pushed_next', upded_next'] at ya yb
        have yb10 := (yb b10 (by omega)).trans K10
        have yb11 := (yb (b10 + 1) (by omega)).trans hM4
        have ybR := (yb (s.next + 1 + 1 + 1) (by omega)).trans hr4
        apply Run.by_eq
        · intro self
          conv => lhs; simp -implicitDefEqProofs (maxSteps := 300000) (disch := omega) [-getElem?_pos, -getElem?_neg, g11, yb11, hmp]
        try (with_reducible refine Run.ret ?_)
        apply zz
        have hRk := fun p => restK_le (fr := F) (to := TO) (i := i) (k := k) hbm hRb p
        apply zz
        refine Cd.ra (h := ?_)
        apply Run.by_eq
        · intro self
          conv => lhs; simp -implicitDefEqProofs (maxSteps := 300000) (disch := omega) [-getElem?_pos, -getElem?_neg, q10, yb10]
        try (with_reducible refine Run.ret ?_)
        apply zz
        refine Cd.mono (Q := fun x f5 s5 => x = Ex.normal ∧ f5.marks = [] ∧ f5.get 77 = .int .i64 k ∧ f5.get 12 = .int .i64 k ∧ (∀ t : Nat, t < 11 → f5.get t = f2.get t) ∧ f5.get 11 = .pointer (some ⟨b10 + 1, 0, none⟩) ∧ b10 + 1 < s5.next ∧ (∀ j, j ≤ b10 → j ≠ s.next + 1 + 1 + 1 → s5.heap.get j = s2.heap.get j) ∧ s5.heap.get (s.next + 1 + 1 + 1) = some (.cells (restL (restT TO ms i k (restK F TO ms i k R))) none) ∧ s5.heap.get (b10 + 1) = some (.cells (massL ms i (k + 1)) none)) ?_ ?_
        · apply zz
          apply Cd.ite rfl
          · conv => lhs; simp -implicitDefEqProofs (maxSteps := 300000) (disch := omega) [-getElem?_pos, -getElem?_neg]
          all_goals intro c3
          all_goals try (cases c3; done)
          all_goals try simp only [Bool.not_eq_true', Bool.not_eq_false', decide_eq_true_eq, decide_eq_false_iff_not] at c3
          all_goals apply zz
          · obtain ⟨t, rfl⟩ : ∃ t : Nat, TO = t := ⟨TO.toNat, by omega⟩
            have htk : t * 4 + k < 16 := by omega
            have hget := restL_get (restK F t ms i k R) htk
            have hput := restL_put (restK F t ms i k R) htk (restK F t ms i k R (t * 4 + k) + mass1 ms i k)
            have hput2 := restK_to (fr := F) (to := t) (ms := ms) (i := i) (R := R) hk4 (by omega) hFT
            rw [Int.toNat_natCast] at hput2
            rw [hput2, show (fun q => restK F t ms i k R q + (if ((q / 4 : Nat) : Int) = (t : Int) ∧ q % 4 = k then mass1 ms i (q % 4) else 0)) = restT t ms i k (restK F t ms i k R) from rfl] at hput
            have hRb1 := hRk (t * 4 + k)
            generalize restK F t ms i k R (t * 4 + k) = X at hget hput hRb1
            generalize mass1 ms i k = Y at hmg hml hput
            have ht4 : ((t : Int) < 4) := by omega
            apply zz
            refine Cd.drawnH (pl := [(0, 0, false, false), (1, 1, false, false), (2, 0, false, false), (3, 3, false, false), (4, 15, false, false), (5, 31, false, false), (6, 0, false, false), (7, 64, false, false), (8, 192, false, false), (9, 511, false, false), (10, 3, false, false), (11, 2047, false, false), (12, 4095, true, false)]) [false, false, false, false, false, false, false, false, false, false, false, false, false] (by kernel_rfl) (by decide) (by decide) (by conv => lhs; simp only [List.map_cons, List.map_nil]) (by conv => lhs; simp [strip, orderedG, flagH]) ?_
            apply Run.by_eq
            · intro self
              conv => lhs; simp -implicitDefEqProofs (maxSteps := 300000) (disch := omega) [-getElem?_pos, -getElem?_neg, q10, yb10, q7, g11, yb11, hmg, ybR, hget, hput, ht4]
            try (with_reducible refine Run.ret ?_)
            apply zz
            refine ⟨rfl, by simp [hm4], by simp [g77], by simp, fun t ht => by (repeat rw [Fr.get_put_lt ht (by decide)]); exact hf4 t ht, by simp [g11], by simp; omega, fun j hj hj2 => ?_, ?_, ?_⟩
            · simp -implicitDefEqProofs (disch := omega) [yb, ho4]
            · simp -implicitDefEqProofs (disch := omega)
            · simp -implicitDefEqProofs (disch := omega)
          · have hTn : TO = -1 := by omega
            refine ⟨rfl, by simp [hm4], by simp [g77], by simp, fun t ht => by (repeat rw [Fr.get_put_lt ht (by decide)]); exact hf4 t ht, by simp [g11], by simp; omega, fun j hj hj2 => ?_, ?_, ?_⟩
            · simp -implicitDefEqProofs (disch := omega) [yb, ho4]
            · have hz : restT TO ms i k (restK F TO ms i k R) = restK F TO ms i k R := funext fun q => restT_no (by omega)
              rw [hz]
              simp -implicitDefEqProofs (disch := omega) [ybR]
            · simp -implicitDefEqProofs (disch := omega)
        rintro x f5 s5 ⟨rfl, hm5, r77, r12, hf5, r11, hn5', ho5, hr5, hM5⟩
        have u7 := (hf5 7 (by omega)).trans p7
        have u10 := (hf5 10 (by omega)).trans p10
        have U10 := (ho5 b10 (by omega) (by omega)).trans hG10
        apply zz
        refine Cd.ra (h := ?_)
        apply Run.by_eq
        · intro self
          conv => lhs; simp -implicitDefEqProofs (maxSteps := 300000) (disch := omega) [-getElem?_pos, -getElem?_neg, u10, U10]
        try (with_reducible refine Run.ret ?_)
        apply zz
        apply Cd.ite rfl
        · conv => lhs; simp -implicitDefEqProofs (maxSteps := 300000) (disch := omega) [-getElem?_pos, -getElem?_neg]
        all_goals intro c4
        all_goals try (cases c4; done)
        all_goals try simp only [Bool.not_eq_true', Bool.not_eq_false', decide_eq_true_eq, decide_eq_false_iff_not] at c4
        all_goals apply zz
        · obtain ⟨t, rfl⟩ : ∃ t : Nat, F = t := ⟨F.toNat, by omega⟩
          have htk : t * 4 + k < 16 := by omega
          have hput := restL_put (restT TO ms i k (restK t TO ms i k R)) htk (restK t TO ms i k R (t * 4 + k) - mass1 ms i k)
          have hget := restL_get (restT TO ms i k (restK t TO ms i k R)) htk
          have hdm : (t * 4 + k) / 4 = t ∧ (t * 4 + k) % 4 = k := by omega
          rw [restT_no (fun h => hFT (by rw [← h.1, hdm.1]))] at hget
          have hput2 : (fun q => if q = t * 4 + k then restK t TO ms i k R (t * 4 + k) - mass1 ms i k else restT TO ms i k (restK t TO ms i k R) q) = restK t TO ms i (k + 1) R := by
            funext q
            rw [restT_next q]
            by_cases e : q = t * 4 + k
            · subst e
              rw [if_pos rfl, restT_no (fun h => hFT (by rw [← h.1, hdm.1])), hdm.1, hdm.2, if_pos ⟨rfl, rfl⟩]
            · rw [if_neg e, if_neg (show ¬ (((q / 4 : Nat) : Int) = t ∧ q % 4 = k) by omega)]; omega
          rw [hput2] at hput
          have hRb1 := hRk (t * 4 + k)
          generalize restK t TO ms i k R (t * 4 + k) = X at hget hput hRb1
          generalize mass1 ms i k = Y at hmg hml hput
          have ht4 : ((t : Int) < 4) := by omega
          apply zz
          refine Cd.drawnH (pl := [(0, 0, false, false), (1, 1, false, false), (2, 0, false, false), (3, 3, false, false), (4, 15, false, false), (5, 31, false, false), (6, 0, false, false), (7, 64, false, false), (8, 192, false, false), (9, 511, false, false), (10, 3, false, false), (11, 2047, false, false), (12, 4095, true, false)]) [false, false, false, false, false, false, false, false, false, false, false, false, false] (by kernel_rfl) (by decide) (by decide) (by conv => lhs; simp only [List.map_cons, List.map_nil]) (by conv => lhs; simp [strip, orderedG, flagH]) ?_
          apply Run.by_eq
          · intro self
            conv => lhs; simp -implicitDefEqProofs (maxSteps := 300000) (disch := omega) [-getElem?_pos, -getElem?_neg, u10, U10, u7, r11, r12, hM5, hmg, hr5, hget, hput, ht4]
          try (with_reducible refine Run.ret ?_)
          apply zz
          refine Cd.ra (h := ?_)
          apply Run.by_eq
          · intro self
            conv => lhs; simp -implicitDefEqProofs (maxSteps := 300000) (disch := omega) [-getElem?_pos, -getElem?_neg, r77]
          try (with_reducible refine Run.ret ?_)
          apply zz
          refine LoopK.nm (4 - (k + 1)) (by omega) ⟨k + 1, by omega, rfl, by simp [hm5], by simp, fun t ht => by (repeat rw [Fr.get_put_lt ht (by decide)]); exact hf5 t ht, by simp [r11], by simp; omega, fun j hj hj2 => ?_, ?_, ?_⟩
          · simp -implicitDefEqProofs (disch := omega) [ho5]
          · simp -implicitDefEqProofs (disch := omega)
          · simp -implicitDefEqProofs (disch := omega) [hM5]
        · have hz : restT TO ms i k (restK F TO ms i k R) = restK F TO ms i (k + 1) R := by
            funext q
            rw [restT_next q, if_neg (show ¬ (((q / 4 : Nat) : Int) = F ∧ q % 4 = k) by omega)]; omega
          rw [hz] at hr5
          apply zz
          refine Cd.ra (h := ?_)
          apply Run.by_eq
          · intro self
            conv => lhs; simp -implicitDefEqProofs (maxSteps := 300000) (disch := omega) [-getElem?_pos, -getElem?_neg, r77]
          try (with_reducible refine Run.ret ?_)
          apply zz
          exact LoopK.nm (4 - (k + 1)) (by omega) ⟨k + 1, by omega, rfl, by simp [hm5], by simp, fun t ht => by (repeat rw [Fr.get_put_lt ht (by decide)]); exact hf5 t ht, by simp [r11], by omega, ho5, hr5, hM5⟩
      · omega
    obtain rfl : k = 4 := by omega
    apply zz
    refine Cd.ra (h := ?_)
    apply Run.by_eq
    · intro self
      conv => lhs; simp -implicitDefEqProofs (maxSteps := 300000) (disch := omega) [-getElem?_pos, -getElem?_neg, g77]
    try (with_reducible refine Run.ret ?_)
    apply zz
    apply Cd.ite rfl
    · conv => lhs; simp -implicitDefEqProofs (maxSteps := 300000) (disch := omega) [-getElem?_pos, -getElem?_neg]
    all_goals intro c2
    all_goals try (cases c2; done)
    all_goals try simp only [Bool.not_eq_true', Bool.not_eq_false', decide_eq_true_eq, decide_eq_false_iff_not] at c2
    all_goals apply zz
    have hM4' : s4.heap.get (b10 + 1) = some (.cells [.int .i64 (massM ms i).a, .int .i64 (massM ms i).b, .int .i64 (massM ms i).c, .int .i64 (massM ms i).d] none) := hM4
    generalize hMM : massM ms i = MM at hM4' hFLW
    obtain ⟨M5, hM5⟩ : ∃ M5, M5 = if B = true then MM else Mass.zero := ⟨_, rfl⟩
    rw [← hM5] at hFLW
    apply zz
    refine Cd.ra (h := ?_)
    apply Run.by_eq
    · intro self
      conv => lhs; simp -implicitDefEqProofs (maxSteps := 300000) (disch := omega) [-getElem?_pos, -getElem?_neg, q10, K10]
    try (with_reducible refine Run.ret ?_)
    apply zz
    refine Cd.mono (Q := fun x f5 s5 => x = Ex.normal ∧ f5.marks = [] ∧ (∀ t : Nat, t < 11 → f5.get t = f2.get t) ∧ f5.get 11 = .pointer (some ⟨b10 + 1, 0, none⟩) ∧ s5.next = s4.next ∧ (∀ j, j ≠ b10 → s5.heap.get j = s4.heap.get j) ∧ s5.heap.get b10 = some (.cells [.int .i64 F, .int .i64 TO, .bool B, .int .i64 M5.a, .int .i64 M5.b, .int .i64 M5.c, .int .i64 M5.d] none)) ?_ ?_
    · apply zz
      apply Cd.ite rfl
      · conv => lhs; simp -implicitDefEqProofs (maxSteps := 300000) (disch := omega) [-getElem?_pos, -getElem?_neg]
      all_goals intro c5
      all_goals try (cases c5; done)
      all_goals try simp only [Bool.not_eq_true', Bool.not_eq_false', decide_eq_true_eq, decide_eq_false_iff_not] at c5
      all_goals apply zz
      · subst c5
        rw [if_pos rfl] at hM5
        subst hM5
        apply zz
        refine Cd.ra (h := ?_)
        apply Run.by_eq
        · intro self
          conv => lhs; simp -implicitDefEqProofs (maxSteps := 300000) (disch := omega) [-getElem?_pos, -getElem?_neg, q10, g11, hM4', K10]
        try (with_reducible refine Run.ret ?_)
        apply zz
        refine ⟨rfl, by simp [hm4], fun t ht => by (repeat rw [Fr.get_put_lt ht (by decide)]); exact hf4 t ht, by simp [g11], by simp, fun j hj => ?_, ?_⟩
        · simp -implicitDefEqProofs (disch := omega)
        · simp -implicitDefEqProofs (disch := omega)
      · subst c5
        rw [if_neg (by decide)] at hM5
        subst hM5
        exact ⟨rfl, by simp [hm4], fun t ht => by (repeat rw [Fr.get_put_lt ht (by decide)]); exact hf4 t ht, by simp [g11], rfl, fun j hj => rfl, K10⟩
    rintro x f5 s5 ⟨rfl, hm5, hf5, r11, hn5, ho5, hr5⟩
    have u1 := (hf5 1 (by omega)).trans p1
    have u2 := (hf5 2 (by omega)).trans p2
    have u4 := (hf5 4 (by omega)).trans p4
    have u5 := (hf5 5 (by omega)).trans p5
    have u6 := (hf5 6 (by omega)).trans p6
    have u7 := (hf5 7 (by omega)).trans p7
    have u8 := (hf5 8 (by omega)).trans p8
    have u9 := (hf5 9 (by omega)).trans p9
    have u10 := (hf5 10 (by omega)).trans p10
    have ho' : ∀ j, j < b10 → j ≠ s.next + 1 + 1 + 1 → s5.heap.get j = s2.heap.get j := fun j h1 h2 => (ho5 j (by omega)).trans (ho4 j (by omega) h2)
    have U0 := (ho' s.next (by omega) (by omega)).trans H0
    have U1 := (ho' (s.next + 1) (by omega) (by omega)).trans H1
    have U2 := (ho' (s.next + 1 + 1) (by omega) (by omega)).trans H2
    have U3 := (ho5 (s.next + 1 + 1 + 1) (by omega)).trans hr4
    have U11 := (ho5 (b10 + 1) (by omega)).trans hM4'
    have hkp5 : Keep s s5 := ⟨by omega, fun j hj => (ho' j (by omega) (by omega)).trans (hkp2.2 j hj)⟩
    have hkp5a := hkp5.1
    have hkp5b := hkp5.2
    rw [← hRS] at U3
    have hL1 : (((List.range i).map fun j => millFlow n K ms j (eAt es j)).map FlowD.cs).length = i := by simp
    have hL2 : (((List.range i).map fun j => massM ms j).map Mass.cs).length = i := by simp
    have hS1 : ((List.range (i + 1)).map fun j => millFlow n K ms j (eAt es j)).map FlowD.cs = ((List.range i).map fun j => millFlow n K ms j (eAt es j)).map FlowD.cs ++ [[.int .i64 F, .int .i64 TO, .bool B, .int .i64 M5.a, .int .i64 M5.b, .int .i64 M5.c, .int .i64 M5.d]] := by
      rw [List.range_succ, List.map_append, List.map_append]
      simp only [List.map_cons, List.map_nil, hFLW]
      rfl
    have hS2 : ((List.range (i + 1)).map fun j => massM ms j).map Mass.cs = ((List.range i).map fun j => massM ms j).map Mass.cs ++ [[.int .i64 MM.a, .int .i64 MM.b, .int .i64 MM.c, .int .i64 MM.d]] := by
      rw [List.range_succ, List.map_append, List.map_append]
      simp only [List.map_cons, List.map_nil, hMM]
      rfl
    have hfl1 := flat_len (flows_len ((List.range i).map fun j => millFlow n K ms j (eAt es j)))
    have hfl2 := flat_len (masses_len ((List.range i).map fun j => massM ms j))
    rw [hL1] at hfl1
    rw [hL2] at hfl2
    rw [← u6] at hOR2
    generalize ((List.range i).map fun j => millFlow n K ms j (eAt es j)).map FlowD.cs = L1 at hOF2 hL1 hS1 hfl1
    generalize ((List.range i).map fun j => massM ms j).map Mass.cs = L2 at hOR2 hL2 hS2 hfl2
    apply zz
    refine Cd.mono (Q := fun x f6 s6 => x = Ex.normal ∧ f6.marks = [] ∧ f6.get 1 = .pointer (some ⟨s.next, 0, none⟩) ∧ f6.get 2 = .pointer (some ⟨s.next + 1, 0, none⟩) ∧ f6.get 4 = .int .i64 n ∧ f6.get 5 = .pointer (some ⟨s.next + 1 + 1, 0, none⟩) ∧ f6.get 7 = .pointer (some ⟨s.next + 1 + 1 + 1, 0, none⟩) ∧ f6.get 8 = .func (.func 58) #[] #[.pointer (some ⟨s.next, 0, none⟩)] ∧ f6.get 9 = .int .i64 i ∧ Keep s s6 ∧ s.next + 1 + 1 + 1 < s6.next ∧ ∃ w',
      s6.heap.get s.next = some (.cells [.int .u8 U, .slice (some ⟨b, off, none⟩) es.length ce, .slice am ms.length cm, .int .u16 K] none) ∧ s6.heap.get (s.next + 1) = some (.cells [.int .i64 0, .slice none 0 0] none) ∧ s6.heap.get (s.next + 1 + 1) = some (.cells [.int .i64 n, w'] none) ∧ s6.heap.get (s.next + 1 + 1 + 1) = some (.cells (restL (restR n ms es (i + 1))) none) ∧
      OwnG 7 (s.next + 1 + 1 + 1 + 1) s6 w' (((List.range (i + 1)).map fun j => millFlow n K ms j (eAt es j)).map FlowD.cs) ∧ OwnG 4 (s.next + 1 + 1 + 1 + 1) s6 (f6.get 6) (((List.range (i + 1)).map fun j => massM ms j).map Mass.cs)) ?_ ?_
    · rcases hOF2 with ⟨e1, rfl⟩ | ⟨bw, rfl, hne1, hw1, hw2, hw3⟩
      · have hi0 : i = 0 := by rw [← hL1, e1]; rfl
        subst hi0
        rcases hOR2 with ⟨e2, ew⟩ | ⟨br, ew, hne2, hv1, hv2, hv3⟩
        · apply zz
          refine Cd.drawn (pl := [(0, 0, false, false), (1, 1, false, false), (2, 0, false, false), (3, 4, false, true), (5, 0, false, false), (6, 0, false, false), (7, 64, false, true), (4, 15, true, false), (9, 31, false, false), (8, 255, true, false), (10, 1023, true, false), (11, 2047, false, false)]) (by kernel_rfl) (by conv => lhs; simp only [List.map_cons, List.map_nil]) (by conv => lhs; simp [strip, ordered]) ?_
          apply Run.by_eq
          · intro self
            conv => lhs; simp -implicitDefEqProofs (maxSteps := 300000) (disch := omega) [filter_bt, (show ∀ i, Nat.testBit 15 i = decide (i < 4) from fun i => Nat.testBit_two_pow_sub_one 4 i), (show ∀ i, Nat.testBit 255 i = decide (i < 8) from fun i => Nat.testBit_two_pow_sub_one 8 i), (show ∀ i, Nat.testBit 1023 i = decide (i < 10) from fun i => Nat.testBit_two_pow_sub_one 10 i), -getElem?_pos, -getElem?_neg, u5, U2, u10, hr5, ew, r11, U11]
          try (with_reducible refine Run.ret ?_)
          apply zz
          refine ⟨rfl, by simp [hm5], by simp [u1], by simp [u2], by simp [u4], by simp [u5], by simp [u7], by simp [u8], by simp [u9], ⟨by (try simp only [pushed_next', upded_next']); omega, fun i hi => by simp -implicitDefEqProofs (disch := omega) [hkp5b]⟩, by (try simp only [pushed_next', upded_next']); omega, .slice (some ⟨s5.next + 1 + 1, 0, none⟩) (0 + 1) (0 + 1), ?_, ?_, ?_, ?_, ?_, ?_⟩
          · simp -implicitDefEqProofs (disch := omega) [U0]
          · simp -implicitDefEqProofs (disch := omega) [U1]
          · simp -implicitDefEqProofs (disch := omega)
          · simp -implicitDefEqProofs (disch := omega) [U3]
          · rw [hS1]
            refine OwnG.snoc hL1 (by omega) (by (try simp only [pushed_next', upded_next']); omega) ?_
            simp -implicitDefEqProofs (disch := omega) [e1]
          · rw [hS2]
            simp only [Fr.get_put', if_true]
            refine OwnG.snoc (b := s5.next + 1 + 1 + 1) hL2 (by omega) (by (try simp only [pushed_next', upded_next']); omega) ?_
            simp -implicitDefEqProofs (disch := omega) [e2]
        · exact absurd (List.eq_nil_of_length_eq_zero hL2) hne2
      · have hi0 : 0 < i := by rw [← hL1]; exact List.length_pos_iff.2 hne1
        rcases hOR2 with ⟨e2, ew⟩ | ⟨br, ew, hne2, hv1, hv2, hv3⟩
        · rw [e2] at hL2; simp at hL2; omega
        · rw [hL2] at ew
          rw [hL1] at U2
          have hbw : bw ≠ b10 := fun e => by rw [e, hG10] at hw3; simp at hw3
          have hbr : br ≠ b10 := fun e => by rw [e, hG10] at hv3; simp at hv3
          have hbb : bw ≠ br := fun e => by rw [e, hv3] at hw3; simp at hw3
          have hw5 := (ho' bw (by omega) (by omega)).trans hw3
          have hv5 := (ho' br (by omega) (by omega)).trans hv3
          have happ1 := appV_moreE (size := 7) (n := i) (b := bw) (b2 := s5.next) (old := L1.flatten) (s := (s5.pushed (.cells [.int .i64 F, .int .i64 TO, .bool B, .int .i64 M5.a, .int .i64 M5.b, .int .i64 M5.c, .int .i64 M5.d] none)).pushed (.cells [.int .i64 MM.a, .int .i64 MM.b, .int .i64 MM.c, .int .i64 MM.d] none)) (by simp -implicitDefEqProofs (disch := omega) [hw5]) hfl1 (by omega)
          have happ2 := appV_moreE (size := 4) (n := i) (b := br) (b2 := s5.next + 1) (old := L2.flatten) (s := ((((s5.pushed (.cells [.int .i64 F, .int .i64 TO, .bool B, .int .i64 M5.a, .int .i64 M5.b, .int .i64 M5.c, .int .i64 M5.d] none)).pushed (.cells [.int .i64 MM.a, .int .i64 MM.b, .int .i64 MM.c, .int .i64 MM.d] none)).upded bw .dead).pushed (.cells (L1.flatten ++ [.int .i64 F, .int .i64 TO, .bool B, .int .i64 M5.a, .int .i64 M5.b, .int .i64 M5.c, .int .i64 M5.d]) (some 7)))) (by simp -implicitDefEqProofs (disch := omega) [hv5]) hfl2 (by omega)
          apply zz
          refine Cd.drawn (pl := [(0, 0, false, false), (1, 1, false, false), (2, 0, false, false), (3, 4, false, true), (5, 0, false, false), (6, 0, false, false), (7, 64, false, true), (4, 15, true, false), (9, 31, false, false), (8, 255, true, false), (10, 1023, true, false), (11, 2047, false, false)]) (by kernel_rfl) (by conv => lhs; simp only [List.map_cons, List.map_nil]) (by conv => lhs; simp [strip, ordered]) ?_
          apply Run.by_eq
          · intro self
            conv => lhs; simp -implicitDefEqProofs (maxSteps := 300000) (disch := omega) [filter_bt, (show ∀ i, Nat.testBit 15 i = decide (i < 4) from fun i => Nat.testBit_two_pow_sub_one 4 i), (show ∀ i, Nat.testBit 255 i = decide (i < 8) from fun i => Nat.testBit_two_pow_sub_one 8 i), (show ∀ i, Nat.testBit 1023 i = decide (i < 10) from fun i => Nat.testBit_two_pow_sub_one 10 i), -getElem?_pos, -getElem?_neg, u5, U2, u10, hr5, ew, r11, U11, happ1, happ2]
          try (with_reducible refine Run.ret ?_)
          apply zz
          refine ⟨rfl, by simp [hm5], by simp [u1], by simp [u2], by simp [u4], by simp [u5], by simp [u7], by simp [u8], by simp [u9], ⟨by (try simp only [pushed_next', upded_next']); omega, fun i hi => by simp -implicitDefEqProofs (disch := omega) [hkp5b]⟩, by (try simp only [pushed_next', upded_next']); omega, .slice (some ⟨s5.next + 1 + 1, 0, none⟩) (i + 1) (i + 1), ?_, ?_, ?_, ?_, ?_, ?_⟩
          · simp -implicitDefEqProofs (disch := omega) [U0]
          · simp -implicitDefEqProofs (disch := omega) [U1]
          · simp -implicitDefEqProofs (disch := omega)
          · simp -implicitDefEqProofs (disch := omega) [U3]
          · rw [hS1]
            refine OwnG.snoc hL1 (by omega) (by (try simp only [pushed_next', upded_next']); omega) ?_
            simp -implicitDefEqProofs (disch := omega) []
          · rw [hS2]
            simp only [Fr.get_put', if_true]
            refine OwnG.snoc (b := s5.next + 1 + 1 + 1) hL2 (by omega) (by (try simp only [pushed_next', upded_next']); omega) ?_
            simp -implicitDefEqProofs (disch := omega) []
    rintro x f6 s6 ⟨rfl, hm6, t1, t2, t4, t5, t7, t8, t9, hkp6, hn6, w', T0', T1', T2', T3', hO1, hO2⟩
    apply zz
    refine Cd.ra (h := ?_)
    apply Run.by_eq
    · intro self
      conv => lhs; simp -implicitDefEqProofs (maxSteps := 300000) (disch := omega) [-getElem?_pos, -getElem?_neg, t9]
    try (with_reducible refine Run.ret ?_)
    apply zz
    exact LoopK.nm (millN es - (i + 1)) (by omega) ⟨i + 1, w', by omega, rfl, by simp [hm6], by simp, by simp [t1], by simp [t2], by simp [t4], by simp [t5], by simp [t7], by simp [t8], hkp6, hn6, T0', T1', T2', T3', hO1, by simpa using hO2⟩
  · obtain rfl : i = millN es := by omega
    have hx : f.marks = [] ∧ f.get 1 = .pointer (some ⟨s.next, 0, none⟩) ∧ f.get 2 = .pointer (some ⟨s.next + 1, 0, none⟩) ∧ f.get 4 = .int .i64 n ∧ f.get 5 = .pointer (some ⟨s.next + 1 + 1, 0, none⟩) ∧ f.get 7 = .pointer (some ⟨s.next + 1 + 1 + 1, 0, none⟩) := ⟨hm, h1, h2, h4, h5, h7⟩
    by_cases hil : millN es < es.length
    · have hi6 : ¬ ((millN es : Int) < 6) := by unfold millN at hil ⊢; omega
      apply zz
      refine Cd.ra (h := ?_)
      apply Run.by_eq
      · intro self
        conv => lhs; simp -implicitDefEqProofs (maxSteps := 300000) (disch := omega) [-getElem?_pos, -getElem?_neg, h9, h1, hg0, hil, hi6]
      try (with_reducible refine Run.ret ?_)
      apply zz
      apply Cd.ite rfl
      · conv => lhs; simp -implicitDefEqProofs (maxSteps := 300000) (disch := omega) [-getElem?_pos, -getElem?_neg]
      all_goals intro c0
      all_goals try (cases c0; done)
      all_goals try simp only [Bool.not_eq_true', Bool.not_eq_false', decide_eq_true_eq, decide_eq_false_iff_not] at c0
      all_goals apply zz
      exact ⟨rfl, w, by simp [hm], by simp [h1], by simp [h2], by simp [h4], by simp [h5], by simp [h7], hkp, hnx, hg0, hg1, hg2, hg3, hOF, by simpa using hOR⟩
    · apply zz
      refine Cd.ra (h := ?_)
      apply Run.by_eq
      · intro self
        conv => lhs; simp -implicitDefEqProofs (maxSteps := 300000) (disch := omega) [-getElem?_pos, -getElem?_neg, h9, h1, hg0, hil]
      try (with_reducible refine Run.ret ?_)
      apply zz
      apply Cd.ite rfl
      · conv => lhs; simp -implicitDefEqProofs (maxSteps := 300000) (disch := omega) [-getElem?_pos, -getElem?_neg]
      all_goals intro c0
      all_goals try (cases c0; done)
      all_goals try simp only [Bool.not_eq_true', Bool.not_eq_false', decide_eq_true_eq, decide_eq_false_iff_not] at c0
      all_goals apply zz
      exact ⟨rfl, w, by simp [hm], by simp [h1], by simp [h2], by simp [h4], by simp [h5], by simp [h7], hkp, hnx, hg0, hg1, hg2, hg3, hOF, by simpa using hOR⟩
  rintro x f s' ⟨rfl, w, hm, h1, h2, h4, h5, h7, hkp, hnx, hg0, hg1, hg2, hg3, hOF, hOR⟩
  have hRb : ∀ p, -1536 ≤ restR n ms es (millN es) p ∧ restR n ms es (millN es) p ≤ 1536 := fun p => by
    have := restR_le (n := n) (es := es) hbm (millN es) p
    have : millN es ≤ 6 := Nat.min_le_right _ _
    omega
  have hM6 : millN es ≤ 6 := Nat.min_le_right _ _
  have hEnd : millFs n K ms es = (List.range (millN es)).map (fun j => millFlow n K ms j (eAt es j)) ++ (List.range n).map (millLast K (restR n ms es (millN es))) := rfl
  have hEnd2 : millReal n ms es = (List.range (millN es)).map (fun j => massM ms j) ++ (List.range n).map (rowM (restR n ms es (millN es))) := rfl
  have hA1 : ((List.range (millN es)).map fun j => millFlow n K ms j (eAt es j)).length = millN es := by simp
  have hA2 : ((List.range (millN es)).map fun j => massM ms j).length = millN es := by simp
  generalize ((List.range (millN es)).map fun j => millFlow n K ms j (eAt es j)) = A1 at hOF hA1 hEnd
  generalize ((List.range (millN es)).map fun j => massM ms j) = A2 at hOR hA2 hEnd2
  generalize restR n ms es (millN es) = R at hRb hg3 hEnd hEnd2
  generalize millN es = M at hM6 hA1 hA2
  apply zz
  refine Cd.ra (h := ?_)
  apply Run.by_eq
  · intro self
    conv => lhs; simp -implicitDefEqProofs (maxSteps := 300000) (disch := omega) [-getElem?_pos, -getElem?_neg]
  try (with_reducible refine Run.ret ?_)
  apply zz
  refine Cd.inv (fun z f s' => ∃ (u : Nat) (w : Value), u ≤ n ∧ z = n - u ∧ f.marks = [] ∧ f.get 13 = .int .i64 u ∧ f.get 1 = .pointer (some ⟨s.next, 0, none⟩) ∧ f.get 2 = .pointer (some ⟨s.next + 1, 0, none⟩) ∧ f.get 4 = .int .i64 n ∧ f.get 5 = .pointer (some ⟨s.next + 1 + 1, 0, none⟩) ∧ f.get 7 = .pointer (some ⟨s.next + 1 + 1 + 1, 0, none⟩) ∧
    Keep s s' ∧ s.next + 1 + 1 + 1 < s'.next ∧ s'.heap.get s.next = some (.cells [.int .u8 U, .slice ae es.length ce, .slice am ms.length cm, .int .u16 K] none) ∧ s'.heap.get (s.next + 1) = some (.cells [.int .i64 0, .slice none 0 0] none) ∧ s'.heap.get (s.next + 1 + 1) = some (.cells [.int .i64 n, w] none) ∧ s'.heap.get (s.next + 1 + 1 + 1) = some (.cells (restL R) none) ∧
    OwnG 7 (s.next + 1 + 1 + 1 + 1) s' w ((A1 ++ (List.range u).map (millLast K R)).map FlowD.cs) ∧ OwnG 4 (s.next + 1 + 1 + 1 + 1) s' (f.get 6) ((A2 ++ (List.range u).map (rowM R)).map Mass.cs)) n ?_ ?_
  · exact ⟨0, w, by omega, rfl, by simp [hm], by simp, by simp [h1], by simp [h2], by simp [h4], by simp [h5], by simp [h7], hkp, hnx, hg0, hg1, hg2, hg3, by simpa using hOF, by simpa using hOR⟩
  clear hOF hOR hkp hnx hg0 hg1 hg2 hg3 hm h1 h2 h4 h5 h7
  clear w
  rintro z f0 s0 ⟨u, w, hu, rfl, hm, h13, h1, h2, h4, h5, h7, hkp, hnx, hg0, hg1, hg2, hg3, hOF, hOR⟩
  have hkpa := hkp.1
  have hkpb := hkp.2
  by_cases hlt : u < n
  · have hB6 : decide (andB (shrB K (6 + u)) = 1) = bitB K (6 + u) := rfl
    have h6u : (6 : Int) + (u : Int) = ((6 + u : Nat) : Int) := by push_cast; rfl
    generalize hB : bitB K (6 + u) = B at hB6
    generalize hv6 : 6 + u = v6 at hB6 h6u hB
    apply zz
    refine Cd.ra (h := ?_)
    apply Run.by_eq
    · intro self
      conv => lhs; simp -implicitDefEqProofs (maxSteps := 300000) (disch := omega) [-getElem?_pos, -getElem?_neg, h13, h4]
    try (with_reducible refine Run.ret ?_)
    apply zz
    apply Cd.ite rfl
    · conv => lhs; simp -implicitDefEqProofs (maxSteps := 300000) (disch := omega) [-getElem?_pos, -getElem?_neg]
    all_goals intro c0
    all_goals try (cases c0; done)
    all_goals try simp only [Bool.not_eq_true', Bool.not_eq_false', decide_eq_true_eq, decide_eq_false_iff_not] at c0
    all_goals apply zz
    · apply zz
      refine Cd.ra (h := ?_)
      apply Run.by_eq
      · intro self
        conv => lhs; simp -implicitDefEqProofs (maxSteps := 300000) (disch := omega) [-getElem?_pos, -getElem?_neg, h13, h1, hg0, h6u, hB6]
      try (with_reducible refine Run.ret ?_)
      apply zz
      refine Cd.ra (h := ?_)
      apply Run.by_eq
      · intro self
        conv => lhs; simp -implicitDefEqProofs (maxSteps := 300000) (disch := omega) [-getElem?_pos, -getElem?_neg]
      try (with_reducible refine Run.ret ?_)
      apply zz
      refine Cd.mono (Q := fun x f1 s1 => x = Ex.exit 6 ∧ f1.marks = [] ∧ (∀ t : Nat, t < 14 → f1.get t = f0.get t) ∧ f1.get 14 = .pointer (some ⟨s0.next, 0, none⟩) ∧ s1.next = s0.next + 1 ∧ (∀ j, j < s0.next → s1.heap.get j = s0.heap.get j) ∧ s1.heap.get s0.next = some (.cells [.int .i64 u, .int .i64 (-1), .bool (B && restOk R u 4), .int .i64 0, .int .i64 0, .int .i64 0, .int .i64 0] none)) (Cd.inv (fun z f1 s1 => ∃ k : Nat, k ≤ 4 ∧ z = 4 - k ∧ f1.marks = [] ∧ f1.get 145 = .int .i64 k ∧ (∀ t : Nat, t < 14 → f1.get t = f0.get t) ∧ f1.get 14 = .pointer (some ⟨s0.next, 0, none⟩) ∧ s1.next = s0.next + 1 ∧ (∀ j, j < s0.next → s1.heap.get j = s0.heap.get j) ∧ s1.heap.get s0.next = some (.cells [.int .i64 u, .int .i64 (-1), .bool (B && restOk R u k), .int .i64 0, .int .i64 0, .int .i64 0, .int .i64 0] none)) 4 ?_ ?_) ?_
      · refine ⟨0, by omega, rfl, by simp [hm], by simp, fun t ht => by (repeat rw [Fr.get_put_lt ht (by decide)]), by simp, by simp, fun j hj => ?_, ?_⟩
        · simp -implicitDefEqProofs (disch := omega)
        · simp -implicitDefEqProofs (disch := omega) [restOk]
      · rintro z f1 s1 ⟨k, hk, rfl, hm1, g145, hf1, g14, hn1', ho1, hr1⟩
        have q7 := (hf1 7 (by omega)).trans h7
        have q13 := (hf1 13 (by omega)).trans h13
        have K3 := (ho1 (s.next + 1 + 1 + 1) (by omega)).trans hg3
        by_cases hk4 : k < 4
        · have hro : restOk R u (k + 1) = (restOk R u k && decide (0 ≤ R (u * 4 + k))) := by
            unfold restOk
            rw [List.range_succ, List.all_append]; simp
          have hget := restL_get R (p := u * 4 + k) (by omega)
          have hu4 : ((u : Int) < 4) := by omega
          have hk4' : ((k : Int) < 4) := by omega
          apply zz
          refine Cd.ra (h := ?_)
          apply Run.by_eq
          · intro self
            conv => lhs; simp -implicitDefEqProofs (maxSteps := 300000) (disch := omega) [-getElem?_pos, -getElem?_neg, g145]
          try (with_reducible refine Run.ret ?_)
          apply zz
          apply Cd.ite rfl
          · conv => lhs; simp -implicitDefEqProofs (maxSteps := 300000) (disch := omega) [-getElem?_pos, -getElem?_neg]
          all_goals intro c1
          all_goals try (cases c1; done)
          all_goals try simp only [Bool.not_eq_true', Bool.not_eq_false', decide_eq_true_eq, decide_eq_false_iff_not] at c1
          all_goals apply zz
          · apply zz
            refine Cd.ra (h := ?_)
            apply Run.by_eq
            · intro self
              conv => lhs; simp -implicitDefEqProofs (maxSteps := 300000) (disch := omega) [-getElem?_pos, -getElem?_neg, g145]
            try (with_reducible refine Run.ret ?_)
            apply zz
            obtain ⟨V, hV⟩ : ∃ V, V = (B && restOk R u k) := ⟨_, rfl⟩
            rw [← hV] at hr1
            have hV2 : (B && restOk R u (k + 1)) = (V && decide (0 ≤ R (u * 4 + k))) := by rw [hro, hV, Bool.and_assoc]
            cases V with
            | false =>
              rw [Bool.false_and] at hV2
              apply zz
              refine Cd.ra (h := ?_)
              apply Run.by_eq
              · intro self
                conv => lhs; simp -implicitDefEqProofs (maxSteps := 300000) (disch := omega) [-getElem?_pos, -getElem?_neg, g14, hr1]
              try (with_reducible refine Run.ret ?_)
              apply zz
              refine Cd.ra (h := ?_)
              apply Run.by_eq
              · intro self
                conv => lhs; simp -implicitDefEqProofs (maxSteps := 300000) (disch := omega) [-getElem?_pos, -getElem?_neg, g145]
              try (with_reducible refine Run.ret ?_)
              apply zz
              refine LoopK.nm (4 - (k + 1)) (by omega) ⟨k + 1, by omega, rfl, by simp [hm1], by simp, fun t ht => by (repeat rw [Fr.get_put_lt ht (by decide)]); exact hf1 t ht, by simp [g14], by simp [hn1'], fun j hj => ?_, ?_⟩
              · simp -implicitDefEqProofs (disch := omega) [ho1]
              · rw [hV2]; simp -implicitDefEqProofs (disch := omega)
            | true =>
              rw [Bool.true_and] at hV2
              generalize R (u * 4 + k) = X at hget hV2
              apply zz
              refine Cd.ra (h := ?_)
              apply Run.by_eq
              · intro self
                conv => lhs; simp -implicitDefEqProofs (maxSteps := 300000) (disch := omega) [-getElem?_pos, -getElem?_neg, g14, hr1, q13, q7, K3, hget, hu4, hk4']
              try (with_reducible refine Run.ret ?_)
              apply zz
              refine Cd.ra (h := ?_)
              apply Run.by_eq
              · intro self
                conv => lhs; simp -implicitDefEqProofs (maxSteps := 300000) (disch := omega) [-getElem?_pos, -getElem?_neg, g145]
              try (with_reducible refine Run.ret ?_)
              apply zz
              refine LoopK.nm (4 - (k + 1)) (by omega) ⟨k + 1, by omega, rfl, by simp [hm1], by simp, fun t ht => by (repeat rw [Fr.get_put_lt ht (by decide)]); exact hf1 t ht, by simp [g14], by simp [hn1'], fun j hj => ?_, ?_⟩
              · simp -implicitDefEqProofs (disch := omega) [ho1]
              · rw [hV2]; simp -implicitDefEqProofs (disch := omega)
          · omega
        · obtain rfl : k = 4 := by omega
          apply zz
          refine Cd.ra (h := ?_)
          apply Run.by_eq
          · intro self
            conv => lhs; simp -implicitDefEqProofs (maxSteps := 300000) (disch := omega) [-getElem?_pos, -getElem?_neg, g145]
          try (with_reducible refine Run.ret ?_)
          apply zz
          apply Cd.ite rfl
          · conv => lhs; simp -implicitDefEqProofs (maxSteps := 300000) (disch := omega) [-getElem?_pos, -getElem?_neg]
          all_goals intro c1
          all_goals try (cases c1; done)
          all_goals try simp only [Bool.not_eq_true', Bool.not_eq_false', decide_eq_true_eq, decide_eq_false_iff_not] at c1
          all_goals apply zz
          exact ⟨rfl, by simp [hm1], fun t ht => by (repeat rw [Fr.get_put_lt ht (by decide)]); exact hf1 t ht, by simp [g14], hn1', ho1, hr1⟩
      rintro x f1 s1 ⟨rfl, hm1, hf1, g14, hn1', ho1, hr1⟩
      obtain ⟨V, hV⟩ : ∃ V, V = (B && restOk R u 4) := ⟨_, rfl⟩
      rw [← hV] at hr1
      obtain ⟨MM, hMM⟩ : ∃ MM, MM = rowM R u := ⟨_, rfl⟩
      obtain ⟨M5, hM5⟩ : ∃ M5, M5 = if V = true then MM else Mass.zero := ⟨_, rfl⟩
      have hFLW : millLast K R u = ⟨u, -1, V, M5⟩ := by unfold millLast; rw [hv6, hB, ← hV, ← hMM, hM5]
      have q7 := (hf1 7 (by omega)).trans h7
      have q13 := (hf1 13 (by omega)).trans h13
      have K3 := (ho1 (s.next + 1 + 1 + 1) (by omega)).trans hg3
      have hu4 : ((u : Int) < 4) := by omega
      have hrow : takeL 4 ((restL R).drop (u * 4)) = some [.int .i64 MM.a, .int .i64 MM.b, .int .i64 MM.c, .int .i64 MM.d] := by
        rw [hMM]
        have : u < 4 := by omega
        match u, this with
        | 0, _ => rfl
        | 1, _ => rfl
        | 2, _ => rfl
        | 3, _ => rfl
      apply zz
      refine Cd.ra (h := ?_)
      apply Run.by_eq
      · intro self
        conv => lhs; simp -implicitDefEqProofs (maxSteps := 300000) (disch := omega) [-getElem?_pos, -getElem?_neg, g14, hr1]
      try (with_reducible refine Run.ret ?_)
      apply zz
      refine Cd.mono (Q := fun x f2 s2 => x = Ex.normal ∧ f2.marks = [] ∧ (∀ t : Nat, t < 14 → f2.get t = f0.get t) ∧ f2.get 14 = .pointer (some ⟨s0.next, 0, none⟩) ∧ s2.next = s0.next + 1 ∧ (∀ j, j < s0.next → s2.heap.get j = s0.heap.get j) ∧ s2.heap.get s0.next = some (.cells [.int .i64 u, .int .i64 (-1), .bool V, .int .i64 M5.a, .int .i64 M5.b, .int .i64 M5.c, .int .i64 M5.d] none)) ?_ ?_
      · apply zz
        apply Cd.ite rfl
        · conv => lhs; simp -implicitDefEqProofs (maxSteps := 300000) (disch := omega) [-getElem?_pos, -getElem?_neg]
        all_goals intro c5
        all_goals try (cases c5; done)
        all_goals try simp only [Bool.not_eq_true', Bool.not_eq_false', decide_eq_true_eq, decide_eq_false_iff_not] at c5
        all_goals apply zz
        · subst c5
          rw [if_pos rfl] at hM5
          subst hM5
          apply zz
          refine Cd.ra (h := ?_)
          apply Run.by_eq
          · intro self
            conv => lhs; simp -implicitDefEqProofs (maxSteps := 300000) (disch := omega) [-getElem?_pos, -getElem?_neg, g14, hr1, q13, q7, K3, hrow, hu4]
          try (with_reducible refine Run.ret ?_)
          apply zz
          refine ⟨rfl, by simp [hm1], fun t ht => by (repeat rw [Fr.get_put_lt ht (by decide)]); exact hf1 t ht, by simp [g14], by simp [hn1'], fun j hj => ?_, ?_⟩
          · simp -implicitDefEqProofs (disch := omega) [ho1]
          · simp -implicitDefEqProofs (disch := omega)
        · subst c5
          rw [if_neg (by decide)] at hM5
          subst hM5
          exact ⟨rfl, by simp [hm1], fun t ht => by (repeat rw [Fr.get_put_lt ht (by decide)]); exact hf1 t ht, by simp [g14], hn1', ho1, hr1⟩
      rintro x f2 s2 ⟨rfl, hm2, hf2, r14, hn2, ho2, hr2⟩
      have u1 := (hf2 1 (by omega)).trans h1
      have u2 := (hf2 2 (by omega)).trans h2
      have u4 := (hf2 4 (by omega)).trans h4
      have u5 := (hf2 5 (by omega)).trans h5
      have u6 := hf2 6 (by omega)
      have u7 := (hf2 7 (by omega)).trans h7
      have u13 := (hf2 13 (by omega)).trans h13
      have U0 := (ho2 s.next (by omega)).trans hg0
      have U1 := (ho2 (s.next + 1) (by omega)).trans hg1
      have U2 := (ho2 (s.next + 1 + 1) (by omega)).trans hg2
      have U3 := (ho2 (s.next + 1 + 1 + 1) (by omega)).trans hg3
      have hkp2 : Keep s s2 := ⟨by omega, fun j hj => (ho2 j (by omega)).trans (hkpb j hj)⟩
      have hkp2a := hkp2.1
      have hkp2b := hkp2.2
      rw [← u6] at hOR
      have hL1 : ((A1 ++ (List.range u).map (millLast K R)).map FlowD.cs).length = M + u := by simp [hA1]
      have hL2 : ((A2 ++ (List.range u).map (rowM R)).map Mass.cs).length = M + u := by simp [hA2]
      have hS1 : (A1 ++ (List.range (u + 1)).map (millLast K R)).map FlowD.cs = (A1 ++ (List.range u).map (millLast K R)).map FlowD.cs ++ [[.int .i64 u, .int .i64 (-1), .bool V, .int .i64 M5.a, .int .i64 M5.b, .int .i64 M5.c, .int .i64 M5.d]] := by
        rw [show (List.range (u + 1)).map (millLast K R) = (List.range u).map (millLast K R) ++ [millLast K R u] by rw [List.range_succ, List.map_append]; rfl, ← List.append_assoc, List.map_append (l₁ := A1 ++ (List.range u).map (millLast K R))]
        simp only [List.map_cons, List.map_nil, hFLW]
        rfl
      have hS2 : (A2 ++ (List.range (u + 1)).map (rowM R)).map Mass.cs = (A2 ++ (List.range u).map (rowM R)).map Mass.cs ++ [[.int .i64 MM.a, .int .i64 MM.b, .int .i64 MM.c, .int .i64 MM.d]] := by
        rw [show (List.range (u + 1)).map (rowM R) = (List.range u).map (rowM R) ++ [rowM R u] by rw [List.range_succ, List.map_append]; rfl, ← List.append_assoc, List.map_append (l₁ := A2 ++ (List.range u).map (rowM R))]
        simp only [List.map_cons, List.map_nil, ← hMM]
        rfl
      have hfl1 := flat_len (flows_len (A1 ++ (List.range u).map (millLast K R)))
      have hfl2 := flat_len (masses_len (A2 ++ (List.range u).map (rowM R)))
      rw [hL1] at hfl1
      rw [hL2] at hfl2
      generalize (A1 ++ (List.range u).map (millLast K R)).map FlowD.cs = L1 at hOF hL1 hS1 hfl1
      generalize (A2 ++ (List.range u).map (rowM R)).map Mass.cs = L2 at hOR hL2 hS2 hfl2
      apply zz
      refine Cd.mono (Q := fun x f6 s6 => x = Ex.normal ∧ f6.marks = [] ∧ f6.get 13 = .int .i64 u ∧ f6.get 1 = .pointer (some ⟨s.next, 0, none⟩) ∧ f6.get 2 = .pointer (some ⟨s.next + 1, 0, none⟩) ∧ f6.get 4 = .int .i64 n ∧ f6.get 5 = .pointer (some ⟨s.next + 1 + 1, 0, none⟩) ∧ f6.get 7 = .pointer (some ⟨s.next + 1 + 1 + 1, 0, none⟩) ∧ Keep s s6 ∧ s.next + 1 + 1 + 1 < s6.next ∧ ∃ w',
        s6.heap.get s.next = some (.cells [.int .u8 U, .slice ae es.length ce, .slice am ms.length cm, .int .u16 K] none) ∧ s6.heap.get (s.next + 1) = some (.cells [.int .i64 0, .slice none 0 0] none) ∧ s6.heap.get (s.next + 1 + 1) = some (.cells [.int .i64 n, w'] none) ∧ s6.heap.get (s.next + 1 + 1 + 1) = some (.cells (restL R) none) ∧
        OwnG 7 (s.next + 1 + 1 + 1 + 1) s6 w' ((A1 ++ (List.range (u + 1)).map (millLast K R)).map FlowD.cs) ∧ OwnG 4 (s.next + 1 + 1 + 1 + 1) s6 (f6.get 6) ((A2 ++ (List.range (u + 1)).map (rowM R)).map Mass.cs)) ?_ ?_
      · rcases hOF with ⟨e1, rfl⟩ | ⟨bw, rfl, hne1, hw1, hw2, hw3⟩
        · have hMu : M + u = 0 := by rw [← hL1, e1]; rfl
          rcases hOR with ⟨e2, ew⟩ | ⟨br, ew, hne2, hv1, hv2, hv3⟩
          · apply zz
            refine Cd.drawn (pl := [(0, 0, false, false), (1, 1, false, false), (2, 0, false, false), (3, 4, false, true), (5, 0, false, false), (6, 0, false, false), (7, 64, false, false), (8, 192, false, false), (9, 448, false, true), (4, 15, true, false), (11, 31, false, false), (10, 1023, true, false), (12, 4095, true, false), (13, 8191, false, false)]) (by kernel_rfl) (by conv => lhs; simp only [List.map_cons, List.map_nil]) (by conv => lhs; simp [strip, ordered]) ?_
            apply Run.by_eq
            · intro self
              conv => lhs; simp -implicitDefEqProofs (maxSteps := 300000) (disch := omega) [filter_bt, (show ∀ i, Nat.testBit 15 i = decide (i < 4) from fun i => Nat.testBit_two_pow_sub_one 4 i), (show ∀ i, Nat.testBit 1023 i = decide (i < 10) from fun i => Nat.testBit_two_pow_sub_one 10 i), (show ∀ i, Nat.testBit 4095 i = decide (i < 12) from fun i => Nat.testBit_two_pow_sub_one 12 i), -getElem?_pos, -getElem?_neg, u5, U2, r14, hr2, ew, u13, u7, U3, hrow, hu4]
            try (with_reducible refine Run.ret ?_)
            apply zz
            refine ⟨rfl, by simp [hm2], by simp [u13], by simp [u1], by simp [u2], by simp [u4], by simp [u5], by simp [u7], ⟨by (try simp only [pushed_next', upded_next']); omega, fun i hi => by simp -implicitDefEqProofs (disch := omega) [hkp2b]⟩, by (try simp only [pushed_next', upded_next']); omega, .slice (some ⟨s2.next + 1 + 1, 0, none⟩) (M + u + 1) (M + u + 1), ?_, ?_, ?_, ?_, ?_, ?_⟩
            · simp -implicitDefEqProofs (disch := omega) [U0]
            · simp -implicitDefEqProofs (disch := omega) [U1]
            · simp -implicitDefEqProofs (disch := omega) [hMu]
            · simp -implicitDefEqProofs (disch := omega) [U3]
            · rw [hS1]
              refine OwnG.snoc hL1 (by omega) (by (try simp only [pushed_next', upded_next']); omega) ?_
              simp -implicitDefEqProofs (disch := omega) [e1]
            · rw [hS2]
              simp only [Fr.get_put', if_true, hMu]
              refine OwnG.snoc (b := s2.next + 1 + 1 + 1) (hL2.trans hMu) (by omega) (by (try simp only [pushed_next', upded_next']); omega) ?_
              simp -implicitDefEqProofs (disch := omega) [e2]
          · exact absurd (List.eq_nil_of_length_eq_zero (by rw [hL2, hMu])) hne2
        · have hi0 : 0 < M + u := by rw [← hL1]; exact List.length_pos_iff.2 hne1
          rcases hOR with ⟨e2, ew⟩ | ⟨br, ew, hne2, hv1, hv2, hv3⟩
          · rw [e2] at hL2; simp at hL2; omega
          · rw [hL2] at ew
            rw [hL1] at U2
            have hbb : bw ≠ br := fun e => by rw [e, hv3] at hw3; simp at hw3
            have hw5 := (ho2 bw (by omega)).trans hw3
            have hv5 := (ho2 br (by omega)).trans hv3
            have happ1 := appV_moreE (size := 7) (n := M + u) (b := bw) (b2 := s2.next) (old := L1.flatten) (s := (s2.pushed (.cells [.int .i64 u, .int .i64 (-1), .bool V, .int .i64 M5.a, .int .i64 M5.b, .int .i64 M5.c, .int .i64 M5.d] none)).pushed (.cells [.int .i64 MM.a, .int .i64 MM.b, .int .i64 MM.c, .int .i64 MM.d] none)) (by simp -implicitDefEqProofs (disch := omega) [hw5]) hfl1 (by omega)
            have happ2 := appV_moreE (size := 4) (n := M + u) (b := br) (b2 := s2.next + 1) (old := L2.flatten) (s := ((((s2.pushed (.cells [.int .i64 u, .int .i64 (-1), .bool V, .int .i64 M5.a, .int .i64 M5.b, .int .i64 M5.c, .int .i64 M5.d] none)).pushed (.cells [.int .i64 MM.a, .int .i64 MM.b, .int .i64 MM.c, .int .i64 MM.d] none)).upded bw .dead).pushed (.cells (L1.flatten ++ [.int .i64 u, .int .i64 (-1), .bool V, .int .i64 M5.a, .int .i64 M5.b, .int .i64 M5.c, .int .i64 M5.d]) (some 7)))) (by simp -implicitDefEqProofs (disch := omega) [hv5]) hfl2 (by omega)
            apply zz
            refine Cd.drawn (pl := [(0, 0, false, false), (1, 1, false, false), (2, 0, false, false), (3, 4, false, true), (5, 0, false, false), (6, 0, false, false), (7, 64, false, false), (8, 192, false, false), (9, 448, false, true), (4, 15, true, false), (11, 31, false, false), (10, 1023, true, false), (12, 4095, true, false), (13, 8191, false, false)]) (by kernel_rfl) (by conv => lhs; simp only [List.map_cons, List.map_nil]) (by conv => lhs; simp [strip, ordered]) ?_
            apply Run.by_eq
            · intro self
              conv => lhs; simp -implicitDefEqProofs (maxSteps := 300000) (disch := omega) [filter_bt, (show ∀ i, Nat.testBit 15 i = decide (i < 4) from fun i => Nat.testBit_two_pow_sub_one 4 i), (show ∀ i, Nat.testBit 1023 i = decide (i < 10) from fun i => Nat.testBit_two_pow_sub_one 10 i), (show ∀ i, Nat.testBit 4095 i = decide (i < 12) from fun i => Nat.testBit_two_pow_sub_one 12 i), -getElem?_pos, -getElem?_neg, u5, U2, r14, hr2, ew, u13, u7, U3, hrow, hu4, happ1, happ2]
            try (with_reducible refine Run.ret ?_)
            apply zz
            refine ⟨rfl, by simp [hm2], by simp [u13], by simp [u1], by simp [u2], by simp [u4], by simp [u5], by simp [u7], ⟨by (try simp only [pushed_next', upded_next']); omega, fun i hi => by simp -implicitDefEqProofs (disch := omega) [hkp2b]⟩, by (try simp only [pushed_next', upded_next']); omega, .slice (some ⟨s2.next + 1 + 1, 0, none⟩) (M + u + 1) (M + u + 1), ?_, ?_, ?_, ?_, ?_, ?_⟩
            · simp -implicitDefEqProofs (disch := omega) [U0]
            · simp -implicitDefEqProofs (disch := omega) [U1]
            · simp -implicitDefEqProofs (disch := omega)
            · simp -implicitDefEqProofs (disch := omega) [U3]
            · rw [hS1]
              refine OwnG.snoc hL1 (by omega) (by (try simp only [pushed_next', upded_next']); omega) ?_
              simp -implicitDefEqProofs (disch := omega) []
            · rw [hS2]
              simp only [Fr.get_put', if_true]
              refine OwnG.snoc (b := s2.next + 1 + 1 + 1) hL2 (by omega) (by (try simp only [pushed_next', upded_next']); omega) ?_
              simp -implicitDefEqProofs (disch := omega) []
      rintro x f6 s6 ⟨rfl, hm6, t13, t1, t2, t4, t5, t7, hkp6, hn6, w', T0', T1', T2', T3', hO1, hO2⟩
      apply zz
      refine Cd.ra (h := ?_)
      apply Run.by_eq
      · intro self
        conv => lhs; simp -implicitDefEqProofs (maxSteps := 300000) (disch := omega) [-getElem?_pos, -getElem?_neg, t13]
      try (with_reducible refine Run.ret ?_)
      apply zz
      exact LoopK.nm (n - (u + 1)) (by omega) ⟨u + 1, w', by omega, rfl, by simp [hm6], by simp, by simp [t1], by simp [t2], by simp [t4], by simp [t5], by simp [t7], hkp6, hn6, T0', T1', T2', T3', hO1, by simpa using hO2⟩
    · omega
  · obtain rfl : u = n := by omega
    rw [← hEnd] at hOF
    rw [← hEnd2] at hOR
    have hw1 : oneV w = true := by rcases hOF with ⟨_, rfl⟩ | ⟨_, rfl, _⟩ <;> rfl
    apply zz
    refine Cd.ra (h := ?_)
    apply Run.by_eq
    · intro self
      conv => lhs; simp -implicitDefEqProofs (maxSteps := 300000) (disch := omega) [-getElem?_pos, -getElem?_neg, h13, h4]
    try (with_reducible refine Run.ret ?_)
    apply zz
    apply Cd.ite rfl
    · conv => lhs; simp -implicitDefEqProofs (maxSteps := 300000) (disch := omega) [-getElem?_pos, -getElem?_neg]
    all_goals intro c0
    all_goals try (cases c0; done)
    all_goals try simp only [Bool.not_eq_true', Bool.not_eq_false', decide_eq_true_eq, decide_eq_false_iff_not] at c0
    all_goals apply zz
    apply zz
    refine Cd.ra (h := ?_)
    apply Run.by_eq
    · intro self
      conv => lhs; simp -implicitDefEqProofs (maxSteps := 300000) (disch := omega) [-getElem?_pos, -getElem?_neg, h5, hg2, h2, hg1, hw1]
    try (with_reducible refine Run.ret ?_)
    apply zz
    apply Leave.mk (by first | exact .inl rfl | exact .inr rfl) (by simp only [Fr.marks_put, fr0_marks, hm, h2])
    · conv => lhs; simp -implicitDefEqProofs (disch := omega) [Try.results34, hm, h2]
    refine ⟨⟨by (try simp only [pushed_next', upded_next']); omega, fun i hi => by simp -implicitDefEqProofs (disch := omega) [hkpb]⟩, u, w, f0.get 6, rfl, hn1, hn4, rfl, ?_, ?_⟩
    · rcases hOF with ⟨h, h'⟩ | ⟨b, h, h', hb1, hb2, hb3⟩
      · exact .inl ⟨h, h'⟩
      · exact .inr ⟨b, h, h', by omega, hb2, by rw [get_upded_other _ _ _ _ (by omega)]; exact hb3⟩
    · rcases hOR with ⟨h, h'⟩ | ⟨b, h, h', hb1, hb2, hb3⟩
      · exact .inl ⟨h, h'⟩
      · exact .inr ⟨b, h, h', by omega, hb2, by rw [get_upded_other _ _ _ _ (by omega)]; exact hb3⟩
end Go.Proofs.Ytjehpgflhgpalaa
namespace Go.Proofs.Ytjehpgflhgpalaa
open Go Kern
/-! Bits of a byte, and sets of units -/
def shr8 (K : Int) (i : Nat) : Int := K.fdiv (2 ^ (min i IntKind.u8.bits))
def and8 (x : Int) : Int := IntKind.u8.wrap ((BitVec.ofInt IntKind.u8.bits x &&& BitVec.ofInt IntKind.u8.bits 1).toNat : Nat)
@[simp] theorem intOp_and8 (x : Int) : intOp .and .u8 x (.u8, 1) = some (.int .u8 (and8 x)) := by
  show gd (kindEq .u8 .u8) _ = _
  rw [kindEq_refl]; rfl
@[simp] theorem intOp_shr8 (K : Int) (m : Nat) : intOp .shr .u8 K (.i64, (m : Int)) = some (.int .u8 (shr8 K m)) := rfl
def bit8 (K : Int) (i : Nat) : Bool := decide (and8 (shr8 K i) = 1)
/-- Units in ascending order, of the first k. -/
structure UnitsTo (k : Nat) (xs : List Int) : Prop where
  sorted : xs.Pairwise (· < ·)
  range : ∀ x ∈ xs, 0 ≤ x ∧ x < k
  len : xs.length ≤ k
theorem UnitsTo.nil : UnitsTo 0 [] := ⟨.nil, fun x h => by (cases h), Nat.le_refl _⟩
theorem UnitsTo.skip {k : Nat} {xs : List Int} (h : UnitsTo k xs) : UnitsTo (k + 1) xs := ⟨h.sorted, fun x hx => by (have := h.range x hx; omega), by have := h.len; omega⟩
theorem UnitsTo.snoc {k : Nat} {xs : List Int} (h : UnitsTo k xs) : UnitsTo (k + 1) (xs ++ [(k : Int)]) := by
  refine ⟨?_, ?_, by simp; exact h.len⟩
  · rw [List.pairwise_append]
    refine ⟨h.sorted, by simp, fun a ha b hb => ?_⟩
    have := h.range a ha
    simp at hb
    omega
  · intro x hx
    rcases List.mem_append.1 hx with hx | hx
    · have := h.range x hx; omega
    · simp at hx; omega
theorem UnitsTo.err {n : Nat} {xs : List Int} {fs : List FlowD} (h : UnitsTo n xs) (hck : checkErr n fs = 0) (hne : xs ≠ []) : unitsErr n fs xs = 0 := by
  unfold unitsErr
  rw [if_neg (by omega), if_neg (by simpa using hne)]
  refine firstNZ_zero fun j _ hj => ?_
  have hj : j < xs.length := by omega
  have hx : xs.getD j 0 = xs[j] := by rw [List.getD_eq_getElem?_getD, List.getElem?_eq_getElem hj]; rfl
  have hr := h.range _ (List.getElem_mem hj)
  unfold unitAt
  rw [hx, show unitB n xs[j] = true by unfold unitB; simp; omega]
  simp only [Bool.not_true, Bool.false_eq_true, if_false]
  rw [if_neg]
  rintro ⟨h0, hle⟩
  have hx1 : xs.getD (j - 1) 0 = xs[j - 1] := by rw [List.getD_eq_getElem?_getD, List.getElem?_eq_getElem (show j - 1 < xs.length by omega)]; rfl
  have := List.pairwise_iff_getElem.1 h.sorted (j - 1) j (by omega) hj (by omega)
  omega
/-- What Refutes says of a set of units. -/
theorem refutes_units {n : Nat} {xs : List Int} {fs : List FlowD} (h : UnitsTo n xs) (hck : checkErr n fs = 0) (hne : xs ≠ []) {k : Nat} (hk : k < 4) : refutesR n fs xs k = if (excM xs fs).at k = 0 ∨ fs.any (leakB xs) = true then 11 else 0 := by
  unfold refutesR
  rw [h.err hck hne, if_neg (by simp), if_neg (by omega), Int.toNat_natCast]
def Mass.put (m : Mass) (q : Nat) (x : Int) : Mass := match q with
  | 0 => ⟨x, m.b, m.c, m.d⟩
  | 1 => ⟨m.a, x, m.c, m.d⟩
  | 2 => ⟨m.a, m.b, x, m.d⟩
  | _ => ⟨m.a, m.b, m.c, x⟩
theorem Mass.put_cs {f : FlowD} {q : Nat} (hq : q < 4) (x : Int) : putL (3 + q) [.int .i64 x] f.cs = some (FlowD.cs ⟨f.fr, f.to, f.me, f.m.put q x⟩) := by
  match q, hq with
  | 0, _ => rfl
  | 1, _ => rfl
  | 2, _ => rfl
  | 3, _ => rfl
theorem Mass.put_each {m : Mass} {q : Nat} {x : Int} (h : eachB m 0 1000000000 = true) (hx : 0 ≤ x ∧ x ≤ 1000000000) : eachB (m.put q x) 0 1000000000 = true := by
  unfold Mass.put
  unfold eachB isB at *
  simp only [Bool.and_eq_true, decide_eq_true_eq] at *
  split <;> simp only [] <;> omega
theorem checkErr_set {n : Nat} {fs : List FlowD} {i q : Nat} {f : FlowD} {x : Int} (hck : checkErr n fs = 0) (hf : fs[i]? = some f) (hx : 0 ≤ x ∧ x ≤ 1000000000) : checkErr n (fs.set i ⟨f.fr, f.to, f.me, f.m.put q x⟩) = 0 := by
  obtain ⟨h1, h2, h3, h4⟩ := checkErr_ok hck
  refine checkErr_mk h1 h2 (by rw [List.length_set]; exact h3) fun g hg => ?_
  rcases List.mem_or_eq_of_mem_set hg with hg | rfl
  · exact h4 g hg
  · have := h4 f (List.mem_of_getElem? hf)
    obtain ⟨a, b, c, d⟩ := flowErr_ok this
    unfold flowErr
    simp only [a, b]
    rw [if_neg (by decide), if_neg c]
    by_cases hm : f.me = true
    · rw [Mass.put_each (d hm) hx]; simp
    · simp [hm]
end Go.Proofs.Ytjehpgflhgpalaa
namespace Go.Proofs.Ytjehpgflhgpalaa
open Go Kern
theorem provF_length {rt : Int → Int} {fs : List FlowD} {n c i : Nat} {p : List Int × Nat} (h : provF rt fs n c i = some p) : p.1.length ≤ n := by
  obtain ⟨k, hk, hat⟩ := provF_some h
  unfold provAt at hat
  split at hat
  · cases hz : nzK (excM (clsN rt k n) fs) with
    | none => rw [hz] at hat; cases hat
    | some j => rw [hz] at hat; cases hat; exact clsN_length _ _ _
  · cases hat
theorem proveR_length {u : Int} {fs : List FlowD} : (proveR u fs).1.length ≤ 1000 := by
  unfold proveR
  split
  · simp
  · rename_i hc
    have hc : checkErr u fs = 0 := by simpa using hc
    have := checkErr_ok hc
    cases hp : provF (rtF (-1) fs 0 id) fs u.toNat u.toNat 0 with
    | none => simp
    | some p => have := provF_length hp; simp only []; omega
end Go.Proofs.Ytjehpgflhgpalaa
namespace Go.Proofs.Ytjehpgflhgpalaa
open Go Kern
/-! What is true of a plant with a balance -/
theorem prove_none {n : Nat} {fs : List FlowD} (h : closeErr n fs = 0) : proveR n fs = ([], 0, 5) := by
  obtain ⟨hck, _⟩ := closeErr_zero h
  unfold closeErr at h
  rw [if_neg (by simp [hck])] at h
  unfold proveR
  rw [if_neg (by simp [hck])]
  cases hp : provF (rtF (-1) fs 0 id) fs (n : Int).toNat (n : Int).toNat 0 with
  | none => rfl
  | some p => rw [hp] at h; cases h
theorem realF_le {n : Nat} {ms : List Int} {es : List (Int × Int)} (hb : ∀ x ∈ ms, 0 ≤ x ∧ x < 256) (j : Nat) : (realF n ms es j).le 1536 := by
  unfold realF
  split
  · have h0 := mass1_le hb j 0
    have h1 := mass1_le hb j 1
    have h2 := mass1_le hb j 2
    have h3 := mass1_le hb j 3
    unfold massM Mass.le
    simp only []
    omega
  · have h6 := millN_le es
    have hr := fun p => restR_le (n := n) (es := es) hb (millN es) p
    have h0 := hr ((j - millN es) * 4)
    have h1 := hr ((j - millN es) * 4 + 1)
    have h2 := hr ((j - millN es) * 4 + 2)
    have h3 := hr ((j - millN es) * 4 + 3)
    unfold rowM Mass.le
    simp only []
    omega
/-- What Close tells of a flow with a balance: its state. -/
def stB (fs : List FlowD) (j : Nat) (f : FlowD) : Int := if f.me = true then 1 else if rtF j fs 0 id f.fr = rtF j fs 0 id f.to then 3 else 2
end Go.Proofs.Ytjehpgflhgpalaa
namespace Go.Proofs.Ytjehpgflhgpalaa
open Go Kern
/-! Parts by who is joined -/
theorem intOp_quo (k : IntKind) (a b : Int) (ha : 0 ≤ a) (hb : 0 < b) : intOp .quo k a (k, b) = some (.int k (wrapF k (a / b))) := by
  show gd (kindEq k k) (gd (bt (intEq b 0) false true) (some (Value.int k (wrapF k (a.tdiv b))))) = _
  have hb0 : (b == 0) = false := by simp; omega
  rw [kindEq_refl, intEq_eq, hb0, bt_false, Int.tdiv_eq_ediv_of_nonneg ha]; rfl
theorem part_out {rt : Int → Int} {n k u : Nat} (h : rt u = rt (-1)) : partAt rt n k u = -1 := by
  unfold partAt
  refine idxR_none 0 fun l hl e => ?_
  obtain ⟨_, hL⟩ := mem_leads.1 hl
  exact lead_out hL (e.trans h)
theorem part_same {rt : Int → Int} {n k u w : Nat} (h : rt w = rt u) : partAt rt n k u = partAt rt n k w := by
  unfold partAt; rw [h]
theorem part_lead {rt : Int → Int} {n u : Nat} (hu : u < n) (hL : isLead rt n u = true) : ∀ k, u < k → k ≤ n → partAt rt n k u = (leads rt n u).length
  | 0, h, _ => by omega
  | k + 1, h, hk => by
    unfold partAt
    rw [leads_succ]
    by_cases e : u = k
    · subst e
      rw [if_pos hL, idxR_append, if_neg, if_pos rfl]
      · omega
      · rintro ⟨l, hl, e⟩
        obtain ⟨hl1, _⟩ := mem_leads.1 hl
        exact clsN_first hL hl1 hu e
    · have ih := part_lead hu hL k (by omega) (by omega)
      unfold partAt at ih
      split
      · rw [idxR_append, if_pos ⟨u, mem_leads.2 ⟨by omega, hL⟩, rfl⟩]
        exact ih
      · exact ih
theorem lead_not {rt : Int → Int} {n u w : Nat} (hu : u < n) (hw : w < u) (h : rt w = rt u) : isLead rt n u = false := by
  cases hL : isLead rt n u with
  | false => rfl
  | true => exact absurd h (clsN_first hL hw hu)
theorem lead_not_out {rt : Int → Int} {n u : Nat} (h : rt u = rt (-1)) : isLead rt n u = false := by
  cases hL : isLead rt n u with
  | false => rfl
  | true => exact absurd h (lead_out hL)
theorem cls_none {rt : Int → Int} {u : Nat} : ∀ k, (∀ x : Nat, x < k → rt x ≠ rt u) → clsN rt u k = []
  | 0, _ => rfl
  | k + 1, h => by
    rw [clsN_succ, if_neg (h k (by omega))]
    exact cls_none k fun x hx => h x (by omega)
theorem clsN_units (rt : Int → Int) (u : Nat) : ∀ k, UnitsTo k (clsN rt u k)
  | 0 => UnitsTo.nil
  | k + 1 => by
    rw [clsN_succ]
    split
    · exact (clsN_units rt u k).snoc
    · exact (clsN_units rt u k).skip
theorem cls_leak {n u : Nat} {fs : List FlowD} (hck : checkErr n fs = 0) (ho : rtF (-1) fs 0 id u ≠ rtF (-1) fs 0 id (-1)) : fs.any (leakB (clsN (rtF (-1) fs 0 id) u n)) = false := by
  rw [List.any_eq_false]
  intro f hf
  obtain ⟨j, hj⟩ := List.getElem?_of_mem hf
  obtain ⟨⟨a, b⟩, c, d⟩ := ends_in hck f hf
  unfold leakB
  cases hm : f.me with
  | true => simp
  | false =>
    have he := rtF_ends (-1) fs 0 id j f hj hm (by omega)
    have h1 := mem_cls' (n := n) ho a b
    have h2 := mem_cls' (n := n) ho c d
    rw [he, ← h2] at h1
    by_cases h : f.fr ∈ clsN (rtF (-1) fs 0 id) u n
    · simp [h, h1.1 h]
    · have h' : ¬ f.to ∈ clsN (rtF (-1) fs 0 id) u n := fun q => h (h1.2 q)
      simp [h, h']
/-- What was seen of the first u units: whether some part has an excess. -/
def SeenC (fs : List FlowD) (n u : Nat) (cl : Bool) : Prop := cl = true ↔ ∃ k, k < u ∧ isLead (rtF (-1) fs 0 id) n k = true ∧ excM (clsN (rtF (-1) fs 0 id) k n) fs ≠ Mass.zero
theorem SeenC.start {fs : List FlowD} {n : Nat} : SeenC fs n 0 false := by
  unfold SeenC
  exact ⟨fun h => (by cases h), fun ⟨k, h, _⟩ => (by omega)⟩
theorem SeenC.skip {fs : List FlowD} {n u : Nat} {cl : Bool} (h : SeenC fs n u cl) (hL : isLead (rtF (-1) fs 0 id) n u = false) : SeenC fs n (u + 1) cl := by
  unfold SeenC at h ⊢
  refine h.trans ⟨fun ⟨k, a, b⟩ => ⟨k, by omega, b⟩, fun ⟨k, a, b, c⟩ => ⟨k, ?_, b, c⟩⟩
  by_cases e : k = u
  · subst e; rw [hL] at b; cases b
  · omega
theorem SeenC.lead {fs : List FlowD} {n u : Nat} {cl : Bool} (h : SeenC fs n u cl) (hL : isLead (rtF (-1) fs 0 id) n u = true) : SeenC fs n (u + 1) (cl || !decide (excM (clsN (rtF (-1) fs 0 id) u n) fs = Mass.zero)) := by
  unfold SeenC at h ⊢
  rw [Bool.or_eq_true, h]
  constructor
  · rintro (⟨k, a, b⟩ | hc)
    · exact ⟨k, by omega, b⟩
    · exact ⟨u, by omega, hL, by simpa using hc⟩
  · rintro ⟨k, a, b, c⟩
    by_cases e : k = u
    · subst e; exact .inr (by simpa using c)
    · exact .inl ⟨k, by omega, b, c⟩
theorem SeenC.err {fs : List FlowD} {n : Nat} {cl : Bool} (h : SeenC fs n n cl) (hck : checkErr n fs = 0) : closeErr n fs = if cl = true then 12 else 0 := by
  by_cases hc : cl = true
  · rw [if_pos hc]
    obtain ⟨k, a, b, c⟩ := h.1 hc
    rcases closeErr_or hck with h0 | h0
    · exact absurd ((closeErr_zero h0).2 k a b) c
    · exact h0
  · rw [if_neg hc]
    rcases closeErr_or hck with h0 | h0
    · exact h0
    · exfalso
      apply hc
      unfold closeErr at h0
      rw [if_neg (by simp [hck])] at h0
      cases hp : provF (rtF (-1) fs 0 id) fs (n : Int).toNat (n : Int).toNat 0 with
      | none => rw [hp] at h0; cases h0
      | some p =>
        obtain ⟨k, hk, hat⟩ := provF_some hp
        unfold provAt at hat
        split at hat
        · rename_i hL
          refine h.2 ⟨k, by simpa using hk, by simpa using hL, fun hz => ?_⟩
          simp only [Int.toNat_natCast] at hat
          rw [hz] at hat
          cases hat
        · cases hat
theorem prove_some {n : Nat} {fs : List FlowD} (hck : checkErr n fs = 0) (h : closeErr n fs = 12) : (proveR n fs).2.2 = 0 := by
  unfold closeErr at h
  rw [if_neg (by simp [hck])] at h
  unfold proveR
  rw [if_neg (by simp [hck])]
  cases hp : provF (rtF (-1) fs 0 id) fs (n : Int).toNat (n : Int).toNat 0 with
  | none => rw [hp] at h; cases h
  | some p => rfl
theorem partL_get {rt : Int → Int} {n k u : Nat} (hu : u < n) : (partL rt n k)[u]? = some (partAt rt n k u) := by
  unfold partL
  rw [List.getElem?_map, List.getElem?_range hu]; rfl
end Go.Proofs.Ytjehpgflhgpalaa
namespace Go.Proofs.Ytjehpgflhgpalaa
open Go Kern
/-! What is met by rounds over the flows that are not measured -/
def stepJ (lo : Int) (fs : List FlowD) (M : Nat → Bool) (i : Nat) (j : Nat) : Bool := match fs[i]? with
  | some f => if (!f.me && !decide ((i : Int) = lo) && (M (f.fr + 1).toNat || M (f.to + 1).toNat)) = true then (if j = (f.to + 1).toNat then true else if j = (f.fr + 1).toNat then true else M j) else M j
  | none => M j
def passJ (lo : Int) (fs : List FlowD) (M : Nat → Bool) : Nat → Nat → Bool
  | 0 => M
  | k + 1 => stepJ lo fs (passJ lo fs M k) k
def metJ (lo : Int) (fs : List FlowD) (a : Int) : Nat → Nat → Bool
  | 0 => fun j => decide (j = (a + 1).toNat)
  | r + 1 => passJ lo fs (metJ lo fs a r) fs.length
section
variable {lo : Int} {fs : List FlowD} {M : Nat → Bool} {a : Int} {n : Nat}
theorem stepJ_mono {i j : Nat} (h : M j = true) : stepJ lo fs M i j = true := by
  unfold stepJ
  split
  · split
    · split
      · rfl
      · split
        · rfl
        · exact h
    · exact h
  · exact h
theorem passJ_mono {j : Nat} (h : M j = true) : ∀ k, passJ lo fs M k j = true
  | 0 => h
  | k + 1 => stepJ_mono (passJ_mono h k)
theorem passJ_le {k l j : Nat} (hkl : k ≤ l) (h : passJ lo fs M k j = true) : passJ lo fs M l j = true := by
  induction l with
  | zero =>
    obtain rfl : k = 0 := by omega
    exact h
  | succ l ih =>
    by_cases e : k = l + 1
    · subst e; exact h
    · exact stepJ_mono (ih (by omega))
theorem stepJ_path {i j : Nat} (he : ∀ f ∈ fs, -1 ≤ f.fr ∧ -1 ≤ f.to) (h : ∀ j : Nat, M j = true → Path fs (Unm fs lo) a ((j : Int) - 1)) (hj : stepJ lo fs M i j = true) : Path fs (Unm fs lo) a ((j : Int) - 1) := by
  unfold stepJ at hj
  split at hj
  · rename_i f hf
    split at hj
    · rename_i hc
      simp only [Bool.and_eq_true, Bool.not_eq_true', decide_eq_false_iff_not, Bool.or_eq_true] at hc
      obtain ⟨⟨hm, hlo⟩, hor⟩ := hc
      obtain ⟨h1, h2⟩ := he f (List.mem_of_getElem? hf)
      have hu : Unm fs lo i := ⟨⟨f, hf, hm⟩, hlo⟩
      have hfr : Path fs (Unm fs lo) a f.fr := by
        rcases hor with ho | ho
        · have := h _ ho
          rwa [show (((f.fr + 1).toNat : Nat) : Int) - 1 = f.fr by omega] at this
        · have := h _ ho
          rw [show (((f.to + 1).toNat : Nat) : Int) - 1 = f.to by omega] at this
          exact .step i f this hf hu (.inr ⟨rfl, rfl⟩)
      split at hj
      · rename_i e; subst e
        rw [show (((f.to + 1).toNat : Nat) : Int) - 1 = f.to by omega]
        exact .step i f hfr hf hu (.inl ⟨rfl, rfl⟩)
      · split at hj
        · rename_i e; subst e
          rw [show (((f.fr + 1).toNat : Nat) : Int) - 1 = f.fr by omega]
          exact hfr
        · exact h j hj
    · exact h j hj
  · exact h j hj
theorem passJ_path (he : ∀ f ∈ fs, -1 ≤ f.fr ∧ -1 ≤ f.to) (h : ∀ j : Nat, M j = true → Path fs (Unm fs lo) a ((j : Int) - 1)) : ∀ k j : Nat, passJ lo fs M k j = true → Path fs (Unm fs lo) a ((j : Int) - 1)
  | 0, j, hj => h j hj
  | k + 1, j, hj => stepJ_path he (passJ_path he h k) hj
theorem metJ_path (he : ∀ f ∈ fs, -1 ≤ f.fr ∧ -1 ≤ f.to) (ha : -1 ≤ a) : ∀ r j : Nat, metJ lo fs a r j = true → Path fs (Unm fs lo) a ((j : Int) - 1)
  | 0, j, hj => by
    obtain rfl : j = (a + 1).toNat := by simpa [metJ] using hj
    rw [show (((a + 1).toNat : Nat) : Int) - 1 = a by omega]
    exact .refl
  | r + 1, j, hj => passJ_path he (metJ_path he ha r) _ j hj
/-- Each flow has both ends or none. -/
def ShutJ (lo : Int) (fs : List FlowD) (M : Nat → Bool) : Prop := ∀ (i : Nat) (f : FlowD), fs[i]? = some f → Unm fs lo i → (M (f.fr + 1).toNat = true ↔ M (f.to + 1).toNat = true)
theorem stepJ_shut (h : ShutJ lo fs M) (i : Nat) : stepJ lo fs M i = M := by
  funext j
  unfold stepJ
  split
  · rename_i f hf
    split
    · rename_i hc
      simp only [Bool.and_eq_true, Bool.not_eq_true', decide_eq_false_iff_not, Bool.or_eq_true] at hc
      obtain ⟨⟨hm, hlo⟩, hor⟩ := hc
      have hb := h i f hf ⟨⟨f, hf, hm⟩, hlo⟩
      have h1 : M (f.fr + 1).toNat = true := hor.elim id fun q => hb.2 q
      have h2 := hb.1 h1
      by_cases e1 : j = (f.to + 1).toNat
      · subst e1; rw [if_pos rfl, h2]
      · rw [if_neg e1]
        by_cases e2 : j = (f.fr + 1).toNat
        · subst e2; rw [if_pos rfl, h1]
        · rw [if_neg e2]
    · rfl
  · rfl
theorem passJ_shut (h : ShutJ lo fs M) : ∀ k, passJ lo fs M k = M
  | 0 => rfl
  | k + 1 => by unfold passJ; rw [passJ_shut h k, stepJ_shut h]
/-- After a round each flow that has one end has both. -/
theorem passJ_both {i : Nat} {f : FlowD} (hf : fs[i]? = some f) (hu : Unm fs lo i) (h : M (f.fr + 1).toNat = true ∨ M (f.to + 1).toNat = true) : passJ lo fs M fs.length (f.fr + 1).toNat = true ∧ passJ lo fs M fs.length (f.to + 1).toNat = true := by
  have hlt := (List.getElem?_eq_some_iff.1 hf).1
  obtain ⟨⟨g, hg, hm⟩, hlo⟩ := hu
  rw [hf] at hg; cases hg
  have h0 : passJ lo fs M i (f.fr + 1).toNat = true ∨ passJ lo fs M i (f.to + 1).toNat = true := h.imp (fun q => passJ_mono q i) fun q => passJ_mono q i
  have hc : (!f.me && !decide ((i : Int) = lo) && (passJ lo fs M i (f.fr + 1).toNat || passJ lo fs M i (f.to + 1).toNat)) = true := by
    simp only [Bool.and_eq_true, Bool.not_eq_true', decide_eq_false_iff_not, Bool.or_eq_true]
    exact ⟨⟨hm, hlo⟩, h0⟩
  have hs : ∀ j, j = (f.to + 1).toNat ∨ j = (f.fr + 1).toNat → passJ lo fs M (i + 1) j = true := fun j hj => by
    show stepJ lo fs (passJ lo fs M i) i j = true
    unfold stepJ
    rw [hf]
    simp only []
    rw [if_pos hc]
    by_cases e : j = (f.to + 1).toNat
    · rw [if_pos e]
    · rw [if_neg e, if_pos (hj.resolve_left e)]
  exact ⟨passJ_le (by omega) (hs _ (.inr rfl)), passJ_le (by omega) (hs _ (.inl rfl))⟩
def cntJ (M : Nat → Bool) (l : List Nat) : Nat := (l.filter M).length
theorem cntJ_mono {N : Nat → Bool} (h : ∀ j, M j = true → N j = true) : ∀ l, cntJ M l ≤ cntJ N l
  | [] => Nat.le_refl _
  | x :: r => by
    have := cntJ_mono h r
    unfold cntJ at this ⊢
    by_cases e : M x = true
    · rw [List.filter_cons_of_pos e, List.filter_cons_of_pos (h x e)]; simp; omega
    · rw [List.filter_cons_of_neg e]
      by_cases e2 : N x = true
      · rw [List.filter_cons_of_pos e2]; simp; omega
      · rw [List.filter_cons_of_neg e2]; exact this
theorem cntJ_lt {N : Nat → Bool} (h : ∀ j, M j = true → N j = true) {j : Nat} (h1 : M j = false) (h2 : N j = true) : ∀ {l}, j ∈ l → cntJ M l < cntJ N l
  | x :: r, hm => by
    have hr := cntJ_mono h r
    unfold cntJ at hr ⊢
    by_cases e : x = j
    · subst e
      rw [List.filter_cons_of_neg (by simp [h1]), List.filter_cons_of_pos h2]; simp; omega
    · have hm' : j ∈ r := by
        cases hm with
        | head => exact absurd rfl e
        | tail _ q => exact q
      have := cntJ_lt h h1 h2 hm'
      unfold cntJ at this
      by_cases e1 : M x = true
      · rw [List.filter_cons_of_pos e1, List.filter_cons_of_pos (h x e1)]; simp; omega
      · rw [List.filter_cons_of_neg e1]
        by_cases e2 : N x = true
        · rw [List.filter_cons_of_pos e2]; simp; omega
        · rw [List.filter_cons_of_neg e2]; exact this
theorem metJ_grow (he : ∀ f ∈ fs, (-1 ≤ f.fr ∧ f.fr < n) ∧ (-1 ≤ f.to ∧ f.to < n)) (ha : -1 ≤ a ∧ a < n) : ∀ r, ShutJ lo fs (metJ lo fs a r) ∨ r + 1 ≤ cntJ (metJ lo fs a r) (List.range (n + 1))
  | 0 => by
    right
    have hp : (a + 1).toNat ∈ (List.range (n + 1)).filter (metJ lo fs a 0) := List.mem_filter.2 ⟨List.mem_range.2 (by omega), by simp [metJ]⟩
    have := List.length_pos_of_mem hp
    unfold cntJ; omega
  | r + 1 => by
    by_cases hs : ShutJ lo fs (metJ lo fs a r)
    · left
      show ShutJ lo fs (passJ lo fs (metJ lo fs a r) fs.length)
      rw [passJ_shut hs]; exact hs
    · right
      have hc := (metJ_grow he ha r).resolve_left hs
      have : ∃ (i : Nat) (f : FlowD), fs[i]? = some f ∧ Unm fs lo i ∧ ¬ (metJ lo fs a r (f.fr + 1).toNat = true ↔ metJ lo fs a r (f.to + 1).toNat = true) := Classical.byContradiction fun hn => hs fun i f hf hu => Classical.byContradiction fun hq => hn ⟨i, f, hf, hu, hq⟩
      obtain ⟨i, f, hf, hu, hne⟩ := this
      obtain ⟨⟨a1, a2⟩, a3, a4⟩ := he f (List.mem_of_getElem? hf)
      have hmono : ∀ j, metJ lo fs a r j = true → metJ lo fs a (r + 1) j = true := fun j hj => passJ_mono hj _
      by_cases h1 : metJ lo fs a r (f.fr + 1).toNat = true
      · have h2 : metJ lo fs a r (f.to + 1).toNat = false := by
          cases hq : metJ lo fs a r (f.to + 1).toNat with
          | false => rfl
          | true => exact absurd ⟨fun _ => hq, fun _ => h1⟩ hne
        have := cntJ_lt hmono h2 (passJ_both hf hu (.inl h1)).2 (l := List.range (n + 1)) (List.mem_range.2 (by omega))
        omega
      · have h1 : metJ lo fs a r (f.fr + 1).toNat = false := by simpa using h1
        have h2 : metJ lo fs a r (f.to + 1).toNat = true := by
          cases hq : metJ lo fs a r (f.to + 1).toNat with
          | true => rfl
          | false => exact absurd ⟨fun q => (by rw [h1] at q; cases q), fun q => (by rw [hq] at q; cases q)⟩ hne
        have := cntJ_lt hmono h1 (passJ_both hf hu (.inr h2)).1 (l := List.range (n + 1)) (List.mem_range.2 (by omega))
        omega
theorem metJ_start : ∀ r, metJ lo fs a r (a + 1).toNat = true
  | 0 => by simp [metJ]
  | r + 1 => passJ_mono (metJ_start r) _
theorem shut_path (h : ShutJ lo fs M) (ha : M (a + 1).toNat = true) {y : Int} (hp : Path fs (Unm fs lo) a y) : M (y + 1).toNat = true := by
  induction hp with
  | refl => exact ha
  | step j f _ hj he hz ih =>
    rcases hz with ⟨rfl, rfl⟩ | ⟨rfl, rfl⟩
    · exact (h j f hj he).1 ih
    · exact (h j f hj he).2 ih
/-- What is met after as many rounds as there are ends is what is joined. -/
theorem metJ_all (he : ∀ f ∈ fs, (-1 ≤ f.fr ∧ f.fr < n) ∧ (-1 ≤ f.to ∧ f.to < n)) (ha : -1 ≤ a ∧ a < n) {y : Int} (hy : -1 ≤ y) : metJ lo fs a (n + 1) (y + 1).toNat = decide (rtF lo fs 0 id a = rtF lo fs 0 id y) := by
  have hs : ShutJ lo fs (metJ lo fs a (n + 1)) := by
    rcases metJ_grow (lo := lo) he ha (n + 1) with h | h
    · exact h
    · have : cntJ (metJ lo fs a (n + 1)) (List.range (n + 1)) ≤ n + 1 := by
        unfold cntJ
        have := List.length_filter_le (metJ lo fs a (n + 1)) (List.range (n + 1))
        rwa [List.length_range] at this
      omega
  rw [Bool.eq_iff_iff, decide_eq_true_eq, rt_path_all]
  constructor
  · intro h
    have := metJ_path (fun f hf => ⟨(he f hf).1.1, (he f hf).2.1⟩) ha.1 _ _ h
    rwa [show (((y + 1).toNat : Nat) : Int) - 1 = y by omega] at this
  · exact fun h => shut_path hs (metJ_start _) h
end
end Go.Proofs.Ytjehpgflhgpalaa
namespace Go.Proofs.Ytjehpgflhgpalaa
open Go Kern
/-! The law's own question whether ends are joined -/
def cellsB (m : Nat) (M : Nat → Bool) : List Value := (List.range m).map fun j => Value.bool (M j)
theorem cellsB_get {m p : Nat} (M : Nat → Bool) (h : p < m) : (cellsB m M)[p]? = some (.bool (M p)) := by unfold cellsB; rw [List.getElem?_map, List.getElem?_range h]; rfl
def orAt (M : Nat → Bool) (p j : Nat) : Bool := if j = p then true else M j
theorem cellsB_put {m p : Nat} (M : Nat → Bool) (h : p < m) : putL p [.bool true] (cellsB m M) = some (cellsB m (orAt M p)) := by
  rw [putL_set _ _ _ (by simp [cellsB]; omega)]
  unfold cellsB
  rw [range_setV (h := fun j => Value.bool (orAt M p j)) h (fun x _ hx => by unfold orAt; rw [if_neg hx]) (by unfold orAt; rw [if_pos rfl])]
theorem cellsB_false (m : Nat) : repeatL [Value.bool false] m = cellsB m fun _ => false := by
  rw [repeatL_single]
  apply List.ext_getElem?
  intro i
  by_cases h : i < m <;> simp [cellsB, h]
theorem stepJ_no {lo : Int} {fs : List FlowD} {M : Nat → Bool} {i : Nat} {f : FlowD} (hf : fs[i]? = some f) (h : f.me = true ∨ (i : Int) = lo ∨ (M (f.fr + 1).toNat = false ∧ M (f.to + 1).toNat = false)) : stepJ lo fs M i = M := by
  funext j
  unfold stepJ
  rw [hf]
  simp only []
  rw [if_neg]
  simp only [Bool.and_eq_true, Bool.not_eq_true', decide_eq_false_iff_not, Bool.or_eq_true]
  rintro ⟨⟨h1, h2⟩, h3⟩
  rcases h with h | h | ⟨h, h'⟩
  · rw [h1] at h; cases h
  · exact h2 h
  · rw [h, h'] at h3; rcases h3 with h3 | h3 <;> cases h3
theorem stepJ_yes {lo : Int} {fs : List FlowD} {M : Nat → Bool} {i : Nat} {f : FlowD} (hf : fs[i]? = some f) (h1 : f.me = false) (h2 : ¬ (i : Int) = lo) (h3 : M (f.fr + 1).toNat = true ∨ M (f.to + 1).toNat = true) : stepJ lo fs M i = orAt (orAt M (f.fr + 1).toNat) (f.to + 1).toNat := by
  funext j
  unfold stepJ orAt
  rw [hf]
  simp only []
  rw [if_pos]
  simp only [Bool.and_eq_true, Bool.not_eq_true', decide_eq_false_iff_not, Bool.or_eq_true]
  exact ⟨⟨h1, h2⟩, h3⟩
set_option maxRecDepth 100000 in
set_option maxHeartbeats 4000000 in
theorem joinedL_ev (n : Nat) (a b lo : Int) (v : Value) (fs : List FlowD) (s : St) (hf : FlAt s v fs) (hl : fs.length ≤ 1000) (hn : n ≤ 8) (hends : ∀ f ∈ fs, (-1 ≤ f.fr ∧ f.fr < n) ∧ (-1 ≤ f.to ∧ f.to < n)) (ha : -1 ≤ a ∧ a < n) (hb : -1 ≤ b ∧ b < n) :
    Ev TT 35 [plantV n v, .int .i64 a, .int .i64 b, .int .i64 lo] s fun r s' => r = .bool (decide (rtF lo fs 0 id a = rtF lo fs 0 id b)) ∧ Keep s s' := by
  rw [← metJ_all (lo := lo) hends ha hb.1]
  obtain ⟨af, cf, rfl⟩ := hf.shape
  rw [List.length_map] at hf ⊢
  unfold plantV
  have nl : natOf (.int .i64 ((n : Int) + 1)) = some (n + 1) := by
    have := natOf_cast .i64 (n + 1)
    push_cast at this
    exact this
  have na := natOf_pos .i64 (show 0 ≤ a + 1 by omega)
  have nb := natOf_pos .i64 (show 0 ≤ b + 1 by omega)
  have hput0 := cellsB_put (m := n + 1) (fun _ => false) (p := (a + 1).toNat) (by omega)
  rw [show orAt (fun _ => false) (a + 1).toNat = metJ lo fs a 0 by funext j; unfold metJ orAt; by_cases h : j = (a + 1).toNat <;> simp [h]] at hput0
  have ha1 : (a + 1).toNat < n + 1 := by omega
  have hb1 : (b + 1).toNat < n + 1 := by omega
  refine Ev.intro (fn := Try.f35) rfl (by kernel_rfl) rfl rfl ?_
  apply zz
  refine Cd.ra (h := ?_)
  apply Run.by_eq
  · intro self
    conv => lhs; simp -implicitDefEqProofs (maxSteps := 300000) (disch := omega) [-getElem?_pos, -getElem?_neg]
  try (with_reducible refine Run.ret ?_)
  apply zz
  refine Cd.ra (h := ?_)
  apply Run.by_eq
  · intro self
    conv => lhs; simp -implicitDefEqProofs (maxSteps := 300000) (disch := omega) [-getElem?_pos, -getElem?_neg, nl, cellsB_false]
  try (with_reducible refine Run.ret ?_)
  apply zz
  refine Cd.ra (h := ?_)
  apply Run.by_eq
  · intro self
    conv => lhs; simp -implicitDefEqProofs (maxSteps := 300000) (disch := omega) [-getElem?_pos, -getElem?_neg, na, ha1, hput0]
  try (with_reducible refine Run.ret ?_)
  apply zz
  refine Cd.ra (h := ?_)
  apply Run.by_eq
  · intro self
    conv => lhs; simp -implicitDefEqProofs (maxSteps := 300000) (disch := omega) [-getElem?_pos, -getElem?_neg]
  try (with_reducible refine Run.ret ?_)
  apply zz
  refine Cd.inv (fun z f s' => ∃ r : Nat, r ≤ n + 1 ∧ z = n + 1 - r ∧ f.marks = [] ∧ f.get 10 = .int .i64 r ∧ f.get 2 = .int .i64 b ∧ f.get 3 = .int .i64 lo ∧ f.get 4 = .pointer (some ⟨s.next, 0, none⟩) ∧ f.get 9 = .slice (some ⟨s.next + 1, 0, none⟩) (n + 1) (n + 1) ∧ Keep s s' ∧ s.next + 1 < s'.next ∧ s'.heap.get s.next = some (.cells [.int .i64 n, .slice af fs.length cf] none) ∧ s'.heap.get (s.next + 1) = some (.cells (cellsB (n + 1) (metJ lo fs a r)) none)) (n + 1) ?_ ?_
  · exact ⟨0, by omega, rfl, by simp, by simp, by simp, by simp, by simp, by simp, ⟨by (try simp only [pushed_next', upded_next']); omega, fun i hi => by simp -implicitDefEqProofs (disch := omega) []⟩, by simp, by simp -implicitDefEqProofs (disch := omega), by simp -implicitDefEqProofs (disch := omega)⟩
  rintro z f s' ⟨r, hr, rfl, hm, h10, h2, h3, h4, h9, hkp, hnx, hg0, hg1⟩
  by_cases hlt : r < n + 1
  · have hrn : (r : Int) ≤ n := by omega
    apply zz
    refine Cd.ra (h := ?_)
    apply Run.by_eq
    · intro self
      conv => lhs; simp -implicitDefEqProofs (maxSteps := 300000) (disch := omega) [-getElem?_pos, -getElem?_neg, h10, h4, hg0, hrn]
    try (with_reducible refine Run.ret ?_)
    apply zz
    apply Cd.ite rfl
    · conv => lhs; simp -implicitDefEqProofs (maxSteps := 300000) (disch := omega) [-getElem?_pos, -getElem?_neg]
    all_goals intro c0
    all_goals try (cases c0; done)
    all_goals try simp only [Bool.not_eq_true', Bool.not_eq_false', decide_eq_true_eq, decide_eq_false_iff_not] at c0
    all_goals apply zz
    · apply zz
      refine Cd.ra (h := ?_)
      apply Run.by_eq
      · intro self
        conv => lhs; simp -implicitDefEqProofs (maxSteps := 300000) (disch := omega) [-getElem?_pos, -getElem?_neg, h4, hg0]
      try (with_reducible refine Run.ret ?_)
      apply zz
      refine Cd.mono (Q := fun x f2 s2 => x = Ex.exit 2 ∧ f2.marks = [] ∧ f2.get 10 = .int .i64 r ∧ f2.get 2 = .int .i64 b ∧ f2.get 3 = .int .i64 lo ∧ f2.get 4 = .pointer (some ⟨s.next, 0, none⟩) ∧ f2.get 9 = .slice (some ⟨s.next + 1, 0, none⟩) (n + 1) (n + 1) ∧ Keep s s2 ∧ s.next + 1 < s2.next ∧ s2.heap.get s.next = some (.cells [.int .i64 n, .slice af fs.length cf] none) ∧ s2.heap.get (s.next + 1) = some (.cells (cellsB (n + 1) (metJ lo fs a (r + 1))) none)) (Cd.inv (fun z f2 s2 => ∃ k : Nat, k ≤ fs.length ∧ z = fs.length - k ∧ f2.get 30 = .int .i64 k ∧ f2.get 29 = .int .i64 fs.length ∧ f2.get 28 = .slice af fs.length cf ∧ f2.marks = [] ∧ f2.get 10 = .int .i64 r ∧ f2.get 2 = .int .i64 b ∧ f2.get 3 = .int .i64 lo ∧ f2.get 4 = .pointer (some ⟨s.next, 0, none⟩) ∧ f2.get 9 = .slice (some ⟨s.next + 1, 0, none⟩) (n + 1) (n + 1) ∧ Keep s s2 ∧ s.next + 1 < s2.next ∧ s2.heap.get s.next = some (.cells [.int .i64 n, .slice af fs.length cf] none) ∧ s2.heap.get (s.next + 1) = some (.cells (cellsB (n + 1) (passJ lo fs (metJ lo fs a r) k)) none)) fs.length ?_ ?_) ?_
      · exact ⟨0, by omega, rfl, by simp, by simp, by simp, by simp [hm], by simp [h10], by simp [h2], by simp [h3], by simp [h4], by simp [h9], hkp, hnx, hg0, hg1⟩
      · clear hkp hnx hg0 hg1 hm h10 h2 h3 h4 h9
        rintro z f2 s2 ⟨k, hk, rfl, h30, h29, h28, hm, h10, h2, h3, h4, h9, hkp, hnx, hg0, hg1⟩
        have hkpa := hkp.1
        have hkpb := hkp.2
        by_cases hlt2 : k < fs.length
        · obtain ⟨g, hg⟩ : ∃ g, fs[k]? = some g := ⟨fs[k], by simp [hlt2]⟩
          have hno := stepJ_no (lo := lo) (M := passJ lo fs (metJ lo fs a r) k) hg
          have hyes := stepJ_yes (lo := lo) (M := passJ lo fs (metJ lo fs a r) k) hg
          have hsuc : passJ lo fs (metJ lo fs a r) (k + 1) = stepJ lo fs (passJ lo fs (metJ lo fs a r) k) k := rfl
          rw [← hsuc] at hno hyes
          obtain ⟨M2, hMd⟩ : ∃ M2, passJ lo fs (metJ lo fs a r) (k + 1) = M2 := ⟨_, rfl⟩
          rw [hMd] at hno hyes
          generalize passJ lo fs (metJ lo fs a r) k = M at hno hyes hg1
          obtain ⟨⟨r1, r2⟩, r3, r4⟩ := hends g (List.mem_of_getElem? hg)
          obtain ⟨bb, off, o, cs, gg, rfl, hbb, ho, hc, ht⟩ := FlAt.at (hf.keep hkp) hg
          obtain ⟨g0, g1, gm, m⟩ := g
          rw [FlowD.cs] at ht
          simp only [] at ht r1 r2 r3 r4 hno hyes
          have n0 := natOf_pos .i64 (show 0 ≤ g0 + 1 by omega)
          have n1 := natOf_pos .i64 (show 0 ≤ g1 + 1 by omega)
          have i0 : (g0 + 1).toNat < n + 1 := by omega
          have i1 : (g1 + 1).toNat < n + 1 := by omega
          have e0 := cellsB_get M i0
          have e1 := cellsB_get M i1
          have hp0 := cellsB_put M i0
          have hp1 := cellsB_put (orAt M (g0 + 1).toNat) i1
          have vc : veq 5 (Value.slice (some ⟨s.next + 1, 0, none⟩) (n + 1) (n + 1)) (Value.slice (some ⟨s.next + 1, 0, none⟩) (n + 1) (n + 1)) = true := veq_slice _ _ _ _ _
          apply zz
          refine Cd.ra (h := ?_)
          apply Run.by_eq
          · intro self
            conv => lhs; simp -implicitDefEqProofs (maxSteps := 300000) (disch := omega) [-getElem?_pos, -getElem?_neg, h30, h29]
          try (with_reducible refine Run.ret ?_)
          apply zz
          apply Cd.ite rfl
          · conv => lhs; simp -implicitDefEqProofs (maxSteps := 300000) (disch := omega) [-getElem?_pos, -getElem?_neg]
          all_goals intro c1
          all_goals try (cases c1; done)
          all_goals try simp only [Bool.not_eq_true', Bool.not_eq_false', decide_eq_true_eq, decide_eq_false_iff_not] at c1
          all_goals apply zz
          · apply zz
            refine Cd.ra (h := ?_)
            apply Run.by_eq
            · intro self
              conv => lhs; simp -implicitDefEqProofs (maxSteps := 300000) (disch := omega) [-getElem?_pos, -getElem?_neg, h30, h28, hlt2, ho, hc, ht]
            try (with_reducible refine Run.ret ?_)
            apply zz
            have ho2 : s2.heap.get bb = some o := ho
            cases gm with
            | true =>
              have hM2 := hno (.inl rfl)
              apply zz
              refine Cd.ra (h := ?_)
              apply Run.by_eq
              · intro self
                conv => lhs; simp -implicitDefEqProofs (maxSteps := 300000) (disch := omega) [-getElem?_pos, -getElem?_neg]
              try (with_reducible refine Run.ret ?_)
              apply zz
              apply Cd.ite rfl
              · conv => lhs; simp -implicitDefEqProofs (maxSteps := 300000) (disch := omega) [-getElem?_pos, -getElem?_neg]
              all_goals intro c2
              all_goals try (cases c2; done)
              all_goals try simp only [Bool.not_eq_true', Bool.not_eq_false', decide_eq_true_eq, decide_eq_false_iff_not] at c2
              all_goals apply zz
              apply zz
              refine Cd.ra (h := ?_)
              apply Run.by_eq
              · intro self
                conv => lhs; simp -implicitDefEqProofs (maxSteps := 300000) (disch := omega) [-getElem?_pos, -getElem?_neg, h30]
              try (with_reducible refine Run.ret ?_)
              apply zz
              refine LoopK.nm (fs.length - (k + 1)) (by omega) ⟨k + 1, by omega, rfl, by simp, by simp [h29], by simp [h28], by simp [hm], by simp [h10], by simp [h2], by simp [h3], by simp [h4], by simp [h9], ⟨by (try simp only [pushed_next', upded_next']); omega, fun i hi => by simp -implicitDefEqProofs (disch := omega) [hkpb]⟩, by (try simp only [pushed_next', upded_next']); omega, ?_, ?_⟩
              · simp -implicitDefEqProofs (disch := omega) [hg0]
              · rw [hMd, hM2]; simp -implicitDefEqProofs (disch := omega) [hg1]
            | false =>
              by_cases hlo : (k : Int) = lo
              · have hM2 := hno (.inr (.inl hlo))
                apply zz
                refine Cd.ra (h := ?_)
                apply Run.by_eq
                · intro self
                  conv => lhs; simp -implicitDefEqProofs (maxSteps := 300000) (disch := omega) [-getElem?_pos, -getElem?_neg, hlo, h3]
                try (with_reducible refine Run.ret ?_)
                apply zz
                apply Cd.ite rfl
                · conv => lhs; simp -implicitDefEqProofs (maxSteps := 300000) (disch := omega) [-getElem?_pos, -getElem?_neg]
                all_goals intro c2
                all_goals try (cases c2; done)
                all_goals try simp only [Bool.not_eq_true', Bool.not_eq_false', decide_eq_true_eq, decide_eq_false_iff_not] at c2
                all_goals apply zz
                apply zz
                refine Cd.ra (h := ?_)
                apply Run.by_eq
                · intro self
                  conv => lhs; simp -implicitDefEqProofs (maxSteps := 300000) (disch := omega) [-getElem?_pos, -getElem?_neg, h30]
                try (with_reducible refine Run.ret ?_)
                apply zz
                refine LoopK.nm (fs.length - (k + 1)) (by omega) ⟨k + 1, by omega, rfl, by simp, by simp [h29], by simp [h28], by simp [hm], by simp [h10], by simp [h2], by simp [h3], by simp [h4], by simp [h9], ⟨by (try simp only [pushed_next', upded_next']); omega, fun i hi => by simp -implicitDefEqProofs (disch := omega) [hkpb]⟩, by (try simp only [pushed_next', upded_next']); omega, ?_, ?_⟩
                · simp -implicitDefEqProofs (disch := omega) [hg0]
                · rw [hMd, hM2]; simp -implicitDefEqProofs (disch := omega) [hg1]
              · cases hb0 : M (g0 + 1).toNat with
                | true =>
                  rw [hb0] at e0
                  have hM2 := hyes rfl hlo (.inl hb0)
                  apply zz
                  refine Cd.ra (h := ?_)
                  apply Run.by_eq
                  · intro self
                    conv => lhs; simp -implicitDefEqProofs (maxSteps := 300000) (disch := omega) [-getElem?_pos, -getElem?_neg, hlo, h3, h9, n0, i0, hg1, e0]
                  try (with_reducible refine Run.ret ?_)
                  apply zz
                  apply Cd.ite rfl
                  · conv => lhs; simp -implicitDefEqProofs (maxSteps := 300000) (disch := omega) [-getElem?_pos, -getElem?_neg]
                  all_goals intro c2
                  all_goals try (cases c2; done)
                  all_goals try simp only [Bool.not_eq_true', Bool.not_eq_false', decide_eq_true_eq, decide_eq_false_iff_not] at c2
                  all_goals apply zz
                  apply zz
                  refine Cd.drawn (pl := [(0, 0, false, false), (1, 0, false, false), (2, 2, false, false), (3, 6, false, false), (4, 0, false, false), (5, 0, false, false), (6, 32, false, false), (7, 96, false, false), (8, 15, false, false), (9, 271, true, false), (10, 1023, false, false), (11, 2047, true, false)]) (by kernel_rfl) (by conv => lhs; simp only [List.map_cons, List.map_nil]) (by conv => lhs; simp [strip, ordered]) ?_
                  apply Run.by_eq
                  · intro self
                    conv => lhs; simp -implicitDefEqProofs (maxSteps := 300000) (disch := omega) [filter_bt, (show Nat.testBit 271 0 = true from rfl), (show Nat.testBit 271 1 = true from rfl), (show Nat.testBit 271 2 = true from rfl), (show Nat.testBit 271 3 = true from rfl), (show Nat.testBit 271 4 = false from rfl), (show Nat.testBit 271 5 = false from rfl), (show Nat.testBit 271 6 = false from rfl), (show Nat.testBit 271 7 = false from rfl), (show Nat.testBit 271 8 = true from rfl), (show ∀ i, Nat.testBit 2047 i = decide (i < 11) from fun i => Nat.testBit_two_pow_sub_one 11 i), -getElem?_pos, -getElem?_neg, h9, n0, n1, i0, i1, hg1, hp0, hp1, vc]
                  try (with_reducible refine Run.ret ?_)
                  apply zz
                  refine Cd.ra (h := ?_)
                  apply Run.by_eq
                  · intro self
                    conv => lhs; simp -implicitDefEqProofs (maxSteps := 300000) (disch := omega) [-getElem?_pos, -getElem?_neg, h30]
                  try (with_reducible refine Run.ret ?_)
                  apply zz
                  refine LoopK.nm (fs.length - (k + 1)) (by omega) ⟨k + 1, by omega, rfl, by simp, by simp [h29], by simp [h28], by simp [hm], by simp [h10], by simp [h2], by simp [h3], by simp [h4], by simp [h9], ⟨by (try simp only [pushed_next', upded_next']); omega, fun i hi => by simp -implicitDefEqProofs (disch := omega) [hkpb]⟩, by (try simp only [pushed_next', upded_next']); omega, ?_, ?_⟩
                  · simp -implicitDefEqProofs (disch := omega) [hg0]
                  · rw [hMd, hM2]; simp -implicitDefEqProofs (disch := omega) [hg1]
                | false =>
                  rw [hb0] at e0
                  cases hb1 : M (g1 + 1).toNat with
                  | true =>
                    rw [hb1] at e1
                    have hM2 := hyes rfl hlo (.inr hb1)
                    apply zz
                    refine Cd.ra (h := ?_)
                    apply Run.by_eq
                    · intro self
                      conv => lhs; simp -implicitDefEqProofs (maxSteps := 300000) (disch := omega) [-getElem?_pos, -getElem?_neg, hlo, h3, h9, n0, n1, i0, i1, hg1, e0, e1]
                    try (with_reducible refine Run.ret ?_)
                    apply zz
                    apply Cd.ite rfl
                    · conv => lhs; simp -implicitDefEqProofs (maxSteps := 300000) (disch := omega) [-getElem?_pos, -getElem?_neg]
                    all_goals intro c2
                    all_goals try (cases c2; done)
                    all_goals try simp only [Bool.not_eq_true', Bool.not_eq_false', decide_eq_true_eq, decide_eq_false_iff_not] at c2
                    all_goals apply zz
                    apply zz
                    refine Cd.drawn (pl := [(0, 0, false, false), (1, 0, false, false), (2, 2, false, false), (3, 6, false, false), (4, 0, false, false), (5, 0, false, false), (6, 32, false, false), (7, 96, false, false), (8, 15, false, false), (9, 271, true, false), (10, 1023, false, false), (11, 2047, true, false)]) (by kernel_rfl) (by conv => lhs; simp only [List.map_cons, List.map_nil]) (by conv => lhs; simp [strip, ordered]) ?_
                    apply Run.by_eq
                    · intro self
                      conv => lhs; simp -implicitDefEqProofs (maxSteps := 300000) (disch := omega) [filter_bt, (show Nat.testBit 271 0 = true from rfl), (show Nat.testBit 271 1 = true from rfl), (show Nat.testBit 271 2 = true from rfl), (show Nat.testBit 271 3 = true from rfl), (show Nat.testBit 271 4 = false from rfl), (show Nat.testBit 271 5 = false from rfl), (show Nat.testBit 271 6 = false from rfl), (show Nat.testBit 271 7 = false from rfl), (show Nat.testBit 271 8 = true from rfl), (show ∀ i, Nat.testBit 2047 i = decide (i < 11) from fun i => Nat.testBit_two_pow_sub_one 11 i), -getElem?_pos, -getElem?_neg, h9, n0, n1, i0, i1, hg1, hp0, hp1, vc]
                    try (with_reducible refine Run.ret ?_)
                    apply zz
                    refine Cd.ra (h := ?_)
                    apply Run.by_eq
                    · intro self
                      conv => lhs; simp -implicitDefEqProofs (maxSteps := 300000) (disch := omega) [-getElem?_pos, -getElem?_neg, h30]
                    try (with_reducible refine Run.ret ?_)
                    apply zz
                    refine LoopK.nm (fs.length - (k + 1)) (by omega) ⟨k + 1, by omega, rfl, by simp, by simp [h29], by simp [h28], by simp [hm], by simp [h10], by simp [h2], by simp [h3], by simp [h4], by simp [h9], ⟨by (try simp only [pushed_next', upded_next']); omega, fun i hi => by simp -implicitDefEqProofs (disch := omega) [hkpb]⟩, by (try simp only [pushed_next', upded_next']); omega, ?_, ?_⟩
                    · simp -implicitDefEqProofs (disch := omega) [hg0]
                    · rw [hMd, hM2]; simp -implicitDefEqProofs (disch := omega) [hg1]
                  | false =>
                    rw [hb1] at e1
                    have hM2 := hno (.inr (.inr ⟨hb0, hb1⟩))
                    apply zz
                    refine Cd.ra (h := ?_)
                    apply Run.by_eq
                    · intro self
                      conv => lhs; simp -implicitDefEqProofs (maxSteps := 300000) (disch := omega) [-getElem?_pos, -getElem?_neg, hlo, h3, h9, n0, n1, i0, i1, hg1, e0, e1]
                    try (with_reducible refine Run.ret ?_)
                    apply zz
                    apply Cd.ite rfl
                    · conv => lhs; simp -implicitDefEqProofs (maxSteps := 300000) (disch := omega) [-getElem?_pos, -getElem?_neg]
                    all_goals intro c2
                    all_goals try (cases c2; done)
                    all_goals try simp only [Bool.not_eq_true', Bool.not_eq_false', decide_eq_true_eq, decide_eq_false_iff_not] at c2
                    all_goals apply zz
                    apply zz
                    refine Cd.ra (h := ?_)
                    apply Run.by_eq
                    · intro self
                      conv => lhs; simp -implicitDefEqProofs (maxSteps := 300000) (disch := omega) [-getElem?_pos, -getElem?_neg, h30]
                    try (with_reducible refine Run.ret ?_)
                    apply zz
                    refine LoopK.nm (fs.length - (k + 1)) (by omega) ⟨k + 1, by omega, rfl, by simp, by simp [h29], by simp [h28], by simp [hm], by simp [h10], by simp [h2], by simp [h3], by simp [h4], by simp [h9], ⟨by (try simp only [pushed_next', upded_next']); omega, fun i hi => by simp -implicitDefEqProofs (disch := omega) [hkpb]⟩, by (try simp only [pushed_next', upded_next']); omega, ?_, ?_⟩
                    · simp -implicitDefEqProofs (disch := omega) [hg0]
                    · rw [hMd, hM2]; simp -implicitDefEqProofs (disch := omega) [hg1]
          · omega
        · obtain rfl : k = fs.length := by omega
          apply zz
          refine Cd.ra (h := ?_)
          apply Run.by_eq
          · intro self
            conv => lhs; simp -implicitDefEqProofs (maxSteps := 300000) (disch := omega) [-getElem?_pos, -getElem?_neg, h30, h29]
          try (with_reducible refine Run.ret ?_)
          apply zz
          apply Cd.ite rfl
          · conv => lhs; simp -implicitDefEqProofs (maxSteps := 300000) (disch := omega) [-getElem?_pos, -getElem?_neg]
          all_goals intro c1
          all_goals try (cases c1; done)
          all_goals try simp only [Bool.not_eq_true', Bool.not_eq_false', decide_eq_true_eq, decide_eq_false_iff_not] at c1
          all_goals apply zz
          exact ⟨rfl, by simp [hm], by simp [h10], by simp [h2], by simp [h3], by simp [h4], by simp [h9], hkp, hnx, hg0, hg1⟩
      rintro x f2 s2 ⟨rfl, hm, h10, h2, h3, h4, h9, hkp, hnx, hg0, hg1⟩
      apply zz
      refine Cd.ra (h := ?_)
      apply Run.by_eq
      · intro self
        conv => lhs; simp -implicitDefEqProofs (maxSteps := 300000) (disch := omega) [-getElem?_pos, -getElem?_neg, h10]
      try (with_reducible refine Run.ret ?_)
      apply zz
      exact LoopK.nm (n + 1 - (r + 1)) (by omega) ⟨r + 1, by omega, rfl, by simp [hm], by simp, by simp [h2], by simp [h3], by simp [h4], by simp [h9], hkp, hnx, hg0, hg1⟩
  · obtain rfl : r = n + 1 := by omega
    have hrn : ¬ ((n : Int) + 1) ≤ n := by omega
    have e1 := cellsB_get (metJ lo fs a (n + 1)) hb1
    have hkpa := hkp.1
    have hkpb := hkp.2
    apply zz
    refine Cd.ra (h := ?_)
    apply Run.by_eq
    · intro self
      conv => lhs; simp -implicitDefEqProofs (maxSteps := 300000) (disch := omega) [-getElem?_pos, -getElem?_neg, h10, h4, hg0, hrn]
    try (with_reducible refine Run.ret ?_)
    apply zz
    apply Cd.ite rfl
    · conv => lhs; simp -implicitDefEqProofs (maxSteps := 300000) (disch := omega) [-getElem?_pos, -getElem?_neg]
    all_goals intro c0
    all_goals try (cases c0; done)
    all_goals try simp only [Bool.not_eq_true', Bool.not_eq_false', decide_eq_true_eq, decide_eq_false_iff_not] at c0
    all_goals apply zz
    apply zz
    refine Cd.ra (h := ?_)
    apply Run.by_eq
    · intro self
      conv => lhs; simp -implicitDefEqProofs (maxSteps := 300000) (disch := omega) [-getElem?_pos, -getElem?_neg, h9, h2, nb, hb1, hg1, e1]
    try (with_reducible refine Run.ret ?_)
    apply zz
    apply Leave.mk (by first | exact .inl rfl | exact .inr rfl) (by simp only [Fr.marks_put, fr0_marks, hm])
    · conv => lhs; simp -implicitDefEqProofs (disch := omega) [Try.results35, hm]
    exact ⟨rfl, hkp⟩
end Go.Proofs.Ytjehpgflhgpalaa
namespace Go.Proofs.Ytjehpgflhgpalaa
open Go Kern
/-- Any masses that a program can hold. -/
def Mass.w64 (m : Mass) : Prop := (-9223372036854775808 ≤ m.a ∧ m.a ≤ 9223372036854775807) ∧ (-9223372036854775808 ≤ m.b ∧ m.b ≤ 9223372036854775807) ∧ (-9223372036854775808 ≤ m.c ∧ m.c ≤ 9223372036854775807) ∧ (-9223372036854775808 ≤ m.d ∧ m.d ≤ 9223372036854775807)
theorem flows_flat (fs : List FlowD) : (fs.map FlowD.cs).flatten = flatG (fun j => (fs.getD j fd0).cs) fs.length := by
  unfold flatG
  rw [← map_getD FlowD.cs fd0 fs]
theorem set_flat {fs : List FlowD} {k : Nat} {f g : FlowD} {off : Nat} {vs : List Value} (hk : fs[k]? = some f) (h : putL off vs f.cs = some g.cs) : putL (k * 7 + off) vs (flatF fs) = some (flatF (fs.set k g)) := by
  have hlt := (List.getElem?_eq_some_iff.1 hk).1
  unfold flatF
  rw [flows_flat, flatG_putAt (N := 7) (fun j => rfl) (x := g.cs) (by rw [getD_at hk]; exact h) hlt, flows_flat, List.length_set]
  congr 1
  refine flatG_congr fun j hj => ?_
  by_cases e : j = k
  · subst e; rw [if_pos rfl, getD_at (set_at hk)]
  · rw [if_neg e]; simp [List.getD, set_ne e]
theorem flow_get {fs : List FlowD} {k : Nat} {f : FlowD} (hk : fs[k]? = some f) : takeL 7 ((flatF fs).drop (k * 7)) = some f.cs := by
  have hlt := (List.getElem?_eq_some_iff.1 hk).1
  unfold flatF
  rw [flows_flat, flatG_get (g := fun j => (fs.getD j fd0).cs) (N := 7) (fun j => rfl) hlt, getD_at hk]
theorem fl_of_flat {fs : List FlowD} {s : St} {b len c : Nat} {o : Option Nat} (h2 : b < s.next) (hl : fs.length = len) (h3 : s.heap.get b = some (.cells (flatF fs) o)) : FlAt s (.slice (some ⟨b, 0, none⟩) len c) fs := by
  have := sl_of_cells (n := 7) (c := c) h2 (flows_len fs) h3
  rw [List.length_map, hl] at this
  exact this
/-- What Fill says. -/
def fillErr (u : Int) (fs : List FlowD) (fl : Int) (m : Mass) : Int := if closeErr u fs ≠ 0 then closeErr u fs else if fl < 0 ∨ (fs.length : Int) ≤ fl then 5 else
  if ((closeF fs u.toNat fl.toNat).st ≠ 3 ∧ (closeF fs u.toNat fl.toNat).m ≠ m) ∨ eachB m (-1000000000) 1000000000 = false then 22 else 0
end Go.Proofs.Ytjehpgflhgpalaa
namespace Go.Proofs.Ytjehpgflhgpalaa
open Go Kern
abbrev KnAt (s : St) (v : Value) (ks : List KnownD) : Prop := SlAt 5 s v (ks.map KnownD.cs)
theorem KnAt.at {s : St} {a : Option Addr} {m c : Nat} {ks : List KnownD} (h : KnAt s (.slice a m c) ks) {k : Nat} {x : KnownD} (hk : ks[k]? = some x) :
    ∃ b off o cs g, a = some ⟨b, off, none⟩ ∧ b < s.next ∧ s.heap.get b = some o ∧ cellsOf o = some (cs, g) ∧ takeL 5 (cs.drop (off + k * 5)) = some x.cs :=
  SlAt.at h (by rw [List.getElem?_map, hk]; rfl)
end Go.Proofs.Ytjehpgflhgpalaa
namespace Go.Proofs.Ytjehpgflhgpalaa
open Go Kern
end Go.Proofs.Ytjehpgflhgpalaa
namespace Go.Proofs.Ytjehpgflhgpalaa
open Go Kern
theorem mill_small {n : Nat} {K : Int} {ms : List Int} {es : List (Int × Int)} (hn1 : 1 ≤ n) (hbm : ∀ x ∈ ms, 0 ≤ x ∧ x < 256) : ∀ f ∈ millFs n K ms es, f.me = true → f.m.le 1536 := fun f hf hm => by
  obtain ⟨j, hj⟩ := List.getElem?_of_mem hf
  rw [← (mill_bal (K := K) (ms := ms) (es := es) hn1).meas j f hj hm]
  exact realF_le hbm j
theorem OwnU.keepK {N : Nat} {s s' : St} {w : Value} {cs : List Int} (h : OwnU N s w cs) (k : Keep s s') : OwnU N s' w cs := by
  rcases h with ⟨h, h'⟩ | ⟨b, h, h', hb1, hb2, hb3⟩
  · exact .inl ⟨h, h'⟩
  · exact .inr ⟨b, h, h', hb1, by have := k.1; omega, (k.2 b hb2).trans hb3⟩
theorem mass_at_le {m : Mass} {B : Int} {q : Nat} (h : m.le B) : -B ≤ m.at q ∧ m.at q ≤ B := by
  unfold Mass.le at h
  unfold Mass.at
  split <;> omega
set_option maxRecDepth 100000 in
set_option maxHeartbeats 4000000 in
theorem lawX_ev (U K wr by_ : Int) (ve vm : Value) (es : List (Int × Int)) (ms : List Int) (s : St) (hU : 0 ≤ U ∧ U < 256) (hwr : 0 ≤ wr ∧ wr < 256) (hby : 0 ≤ by_ ∧ by_ < 256) (hes : EndsAt s ve es) (hms : BytesAt s vm ms) (hbe : ∀ e ∈ es, (0 ≤ e.1 ∧ e.1 < 256) ∧ (0 ≤ e.2 ∧ e.2 < 256)) (hbm : ∀ x ∈ ms, 0 ≤ x ∧ x < 256) :
    Ev TT 8 [millV U ve vm K, .int .u8 wr, .int .u8 by_] s fun r _ => r = .bool true := by
  obtain ⟨ae, ce, rfl⟩ := hes.shape
  obtain ⟨am, cm, rfl⟩ := hms.shape
  rw [List.length_map] at hes hms ⊢
  rw [List.length_map]
  unfold millV
  refine Ev.intro (fn := Try.f8) rfl (by kernel_rfl) rfl rfl ?_
  apply zz
  refine Cd.ra (h := ?_)
  apply Run.by_eq
  · intro self
    conv => lhs; simp -implicitDefEqProofs (maxSteps := 300000) (disch := omega) [-getElem?_pos, -getElem?_neg]
  try (with_reducible refine Run.ret ?_)
  apply zz
  refine Cd.ra (h := ?_)
  apply Run.by_eq
  · intro self
    conv => lhs; simp -implicitDefEqProofs (maxSteps := 300000) (disch := omega) [-getElem?_pos, -getElem?_neg]
  try (with_reducible refine Run.ret ?_)
  apply zz
  refine Run.call ((made_ev U K _ _ es ms _ hU (hes.keep ⟨by (try simp only [pushed_next', upded_next']); omega, fun i hi => by simp -implicitDefEqProofs (disch := omega) []⟩) (hms.keep ⟨by (try simp only [pushed_next', upded_next']); omega, fun i hi => by simp -implicitDefEqProofs (disch := omega) []⟩) hbe hbm).mono fun r w1 hv => ?_)
  obtain ⟨k1, n, wf, wz, hn, hn1, hn4, rfl, hOF, -⟩ := hv
  have k1a := k1.1
  have k1b := k1.2
  try simp only [pushed_next', upded_next'] at k1a k1b
  have hck0 := mill_check (K := K) (es := es) hn1 hn4 hbm
  have hsm := mill_small (K := K) (es := es) hn1 hbm
  have hlen0 := millFs_length n K ms es
  generalize millFs n K ms es = fs at hOF hck0 hsm hlen0
  generalize millN es = M at hlen0
  rcases hOF with ⟨e, _⟩ | ⟨bw, rfl, _, hb1, hb2, hb3⟩
  · rw [List.map_eq_nil_iff] at e; rw [e] at hlen0; simp at hlen0; omega
  rw [List.length_map, hlen0]
  try simp only [pushed_next', upded_next'] at hb1
  change w1.heap.get bw = some (.cells (flatF fs) (some 7)) at hb3
  obtain ⟨i, hi⟩ : ∃ i : Nat, wr % (((M + n : Nat) : Int)) = i := ⟨(wr % (((M + n : Nat) : Int))).toNat, by
    have := Int.emod_nonneg wr (show ((M + n : Nat) : Int) ≠ 0 by omega)
    omega⟩
  have hil : i < M + n := by
    have := Int.emod_lt_of_pos wr (show 0 < ((M + n : Nat) : Int) by omega)
    omega
  have hri := intOp_rem .i64 wr ((M + n : Nat) : Int) (by omega) (by omega)
  rw [hi] at hri
  push_cast at hri
  obtain ⟨g, hg⟩ : ∃ g, fs[i]? = some g := ⟨fs[i], by simp [hlen0, hil]⟩
  have hq := takeL_at (flow_get hg) (i := 2) (by omega)
  rw [List.getElem?_drop] at hq
  change (flatF fs)[i * 7 + 2]? = some (.bool g.me) at hq
  apply Run.by_eq
  · intro self
    conv => lhs; simp -implicitDefEqProofs (maxSteps := 300000) (disch := omega) [-getElem?_pos, -getElem?_neg, plantV]
  try (with_reducible refine Run.ret ?_)
  apply zz
  refine Cd.ra (h := ?_)
  apply Run.by_eq
  · intro self
    conv => lhs; simp -implicitDefEqProofs (maxSteps := 300000) (disch := omega) [-getElem?_pos, -getElem?_neg, hri]
  try (with_reducible refine Run.ret ?_)
  apply zz
  refine Cd.ra (h := ?_)
  apply Run.by_eq
  · intro self
    conv => lhs; simp -implicitDefEqProofs (maxSteps := 300000) (disch := omega) [-getElem?_pos, -getElem?_neg, hil, hb3, hq]
  try (with_reducible refine Run.ret ?_)
  apply zz
  refine Cd.mono (Q := fun x f2 s2 => x = Ex.normal ∧ ∃ gs : List FlowD, gs.length = M + n ∧ checkErr n gs = 0 ∧ f2.marks = [] ∧ f2.get 7 = .pointer (some ⟨w1.next, 0, none⟩) ∧ w1.next < s2.next ∧ s2.heap.get w1.next = some (.cells [.int .i64 n, .slice (some ⟨bw, 0, none⟩) (M + n) (M + n)] none) ∧ s2.heap.get bw = some (.cells (flatF gs) (some 7))) ?_ ?_
  · cases hgm : g.me with
    | true =>
      have hr4 := intOp_rem .i64 by_ 4 (by omega) (by omega)
      have hd4 := intOp_quo .i64 by_ 4 (by omega) (by omega)
      obtain ⟨q, hqq⟩ : ∃ q : Nat, by_ % 4 = q := ⟨(by_ % 4).toNat, by omega⟩
      have hq4 : q < 4 := by omega
      have hq4' : (q : Int) < 4 := by omega
      rw [hqq] at hr4
      have hdl : 0 ≤ by_ / 4 ∧ by_ / 4 < 64 := by omega
      have hal := mass_at_le (q := q) (hsm g (List.mem_of_getElem? hg) hgm)
      have hge := (flowErr_ok ((checkErr_ok hck0).2.2.2 g (List.mem_of_getElem? hg))).2.2.2 hgm
      have hge0 : 0 ≤ g.m.at q := by
        simp only [eachB, isB, Bool.and_eq_true, decide_eq_true_eq] at hge
        unfold Mass.at
        split <;> omega
      obtain ⟨_, _, _, p3⟩ := flow_parts (flow_get hg)
      have hat : (flatF fs)[i * 7 + 3 + q]? = some (.int .i64 (g.m.at q)) := by
        have := takeL_at p3 (i := q) hq4
        rw [List.getElem?_drop, Mass.cs_at g.m hq4] at this
        exact this
      have hput := set_flat (g := ⟨g.fr, g.to, g.me, g.m.put q (g.m.at q + (1 + by_ / 4))⟩) (off := 3 + q) (vs := [.int .i64 (g.m.at q + (1 + by_ / 4))]) hg (Mass.put_cs hq4 (g.m.at q + (1 + by_ / 4)))
      have hck2 := checkErr_set (q := q) (x := g.m.at q + (1 + by_ / 4)) hck0 hg (by omega)
      have hset : (fs.set i ⟨g.fr, g.to, g.me, g.m.put q (g.m.at q + (1 + by_ / 4))⟩).length = M + n := by rw [List.length_set]; exact hlen0
      generalize fs.set i ⟨g.fr, g.to, g.me, g.m.put q (g.m.at q + (1 + by_ / 4))⟩ = gs2 at hput hck2 hset
      rw [← Nat.add_assoc] at hput
      generalize g.m.at q = X at hat hput hal hge0
      generalize by_ / 4 = D at hd4 hdl hput
      apply zz
      apply Cd.ite rfl
      · conv => lhs; simp -implicitDefEqProofs (maxSteps := 300000) (disch := omega) [-getElem?_pos, -getElem?_neg]
      all_goals intro c0
      all_goals try (cases c0; done)
      all_goals try simp only [Bool.not_eq_true', Bool.not_eq_false', decide_eq_true_eq, decide_eq_false_iff_not] at c0
      all_goals apply zz
      apply zz
      refine Cd.drawnH (pl := [(0, 0, false, false), (1, 1, false, false), (2, 0, false, false), (3, 0, false, false), (4, 8, false, false), (5, 24, false, false), (6, 7, false, false), (7, 71, false, false), (8, 255, false, false), (9, 511, false, false), (10, 0, false, false), (11, 1024, false, false), (12, 3072, false, false), (13, 7168, false, false), (14, 16383, false, false), (15, 7, false, false), (16, 32775, false, false), (17, 131071, false, false), (18, 262143, true, false)]) [false, false, false, false, false, false, false, false, false, false, false, false, false, false, false, false, false, false, false] (by kernel_rfl) (by decide) (by decide) (by conv => lhs; simp only [List.map_cons, List.map_nil]) (by conv => lhs; simp [strip, orderedG, flagH]) ?_
      apply Run.by_eq
      · intro self
        conv => lhs; simp -implicitDefEqProofs (maxSteps := 300000) (disch := omega) [-getElem?_pos, -getElem?_neg, hil, hb3, hr4, hd4, hq4, hq4', hat, hput]
      try (with_reducible refine Run.ret ?_)
      apply zz
      refine ⟨rfl, gs2, hset, hck2, by simp, by simp, by (try simp only [pushed_next', upded_next']); omega, ?_, ?_⟩
      · simp -implicitDefEqProofs (disch := omega)
      · simp -implicitDefEqProofs (disch := omega)
    | false =>
      apply zz
      apply Cd.ite rfl
      · conv => lhs; simp -implicitDefEqProofs (maxSteps := 300000) (disch := omega) [-getElem?_pos, -getElem?_neg]
      all_goals intro c0
      all_goals try (cases c0; done)
      all_goals try simp only [Bool.not_eq_true', Bool.not_eq_false', decide_eq_true_eq, decide_eq_false_iff_not] at c0
      all_goals apply zz
      exact ⟨rfl, fs, hlen0, hck0, by simp, by simp, by simp, by simp -implicitDefEqProofs (disch := omega), by simp -implicitDefEqProofs (disch := omega) [hb3]⟩
  clear hck0 hsm hlen0 hb3 hq hg hri
  rintro x f2 s2 ⟨rfl, gs, hlen, hck, hm, h7, hnx, hg9, hgb⟩
  have hFl : ∀ s3 : St, Keep s2 s3 → FlAt s3 (.slice (some ⟨bw, 0, none⟩) (M + n) (M + n)) gs := fun s3 e => fl_of_flat (o := some 7) (by have := e.1; omega) hlen ((e.2 _ (by omega)).trans hgb)
  have hP : ∀ s3 : St, Keep s2 s3 → s3.heap.get w1.next = some (.cells [.int .i64 n, .slice (some ⟨bw, 0, none⟩) (M + n) (M + n)] none) := fun s3 e => (e.2 _ hnx).trans hg9
  have hlg : gs.length ≤ 1000 := by have := (checkErr_ok hck).2.2.1; omega
  clear hg9 hgb
  apply zz
  refine Cd.ra (h := ?_)
  apply Run.by_eq
  · intro self
    conv => lhs; simp -implicitDefEqProofs (maxSteps := 300000) (disch := omega) [-getElem?_pos, -getElem?_neg, h7, hP s2 (Keep.refl _)]
  try (with_reducible refine Run.ret ?_)
  apply zz
  refine Run.call ((partsP_ev n _ gs _ (hFl s2 (Keep.refl _)) (by omega)).mono fun r s3 hv => ?_)
  obtain ⟨k3, wpt, rfl, hPt⟩ := hv
  have k3a := k3.1
  have k3b := k3.2
  have hPL : partsErrL n gs = partL (rtF (-1) gs 0 id) n n := by unfold partsErrL; rw [if_pos hck]; rfl
  rw [hPL] at hPt
  have hPn : (partL (rtF (-1) gs 0 id) n n).length = n := by unfold partL; simp
  obtain ⟨ap, cp, rfl⟩ := hPt.shape
  rw [List.length_map, hPn] at hPt ⊢
  rw [hck]
  apply Run.by_eq
  · intro self
    conv => lhs; simp -implicitDefEqProofs (maxSteps := 300000) (disch := omega) [-getElem?_pos, -getElem?_neg]
  try (with_reducible refine Run.ret ?_)
  apply zz
  refine Cd.ra (h := ?_)
  apply Run.by_eq
  · intro self
    conv => lhs; simp -implicitDefEqProofs (maxSteps := 300000) (disch := omega) [-getElem?_pos, -getElem?_neg, h7, hP s3 k3]
  try (with_reducible refine Run.ret ?_)
  apply zz
  apply Cd.ite rfl
  · conv => lhs; simp -implicitDefEqProofs (maxSteps := 300000) (disch := omega) [-getElem?_pos, -getElem?_neg]
  all_goals intro c1
  all_goals try (cases c1; done)
  all_goals try simp only [Bool.not_eq_true', Bool.not_eq_false', decide_eq_true_eq, decide_eq_false_iff_not] at c1
  all_goals apply zz
  apply zz
  refine Cd.ra (h := ?_)
  apply Run.by_eq
  · intro self
    conv => lhs; simp -implicitDefEqProofs (maxSteps := 300000) (disch := omega) [-getElem?_pos, -getElem?_neg]
  try (with_reducible refine Run.ret ?_)
  apply zz
  refine Cd.ra (h := ?_)
  apply Run.by_eq
  · intro self
    conv => lhs; simp -implicitDefEqProofs (maxSteps := 300000) (disch := omega) [-getElem?_pos, -getElem?_neg]
  try (with_reducible refine Run.ret ?_)
  apply zz
  refine Cd.ra (h := ?_)
  apply Run.by_eq
  · intro self
    conv => lhs; simp -implicitDefEqProofs (maxSteps := 300000) (disch := omega) [-getElem?_pos, -getElem?_neg]
  try (with_reducible refine Run.ret ?_)
  apply zz
  have hJ := fun (u v : Nat) (hu : u < n) (hv : v < n) (s4 : St) (hk : Keep s2 s4) => joinedL_ev n u v (-1) _ gs s4 (hFl s4 hk) hlg (by omega) (ends_in hck) (by omega) (by omega)
  have hJo := fun (u : Nat) (hu : u < n) (s4 : St) (hk : Keep s2 s4) => joinedL_ev n u (-1) (-1) _ gs s4 (hFl s4 hk) hlg (by omega) (ends_in hck) (by omega) (by omega)
  have hlk := fun (u : Nat) h => cls_leak (u := u) hck h
  refine Cd.mono (Q := fun x f4 s4 => x = Ex.exit 0 ∧ ∃ cl : Bool, SeenC gs n n cl ∧ f4.marks = [] ∧ f4.get 7 = .pointer (some ⟨w1.next, 0, none⟩) ∧ f4.get 12 = .bool cl ∧ Keep s2 s4) (Cd.inv (fun z f4 s4 => ∃ (u : Nat) (cl : Bool), u ≤ n ∧ z = n - u ∧ SeenC gs n u cl ∧ f4.marks = [] ∧ f4.get 7 = .pointer (some ⟨w1.next, 0, none⟩) ∧ f4.get 10 = .slice ap n cp ∧ f4.get 12 = .bool cl ∧ f4.get 13 = .int .i64 (leads (rtF (-1) gs 0 id) n u).length ∧ f4.get 14 = .int .i64 u ∧ Keep s3 s4) n ?_ ?_) ?_
  · exact ⟨0, false, by omega, rfl, .start, by simp [hm], by simp [h7], by simp, by simp, by simp [leads], by simp, Keep.refl _⟩
  · rintro z f4 s4 ⟨u, cl, hu, rfl, hS, hm4, h7, h10, h12, h13, h14, k4⟩
    have k4a := k4.1
    have k4b := k4.2
    have kk := k3.trans k4
    by_cases hlt : u < n
    · generalize hrt : rtF (-1) gs 0 id = rt at *
      have hll : (leads rt n u).length ≤ u := by unfold leads; exact Nat.le_trans (List.length_filter_le _ _) (by simp)
      apply zz
      refine Cd.ra (h := ?_)
      apply Run.by_eq
      · intro self
        conv => lhs; simp -implicitDefEqProofs (maxSteps := 300000) (disch := omega) [-getElem?_pos, -getElem?_neg, h14, h7, hP s4 kk]
      try (with_reducible refine Run.ret ?_)
      apply zz
      apply Cd.ite rfl
      · conv => lhs; simp -implicitDefEqProofs (maxSteps := 300000) (disch := omega) [-getElem?_pos, -getElem?_neg]
      all_goals intro c2
      all_goals try (cases c2; done)
      all_goals try simp only [Bool.not_eq_true', Bool.not_eq_false', decide_eq_true_eq, decide_eq_false_iff_not] at c2
      all_goals apply zz
      · apply zz
        refine Cd.ra (h := ?_)
        apply Run.by_eq
        · intro self
          conv => lhs; simp -implicitDefEqProofs (maxSteps := 300000) (disch := omega) [-getElem?_pos, -getElem?_neg, h14]
        try (with_reducible refine Run.ret ?_)
        apply zz
        refine Cd.ra (h := ?_)
        apply Run.by_eq
        · intro self
          conv => lhs; simp -implicitDefEqProofs (maxSteps := 300000) (disch := omega) [-getElem?_pos, -getElem?_neg, h14]
        try (with_reducible refine Run.ret ?_)
        apply zz
        refine Cd.mono (Q := fun x f5 s5 => x = Ex.exit 2 ∧ ∃ w : Nat, w ≤ u ∧ rt w = rt u ∧ (∀ x : Nat, x < w → rt x ≠ rt u) ∧ f5.marks = [] ∧ f5.get 7 = .pointer (some ⟨w1.next, 0, none⟩) ∧ f5.get 10 = .slice ap n cp ∧ f5.get 12 = .bool cl ∧ f5.get 13 = .int .i64 (leads rt n u).length ∧ f5.get 14 = .int .i64 u ∧ f5.get 15 = .int .i64 w ∧ Keep s3 s5) (Cd.inv (fun z f5 s5 => ∃ (v : Int) (w : Nat), -1 ≤ v ∧ v ≤ w ∧ z = (v + 1).toNat ∧ w ≤ u ∧ rt w = rt u ∧ (∀ x : Nat, v < x → x < w → rt x ≠ rt u) ∧ f5.marks = [] ∧ f5.get 7 = .pointer (some ⟨w1.next, 0, none⟩) ∧ f5.get 10 = .slice ap n cp ∧ f5.get 12 = .bool cl ∧ f5.get 13 = .int .i64 (leads rt n u).length ∧ f5.get 14 = .int .i64 u ∧ f5.get 15 = .int .i64 w ∧ f5.get 16 = .int .i64 v ∧ Keep s3 s5) (u + 1) ?_ ?_) ?_
        · exact ⟨u, u, by omega, by omega, by omega, by omega, rfl, fun x h1 h2 => by omega, by simp [hm4], by simp [h7], by simp [h10], by simp [h12], by simp [h13], by simp [h14], by simp, by simp, k4⟩
        · rintro z f5 s5 ⟨v, w, hv1, hv2, rfl, hwu, hrw, hno, hm5, g7, g10, g12, g13, g14, g15, g16, k5⟩
          have kk5 := k3.trans k5
          have k5a := k5.1
          have k5b := k5.2
          by_cases hv0 : 0 ≤ v
          · obtain ⟨v, rfl⟩ : ∃ y : Nat, v = y := ⟨v.toNat, by omega⟩
            apply zz
            refine Cd.ra (h := ?_)
            apply Run.by_eq
            · intro self
              conv => lhs; simp -implicitDefEqProofs (maxSteps := 300000) (disch := omega) [-getElem?_pos, -getElem?_neg, g16]
            try (with_reducible refine Run.ret ?_)
            apply zz
            apply Cd.ite rfl
            · conv => lhs; simp -implicitDefEqProofs (maxSteps := 300000) (disch := omega) [-getElem?_pos, -getElem?_neg]
            all_goals intro c3
            all_goals try (cases c3; done)
            all_goals try simp only [Bool.not_eq_true', Bool.not_eq_false', decide_eq_true_eq, decide_eq_false_iff_not] at c3
            all_goals apply zz
            · apply zz
              refine Cd.ra (h := ?_)
              apply Run.by_eq
              · intro self
                conv => lhs; simp -implicitDefEqProofs (maxSteps := 300000) (disch := omega) [-getElem?_pos, -getElem?_neg, g7, hP s5 kk5, g14, g16]
              try (with_reducible refine Run.ret ?_)
              apply zz
              refine Run.call ((hJ u v hlt (by omega) s5 kk5).mono fun v wy hv => ?_)
              obtain ⟨rfl, y⟩ := hv
              have ya := y.1
              have yb := y.2
              try simp only [pushed_next', upded_next'] at ya yb
              by_cases hd : rt u = rt v
              · rw [decide_eq_true hd]
                apply Run.by_eq
                · intro self
                  conv => lhs; simp -implicitDefEqProofs (maxSteps := 300000) (disch := omega) [-getElem?_pos, -getElem?_neg]
                try (with_reducible refine Run.ret ?_)
                apply zz
                apply Cd.ite rfl
                · conv => lhs; simp -implicitDefEqProofs (maxSteps := 300000) (disch := omega) [-getElem?_pos, -getElem?_neg]
                all_goals intro c4
                all_goals try (cases c4; done)
                all_goals try simp only [Bool.not_eq_true', Bool.not_eq_false', decide_eq_true_eq, decide_eq_false_iff_not] at c4
                all_goals apply zz
                apply zz
                refine Cd.ra (h := ?_)
                apply Run.by_eq
                · intro self
                  conv => lhs; simp -implicitDefEqProofs (maxSteps := 300000) (disch := omega) [-getElem?_pos, -getElem?_neg, g16]
                try (with_reducible refine Run.ret ?_)
                apply zz
                refine Cd.ra (h := ?_)
                apply Run.by_eq
                · intro self
                  conv => lhs; simp -implicitDefEqProofs (maxSteps := 300000) (disch := omega) [-getElem?_pos, -getElem?_neg, g16]
                try (with_reducible refine Run.ret ?_)
                apply zz
                exact LoopK.nm ((v : Int) - 1 + 1).toNat (by omega) ⟨(v : Int) - 1, v, by omega, by omega, rfl, by omega, hd.symm, fun x h1 h2 => by omega, by simp [hm5], by simp [g7], by simp [g10], by simp [g12], by simp [g13], by simp [g14], by simp, by simp, k5.trans y⟩
              · rw [decide_eq_false hd]
                apply Run.by_eq
                · intro self
                  conv => lhs; simp -implicitDefEqProofs (maxSteps := 300000) (disch := omega) [-getElem?_pos, -getElem?_neg]
                try (with_reducible refine Run.ret ?_)
                apply zz
                apply Cd.ite rfl
                · conv => lhs; simp -implicitDefEqProofs (maxSteps := 300000) (disch := omega) [-getElem?_pos, -getElem?_neg]
                all_goals intro c4
                all_goals try (cases c4; done)
                all_goals try simp only [Bool.not_eq_true', Bool.not_eq_false', decide_eq_true_eq, decide_eq_false_iff_not] at c4
                all_goals apply zz
                apply zz
                refine Cd.ra (h := ?_)
                apply Run.by_eq
                · intro self
                  conv => lhs; simp -implicitDefEqProofs (maxSteps := 300000) (disch := omega) [-getElem?_pos, -getElem?_neg, g16]
                try (with_reducible refine Run.ret ?_)
                apply zz
                exact LoopK.nm ((v : Int) - 1 + 1).toNat (by omega) ⟨(v : Int) - 1, w, by omega, by omega, rfl, hwu, hrw, fun x h1 h2 e => by
                  by_cases ex : x = v
                  · subst ex; exact hd e.symm
                  · exact hno x (by omega) h2 e, by simp [hm5], by simp [g7], by simp [g10], by simp [g12], by simp [g13], by simp [g14], by simp [g15], by simp, k5.trans y⟩
          · apply zz
            refine Cd.ra (h := ?_)
            apply Run.by_eq
            · intro self
              conv => lhs; simp -implicitDefEqProofs (maxSteps := 300000) (disch := omega) [-getElem?_pos, -getElem?_neg, g16]
            try (with_reducible refine Run.ret ?_)
            apply zz
            apply Cd.ite rfl
            · conv => lhs; simp -implicitDefEqProofs (maxSteps := 300000) (disch := omega) [-getElem?_pos, -getElem?_neg]
            all_goals intro c3
            all_goals try (cases c3; done)
            all_goals try simp only [Bool.not_eq_true', Bool.not_eq_false', decide_eq_true_eq, decide_eq_false_iff_not] at c3
            all_goals apply zz
            · omega
            · exact ⟨rfl, w, hwu, hrw, fun x h => hno x (by omega) h, by simp [hm5], by simp [g7], by simp [g10], by simp [g12], by simp [g13], by simp [g14], by simp [g15], k5⟩
        rintro x f5 s5 ⟨rfl, w, hwu, hrw, hno, hm5, g7, g10, g12, g13, g14, g15, k5⟩
        have kk5 := k3.trans k5
        have k5a := k5.1
        have k5b := k5.2
        apply zz
        refine Cd.ra (h := ?_)
        apply Run.by_eq
        · intro self
          conv => lhs; simp -implicitDefEqProofs (maxSteps := 300000) (disch := omega) [-getElem?_pos, -getElem?_neg, g7, hP s5 kk5, g14]
        try (with_reducible refine Run.ret ?_)
        apply zz
        refine Run.call ((hJo u hlt s5 kk5).mono fun v wy hv => ?_)
        obtain ⟨rfl, y⟩ := hv
        have ya := y.1
        have yb := y.2
        try simp only [pushed_next', upded_next'] at ya yb
        have k6 := k5.trans y
        have kk6 := k3.trans k6
        obtain ⟨b1, o1, ob1, cs1, gg1, rfl, hq1, hob1, hc1, ht1⟩ := IntsAt.at (hPt.keep k6) (partL_get (k := n) hlt)
        by_cases hd : rt u = rt (-1)
        · rw [decide_eq_true hd]
          rw [part_out hd] at ht1
          apply Run.by_eq
          · intro self
            conv => lhs; simp -implicitDefEqProofs (maxSteps := 300000) (disch := omega) [-getElem?_pos, -getElem?_neg]
          try (with_reducible refine Run.ret ?_)
          apply zz
          apply Cd.ite rfl
          · conv => lhs; simp -implicitDefEqProofs (maxSteps := 300000) (disch := omega) [-getElem?_pos, -getElem?_neg]
          all_goals intro c5
          all_goals try (cases c5; done)
          all_goals try simp only [Bool.not_eq_true', Bool.not_eq_false', decide_eq_true_eq, decide_eq_false_iff_not] at c5
          all_goals apply zz
          apply zz
          refine Cd.ra (h := ?_)
          apply Run.by_eq
          · intro self
            conv => lhs; simp -implicitDefEqProofs (maxSteps := 300000) (disch := omega) [-getElem?_pos, -getElem?_neg, g14, g10, hlt, hob1, hc1, ht1]
          try (with_reducible refine Run.ret ?_)
          apply zz
          apply Cd.ite rfl
          · conv => lhs; simp -implicitDefEqProofs (maxSteps := 300000) (disch := omega) [-getElem?_pos, -getElem?_neg]
          all_goals intro c6
          all_goals try (cases c6; done)
          all_goals try simp only [Bool.not_eq_true', Bool.not_eq_false', decide_eq_true_eq, decide_eq_false_iff_not] at c6
          all_goals apply zz
          apply zz
          refine Cd.ra (h := ?_)
          apply Run.by_eq
          · intro self
            conv => lhs; simp -implicitDefEqProofs (maxSteps := 300000) (disch := omega) [-getElem?_pos, -getElem?_neg, g14]
          try (with_reducible refine Run.ret ?_)
          apply zz
          have hL := lead_not_out (n := n) (u := u) hd
          exact LoopK.nm (n - (u + 1)) (by omega) ⟨u + 1, cl, by omega, rfl, hS.skip (by rw [hrt]; exact hL), by simp [hm5], by simp [g7], by simp [g10], by simp [g12], by simp [g13, leads_succ, hL], by simp, k6⟩
        · rw [decide_eq_false hd]
          apply Run.by_eq
          · intro self
            conv => lhs; simp -implicitDefEqProofs (maxSteps := 300000) (disch := omega) [-getElem?_pos, -getElem?_neg]
          try (with_reducible refine Run.ret ?_)
          apply zz
          apply Cd.ite rfl
          · conv => lhs; simp -implicitDefEqProofs (maxSteps := 300000) (disch := omega) [-getElem?_pos, -getElem?_neg]
          all_goals intro c5
          all_goals try (cases c5; done)
          all_goals try simp only [Bool.not_eq_true', Bool.not_eq_false', decide_eq_true_eq, decide_eq_false_iff_not] at c5
          all_goals apply zz
          by_cases hw0 : w < u
          · have hw0' : (w : Int) < u := by omega
            have hwn : w < n := by omega
            obtain ⟨b2, o2, ob2, cs2, gg2, e2, hq2, hob2, hc2, ht2⟩ := IntsAt.at (hPt.keep k6) (partL_get (k := n) hwn)
            cases e2
            rw [hob1] at hob2; cases hob2
            rw [hc1] at hc2; cases hc2
            rw [part_same hrw] at ht1
            have vp : veq 5 (Value.slice (some ⟨b1, o1, none⟩) n cp) (Value.slice (some ⟨b1, o1, none⟩) n cp) = true := veq_slice _ _ _ _ _
            generalize partAt rt n n w = pw at ht1 ht2
            apply zz
            refine Cd.ra (h := ?_)
            apply Run.by_eq
            · intro self
              conv => lhs; simp -implicitDefEqProofs (maxSteps := 300000) (disch := omega) [-getElem?_pos, -getElem?_neg, g14, g15, hw0']
            try (with_reducible refine Run.ret ?_)
            apply zz
            apply Cd.ite rfl
            · conv => lhs; simp -implicitDefEqProofs (maxSteps := 300000) (disch := omega) [-getElem?_pos, -getElem?_neg]
            all_goals intro c6
            all_goals try (cases c6; done)
            all_goals try simp only [Bool.not_eq_true', Bool.not_eq_false', decide_eq_true_eq, decide_eq_false_iff_not] at c6
            all_goals apply zz
            apply zz
            refine Cd.drawnH (pl := [(0, 0, false, false), (1, 0, false, false), (2, 3, false, false), (3, 7, false, false), (4, 0, false, false), (5, 0, false, false), (6, 48, false, false), (7, 112, false, false), (8, 255, false, false)]) [false, false, false, false, false, false, false, false, false] (by kernel_rfl) (by decide) (by decide) (by conv => lhs; simp only [List.map_cons, List.map_nil]) (by conv => lhs; simp [strip, orderedG, flagH]) ?_
            apply Run.by_eq
            · intro self
              conv => lhs; simp -implicitDefEqProofs (maxSteps := 300000) (disch := omega) [-getElem?_pos, -getElem?_neg, g14, g10, g15, hlt, hwn, hob1, hc1, ht1, ht2, vp]
            try (with_reducible refine Run.ret ?_)
            apply zz
            apply Cd.ite rfl
            · conv => lhs; simp -implicitDefEqProofs (maxSteps := 300000) (disch := omega) [-getElem?_pos, -getElem?_neg]
            all_goals intro c7
            all_goals try (cases c7; done)
            all_goals try simp only [Bool.not_eq_true', Bool.not_eq_false', decide_eq_true_eq, decide_eq_false_iff_not] at c7
            all_goals apply zz
            apply zz
            refine Cd.ra (h := ?_)
            apply Run.by_eq
            · intro self
              conv => lhs; simp -implicitDefEqProofs (maxSteps := 300000) (disch := omega) [-getElem?_pos, -getElem?_neg, g14]
            try (with_reducible refine Run.ret ?_)
            apply zz
            have hL := lead_not (n := n) hlt hw0 hrw
            exact LoopK.nm (n - (u + 1)) (by omega) ⟨u + 1, cl, by omega, rfl, hS.skip (by rw [hrt]; exact hL), by simp [hm5], by simp [g7], by simp [g10], by simp [g12], by simp [g13, leads_succ, hL], by simp, k6⟩
          · obtain rfl : w = u := by omega
            have hL := isLead_of hlt hno hd
            rw [part_lead hlt hL n hlt (Nat.le_refl _)] at ht1
            apply zz
            refine Cd.ra (h := ?_)
            apply Run.by_eq
            · intro self
              conv => lhs; simp -implicitDefEqProofs (maxSteps := 300000) (disch := omega) [-getElem?_pos, -getElem?_neg, g14, g15]
            try (with_reducible refine Run.ret ?_)
            apply zz
            apply Cd.ite rfl
            · conv => lhs; simp -implicitDefEqProofs (maxSteps := 300000) (disch := omega) [-getElem?_pos, -getElem?_neg]
            all_goals intro c6
            all_goals try (cases c6; done)
            all_goals try simp only [Bool.not_eq_true', Bool.not_eq_false', decide_eq_true_eq, decide_eq_false_iff_not] at c6
            all_goals apply zz
            apply zz
            refine Cd.ra (h := ?_)
            apply Run.by_eq
            · intro self
              conv => lhs; simp -implicitDefEqProofs (maxSteps := 300000) (disch := omega) [-getElem?_pos, -getElem?_neg, g14, g10, g13, hlt, hob1, hc1, ht1]
            try (with_reducible refine Run.ret ?_)
            apply zz
            apply Cd.ite rfl
            · conv => lhs; simp -implicitDefEqProofs (maxSteps := 300000) (disch := omega) [-getElem?_pos, -getElem?_neg]
            all_goals intro c7
            all_goals try (cases c7; done)
            all_goals try simp only [Bool.not_eq_true', Bool.not_eq_false', decide_eq_true_eq, decide_eq_false_iff_not] at c7
            all_goals apply zz
            apply zz
            refine Cd.ra (h := ?_)
            apply Run.by_eq
            · intro self
              conv => lhs; simp -implicitDefEqProofs (maxSteps := 300000) (disch := omega) [-getElem?_pos, -getElem?_neg, g13]
            try (with_reducible refine Run.ret ?_)
            apply zz
            refine Cd.ra (h := ?_)
            apply Run.by_eq
            · intro self
              conv => lhs; simp -implicitDefEqProofs (maxSteps := 300000) (disch := omega) [-getElem?_pos, -getElem?_neg]
            try (with_reducible refine Run.ret ?_)
            apply zz
            refine Cd.ra (h := ?_)
            apply Run.by_eq
            · intro self
              conv => lhs; simp -implicitDefEqProofs (maxSteps := 300000) (disch := omega) [-getElem?_pos, -getElem?_neg, g14]
            try (with_reducible refine Run.ret ?_)
            apply zz
            have kk7 := k6
            have ya' := kk7.1
            refine Cd.mono (Q := fun x f6 s6 => x = Ex.exit 5 ∧ OwnU s3.next s6 (f6.get 17) (clsN rt w n) ∧ f6.marks = [] ∧ f6.get 7 = .pointer (some ⟨w1.next, 0, none⟩) ∧ f6.get 10 = .slice (some ⟨b1, o1, none⟩) n cp ∧ f6.get 12 = .bool cl ∧ f6.get 13 = .int .i64 ((leads rt n w).length + 1) ∧ f6.get 14 = .int .i64 w ∧ Keep s3 s6) (Cd.inv (fun z f6 s6 => ∃ v : Nat, v ≤ n ∧ w ≤ v ∧ z = n - v ∧ OwnU s3.next s6 (f6.get 17) (clsN rt w v) ∧ f6.marks = [] ∧ f6.get 7 = .pointer (some ⟨w1.next, 0, none⟩) ∧ f6.get 10 = .slice (some ⟨b1, o1, none⟩) n cp ∧ f6.get 12 = .bool cl ∧ f6.get 13 = .int .i64 ((leads rt n w).length + 1) ∧ f6.get 14 = .int .i64 w ∧ f6.get 18 = .int .i64 v ∧ Keep s3 s6) (n - w) ?_ ?_) ?_
            · exact ⟨w, by omega, Nat.le_refl _, by omega, .inl ⟨cls_none w hno, by simp⟩, by simp [hm5], by simp [g7], by simp [g10], by simp [g12], by simp, by simp [g14], by simp, k6⟩
            · rintro z f6 s6 ⟨v, hvn, hwv, rfl, hO, hm6, r7, r10, r12, r13, r14, r18, k8⟩
              have kk8 := k3.trans k8
              have k8a := k8.1
              have k8b := k8.2
              by_cases hlv : v < n
              · apply zz
                refine Cd.ra (h := ?_)
                apply Run.by_eq
                · intro self
                  conv => lhs; simp -implicitDefEqProofs (maxSteps := 300000) (disch := omega) [-getElem?_pos, -getElem?_neg, r18, r7, hP s6 kk8]
                try (with_reducible refine Run.ret ?_)
                apply zz
                apply Cd.ite rfl
                · conv => lhs; simp -implicitDefEqProofs (maxSteps := 300000) (disch := omega) [-getElem?_pos, -getElem?_neg]
                all_goals intro c8
                all_goals try (cases c8; done)
                all_goals try simp only [Bool.not_eq_true', Bool.not_eq_false', decide_eq_true_eq, decide_eq_false_iff_not] at c8
                all_goals apply zz
                · apply zz
                  refine Cd.ra (h := ?_)
                  apply Run.by_eq
                  · intro self
                    conv => lhs; simp -implicitDefEqProofs (maxSteps := 300000) (disch := omega) [-getElem?_pos, -getElem?_neg, r7, hP s6 kk8, r14, r18]
                  try (with_reducible refine Run.ret ?_)
                  apply zz
                  refine Run.call ((hJ w v hlt hlv s6 kk8).mono fun rv t6 hv => ?_)
                  obtain ⟨rfl, k9⟩ := hv
                  have hO9 := hO.keepK k9
                  have k10 := k8.trans k9
                  have k10a := k10.1
                  have k10b := k10.2
                  have k9a := k9.1
                  have hcs := clsN_succ rt w v
                  by_cases hd2 : rt w = rt v
                  · rw [if_pos hd2.symm] at hcs
                    rw [decide_eq_true hd2]
                    apply Run.by_eq
                    · intro self
                      conv => lhs; simp -implicitDefEqProofs (maxSteps := 300000) (disch := omega) [-getElem?_pos, -getElem?_neg]
                    try (with_reducible refine Run.ret ?_)
                    apply zz
                    apply Cd.ite rfl
                    · conv => lhs; simp -implicitDefEqProofs (maxSteps := 300000) (disch := omega) [-getElem?_pos, -getElem?_neg]
                    all_goals intro c9
                    all_goals try (cases c9; done)
                    all_goals try simp only [Bool.not_eq_true', Bool.not_eq_false', decide_eq_true_eq, decide_eq_false_iff_not] at c9
                    all_goals apply zz
                    rcases hO9 with ⟨hce, hw⟩ | ⟨bu, hw, hne, hu1, hu2, hu3⟩
                    · apply zz
                      refine Cd.ra (h := ?_)
                      apply Run.by_eq
                      · intro self
                        conv => lhs; simp -implicitDefEqProofs (maxSteps := 300000) (disch := omega) [-getElem?_pos, -getElem?_neg, r18, hw]
                      try (with_reducible refine Run.ret ?_)
                      apply zz
                      refine Cd.ra (h := ?_)
                      apply Run.by_eq
                      · intro self
                        conv => lhs; simp -implicitDefEqProofs (maxSteps := 300000) (disch := omega) [-getElem?_pos, -getElem?_neg, r18]
                      try (with_reducible refine Run.ret ?_)
                      apply zz
                      refine LoopK.nm (n - (v + 1)) (by omega) ⟨v + 1, by omega, by omega, rfl, ?_, by simp [hm6], by simp [r7], by simp [r10], by simp [r12], by simp [r13], by simp [r14], by simp, ⟨by (try simp only [pushed_next', upded_next']); omega, fun i hi => by simp -implicitDefEqProofs (disch := omega) [k10b]⟩⟩
                      rw [hcs, hce]
                      exact .inr ⟨t6.next + 1, by simp, by simp, by omega, by simp, by simp⟩
                    · have hXl := clsN_length rt w v
                      obtain ⟨xl, hxl⟩ : ∃ xl, (clsN rt w v).length = xl := ⟨_, rfl⟩
                      rw [hxl] at hw hXl
                      generalize clsN rt w v = xs at hu3 hxl hcs hne
                      apply zz
                      refine Cd.ra (h := ?_)
                      apply Run.by_eq
                      · intro self
                        conv => lhs; simp -implicitDefEqProofs (maxSteps := 300000) (disch := omega) [-getElem?_pos, -getElem?_neg, r18, hw]
                      try (with_reducible refine Run.ret ?_)
                      apply zz
                      apply Run.by_eq
                      · intro self
                        rw [appV_moreE (size := 1) (n := xl) (old := xs.map (Value.int .i64)) ?happ1 (by simp [hxl]) (by omega)]
                        simp -implicitDefEqProofs (disch := omega) [hu3]
                      apply Run.by_eq
                      · intro self
                        conv => lhs; simp -implicitDefEqProofs (maxSteps := 300000) (disch := omega) [-getElem?_pos, -getElem?_neg, hu3]
                      try (with_reducible refine Run.ret ?_)
                      apply zz
                      refine Cd.ra (h := ?_)
                      apply Run.by_eq
                      · intro self
                        conv => lhs; simp -implicitDefEqProofs (maxSteps := 300000) (disch := omega) [-getElem?_pos, -getElem?_neg, r18]
                      try (with_reducible refine Run.ret ?_)
                      apply zz
                      refine LoopK.nm (n - (v + 1)) (by omega) ⟨v + 1, by omega, by omega, rfl, ?_, by simp [hm6], by simp [r7], by simp [r10], by simp [r12], by simp [r13], by simp [r14], by simp, ⟨by (try simp only [pushed_next', upded_next']); omega, fun i hi => by simp -implicitDefEqProofs (disch := omega) [k10b]⟩⟩
                      rw [hcs]
                      exact .inr ⟨t6.next + 1, by simp [hxl], by simp, by omega, by simp, by simp⟩
                  · rw [if_neg (fun e => hd2 e.symm)] at hcs
                    rw [decide_eq_false hd2]
                    apply Run.by_eq
                    · intro self
                      conv => lhs; simp -implicitDefEqProofs (maxSteps := 300000) (disch := omega) [-getElem?_pos, -getElem?_neg]
                    try (with_reducible refine Run.ret ?_)
                    apply zz
                    apply Cd.ite rfl
                    · conv => lhs; simp -implicitDefEqProofs (maxSteps := 300000) (disch := omega) [-getElem?_pos, -getElem?_neg]
                    all_goals intro c9
                    all_goals try (cases c9; done)
                    all_goals try simp only [Bool.not_eq_true', Bool.not_eq_false', decide_eq_true_eq, decide_eq_false_iff_not] at c9
                    all_goals apply zz
                    apply zz
                    refine Cd.ra (h := ?_)
                    apply Run.by_eq
                    · intro self
                      conv => lhs; simp -implicitDefEqProofs (maxSteps := 300000) (disch := omega) [-getElem?_pos, -getElem?_neg, r18]
                    try (with_reducible refine Run.ret ?_)
                    apply zz
                    exact LoopK.nm (n - (v + 1)) (by omega) ⟨v + 1, by omega, by omega, rfl, by rw [hcs]; simpa using hO9, by simp [hm6], by simp [r7], by simp [r10], by simp [r12], by simp [r13], by simp [r14], by simp, k10⟩
                · omega
              · obtain rfl : v = n := by omega
                apply zz
                refine Cd.ra (h := ?_)
                apply Run.by_eq
                · intro self
                  conv => lhs; simp -implicitDefEqProofs (maxSteps := 300000) (disch := omega) [-getElem?_pos, -getElem?_neg, r18, r7, hP s6 kk8]
                try (with_reducible refine Run.ret ?_)
                apply zz
                apply Cd.ite rfl
                · conv => lhs; simp -implicitDefEqProofs (maxSteps := 300000) (disch := omega) [-getElem?_pos, -getElem?_neg]
                all_goals intro c8
                all_goals try (cases c8; done)
                all_goals try simp only [Bool.not_eq_true', Bool.not_eq_false', decide_eq_true_eq, decide_eq_false_iff_not] at c8
                all_goals apply zz
                exact ⟨rfl, by simpa using hO, by simp [hm6], by simp [r7], by simp [r10], by simp [r12], by simp [r13], by simp [r14], k8⟩
            rintro x f6 s6 ⟨rfl, hO, hm6, r7, r10, r12, r13, r14, k8⟩
            have kk8 := k3.trans k8
            have hX := clsN_units rt w n
            have hne := cls_self rt hlt
            have hUE := hX.err hck hne
            have hI := hO.ints
            have hxl := hX.len
            rcases hO with ⟨e, _⟩ | ⟨bu, hw, _, hu1, hu2, hu3⟩
            · exact absurd e hne
            rw [hw] at hI
            have hlk' := hlk w hd
            have hSL := hS.lead (by rw [hrt]; exact hL)
            rw [hrt] at hSL
            have hRk := fun k (hk : k < 4) => refutes_units hX hck hne (k := k) hk
            have hls := leads_succ rt n w
            rw [if_pos hL] at hls
            apply zz
            refine Cd.ra (h := ?_)
            apply Run.by_eq
            · intro self
              conv => lhs; simp -implicitDefEqProofs (maxSteps := 300000) (disch := omega) [-getElem?_pos, -getElem?_neg, r7, hP s6 kk8, hw]
            try (with_reducible refine Run.ret ?_)
            apply zz
            refine Run.call ((excessP_ev n _ _ gs (clsN rt w n) _ (hFl s6 kk8) hI (by omega) (by omega)).mono fun rv s7 hv => ?_)
            obtain ⟨rfl, k9⟩ := hv
            have hE : excV n gs (clsN rt w n) = excM (clsN rt w n) gs := by unfold excV; rw [if_pos hUE]
            rw [hE, hUE]
            have hat := fun k (hk : k < 4) => Mass.cs_at (excM (clsN rt w n) gs) hk
            have hml : (excM (clsN rt w n) gs).le 4611686018427387904 := (exc_le (by omega) (checkErr_le9 hck) (checkErr_ok hck).2.2.1).mono (by omega)
            have hEq : aggEq TT 36 #[.int .i64 (excM (clsN rt w n) gs).a, .int .i64 (excM (clsN rt w n) gs).b, .int .i64 (excM (clsN rt w n) gs).c, .int .i64 (excM (clsN rt w n) gs).d] #[.int .i64 0, .int .i64 0, .int .i64 0, .int .i64 0] = some (decide (excM (clsN rt w n) gs = Mass.zero)) := aggEqA unA36 ceA36 (m := excM (clsN rt w n) gs) (p := Mass.zero) hml (Mass.le_zero (by omega))
            generalize excM (clsN rt w n) gs = mx at hat hEq hRk hSL
            have I7 := hI.keep k9
            have k10 := k8.trans k9
            have k10a := k10.1
            have k10b := k10.2
            have kk10 := k3.trans k10
            have k9a := k9.1
            generalize clsN rt w n = xs at hX hne hRk hI I7 hw hlk' hxl
            apply Run.by_eq
            · intro self
              conv => lhs; simp -implicitDefEqProofs (maxSteps := 300000) (disch := omega) [-getElem?_pos, -getElem?_neg, Mass.v]
            try (with_reducible refine Run.ret ?_)
            apply zz
            refine Cd.ra (h := ?_)
            apply Run.by_eq
            · intro self
              conv => lhs; simp -implicitDefEqProofs (maxSteps := 300000) (disch := omega) [-getElem?_pos, -getElem?_neg]
            try (with_reducible refine Run.ret ?_)
            apply zz
            apply Cd.ite rfl
            · conv => lhs; simp -implicitDefEqProofs (maxSteps := 300000) (disch := omega) [-getElem?_pos, -getElem?_neg]
            all_goals intro c8
            all_goals try (cases c8; done)
            all_goals try simp only [Bool.not_eq_true', Bool.not_eq_false', decide_eq_true_eq, decide_eq_false_iff_not] at c8
            all_goals apply zz
            apply zz
            refine Cd.ra (h := ?_)
            apply Run.by_eq
            · intro self
              conv => lhs; simp -implicitDefEqProofs (maxSteps := 300000) (disch := omega) [-getElem?_pos, -getElem?_neg]
            try (with_reducible refine Run.ret ?_)
            apply zz
            refine Cd.mono (Q := fun x f7 t7 => x = Ex.exit 7 ∧ f7.marks = [] ∧ f7.get 7 = .pointer (some ⟨w1.next, 0, none⟩) ∧ f7.get 10 = .slice (some ⟨b1, o1, none⟩) n cp ∧ f7.get 12 = .bool cl ∧ f7.get 13 = .int .i64 ((leads rt n w).length + 1) ∧ f7.get 14 = .int .i64 w ∧ f7.get 19 = .pointer (some ⟨s7.next, 0, none⟩) ∧ t7.heap.get s7.next = some (.cells [.int .i64 mx.a, .int .i64 mx.b, .int .i64 mx.c, .int .i64 mx.d] none) ∧ s7.next < t7.next ∧ Keep s3 t7) (Cd.inv (fun z f7 t7 => ∃ k : Nat, k ≤ 4 ∧ z = 4 - k ∧ f7.marks = [] ∧ f7.get 7 = .pointer (some ⟨w1.next, 0, none⟩) ∧ f7.get 10 = .slice (some ⟨b1, o1, none⟩) n cp ∧ f7.get 12 = .bool cl ∧ f7.get 13 = .int .i64 ((leads rt n w).length + 1) ∧ f7.get 14 = .int .i64 w ∧ f7.get 17 = .slice (some ⟨bu, 0, none⟩) xs.length xs.length ∧ f7.get 19 = .pointer (some ⟨s7.next, 0, none⟩) ∧ f7.get 147 = .agg #[.int .i64 mx.a, .int .i64 mx.b, .int .i64 mx.c, .int .i64 mx.d] ∧ f7.get 148 = .int .i64 k ∧ t7.heap.get s7.next = some (.cells [.int .i64 mx.a, .int .i64 mx.b, .int .i64 mx.c, .int .i64 mx.d] none) ∧ s7.next < t7.next ∧ Keep s7 t7) 4 ?_ ?_) ?_
            · exact ⟨0, by omega, rfl, by simp [hm6], by simp [r7], by simp [r10], by simp [r12], by simp [r13], by simp [r14], by simp [hw], by simp, by simp, by simp, by simp -implicitDefEqProofs (disch := omega), by simp, ⟨by (try simp only [pushed_next', upded_next']); omega, fun i hi => by simp -implicitDefEqProofs (disch := omega) []⟩⟩
            · rintro z f7 t7 ⟨k, hk, rfl, hm7, v7, v10, v12, v13, v14, v17, v19, v147, v148, hv19, hvn, k11⟩
              have k12 := k10.trans k11
              have kk12 := k3.trans k12
              by_cases hk4 : k < 4
              · have hk4' : (k : Int) < 4 := by omega
                have hatk := hat k hk4
                have hRk' := hRk k hk4
                generalize mx.at k = X at hatk hRk'
                apply zz
                refine Cd.ra (h := ?_)
                apply Run.by_eq
                · intro self
                  conv => lhs; simp -implicitDefEqProofs (maxSteps := 300000) (disch := omega) [-getElem?_pos, -getElem?_neg, v148]
                try (with_reducible refine Run.ret ?_)
                apply zz
                apply Cd.ite rfl
                · conv => lhs; simp -implicitDefEqProofs (maxSteps := 300000) (disch := omega) [-getElem?_pos, -getElem?_neg]
                all_goals intro c10
                all_goals try (cases c10; done)
                all_goals try simp only [Bool.not_eq_true', Bool.not_eq_false', decide_eq_true_eq, decide_eq_false_iff_not] at c10
                all_goals apply zz
                · apply zz
                  refine Cd.ra (h := ?_)
                  apply Run.by_eq
                  · intro self
                    conv => lhs; simp -implicitDefEqProofs (maxSteps := 300000) (disch := omega) [-getElem?_pos, -getElem?_neg, v148, v147, hatk, hk4]
                  try (with_reducible refine Run.ret ?_)
                  apply zz
                  refine Cd.ra (h := ?_)
                  apply Run.by_eq
                  · intro self
                    conv => lhs; simp -implicitDefEqProofs (maxSteps := 300000) (disch := omega) [-getElem?_pos, -getElem?_neg, v7, hP t7 kk12, v17]
                  try (with_reducible refine Run.ret ?_)
                  apply zz
                  refine Run.call ((refutes_ev n k _ _ gs xs _ (hFl t7 kk12) (I7.keep k11) (by omega) (by omega)).mono fun rv t8 hv => ?_)
                  obtain ⟨rfl, k13⟩ := hv
                  rw [hRk']
                  have hv19' := (k13.2 _ hvn).trans hv19
                  have k13a := k13.1
                  by_cases hX0 : X = 0
                  · rw [if_pos (.inl hX0)]
                    subst hX0
                    apply Run.by_eq
                    · intro self
                      conv => lhs; simp -implicitDefEqProofs (maxSteps := 300000) (disch := omega) [-getElem?_pos, -getElem?_neg]
                    try (with_reducible refine Run.ret ?_)
                    apply zz
                    apply Cd.ite rfl
                    · conv => lhs; simp -implicitDefEqProofs (maxSteps := 300000) (disch := omega) [-getElem?_pos, -getElem?_neg]
                    all_goals intro c11
                    all_goals try (cases c11; done)
                    all_goals try simp only [Bool.not_eq_true', Bool.not_eq_false', decide_eq_true_eq, decide_eq_false_iff_not] at c11
                    all_goals apply zz
                    apply zz
                    refine Cd.ra (h := ?_)
                    apply Run.by_eq
                    · intro self
                      conv => lhs; simp -implicitDefEqProofs (maxSteps := 300000) (disch := omega) [-getElem?_pos, -getElem?_neg, v148]
                    try (with_reducible refine Run.ret ?_)
                    apply zz
                    exact LoopK.nm (4 - (k + 1)) (by omega) ⟨k + 1, by omega, rfl, by simp [hm7], by simp [v7], by simp [v10], by simp [v12], by simp [v13], by simp [v14], by simp [v17], by simp [v19], by simp [v147], by simp, hv19', by omega, k11.trans k13⟩
                  · rw [if_neg (by rintro (h | h); exact hX0 h; rw [hlk'] at h; cases h)]
                    apply Run.by_eq
                    · intro self
                      conv => lhs; simp -implicitDefEqProofs (maxSteps := 300000) (disch := omega) [-getElem?_pos, -getElem?_neg, hX0]
                    try (with_reducible refine Run.ret ?_)
                    apply zz
                    apply Cd.ite rfl
                    · conv => lhs; simp -implicitDefEqProofs (maxSteps := 300000) (disch := omega) [-getElem?_pos, -getElem?_neg]
                    all_goals intro c11
                    all_goals try (cases c11; done)
                    all_goals try simp only [Bool.not_eq_true', Bool.not_eq_false', decide_eq_true_eq, decide_eq_false_iff_not] at c11
                    all_goals apply zz
                    apply zz
                    refine Cd.ra (h := ?_)
                    apply Run.by_eq
                    · intro self
                      conv => lhs; simp -implicitDefEqProofs (maxSteps := 300000) (disch := omega) [-getElem?_pos, -getElem?_neg, v148]
                    try (with_reducible refine Run.ret ?_)
                    apply zz
                    exact LoopK.nm (4 - (k + 1)) (by omega) ⟨k + 1, by omega, rfl, by simp [hm7], by simp [v7], by simp [v10], by simp [v12], by simp [v13], by simp [v14], by simp [v17], by simp [v19], by simp [v147], by simp, hv19', by omega, k11.trans k13⟩
                · omega
              · obtain rfl : k = 4 := by omega
                apply zz
                refine Cd.ra (h := ?_)
                apply Run.by_eq
                · intro self
                  conv => lhs; simp -implicitDefEqProofs (maxSteps := 300000) (disch := omega) [-getElem?_pos, -getElem?_neg, v148]
                try (with_reducible refine Run.ret ?_)
                apply zz
                apply Cd.ite rfl
                · conv => lhs; simp -implicitDefEqProofs (maxSteps := 300000) (disch := omega) [-getElem?_pos, -getElem?_neg]
                all_goals intro c10
                all_goals try (cases c10; done)
                all_goals try simp only [Bool.not_eq_true', Bool.not_eq_false', decide_eq_true_eq, decide_eq_false_iff_not] at c10
                all_goals apply zz
                exact ⟨rfl, by simp [hm7], by simp [v7], by simp [v10], by simp [v12], by simp [v13], by simp [v14], by simp [v19], hv19, hvn, k12⟩
            rintro x f7 t7 ⟨rfl, hm7, v7, v10, v12, v13, v14, v19, hv19, hvn, k12⟩
            apply zz
            cases cl with
            | true =>
              apply zz
              refine Cd.ra (h := ?_)
              apply Run.by_eq
              · intro self
                conv => lhs; simp -implicitDefEqProofs (maxSteps := 300000) (disch := omega) [-getElem?_pos, -getElem?_neg, v12]
              try (with_reducible refine Run.ret ?_)
              apply zz
              refine Cd.ra (h := ?_)
              apply Run.by_eq
              · intro self
                conv => lhs; simp -implicitDefEqProofs (maxSteps := 300000) (disch := omega) [-getElem?_pos, -getElem?_neg, v14]
              try (with_reducible refine Run.ret ?_)
              apply zz
              exact LoopK.nm (n - (w + 1)) (by omega) ⟨w + 1, true, by omega, rfl, by simpa using hSL, by simp [hm7], by simp [v7], by simp [v10], by simp, by simp [v13, hls], by simp, k12⟩
            | false =>
              apply zz
              refine Cd.ra (h := ?_)
              apply Run.by_eq
              · intro self
                conv => lhs; simp -implicitDefEqProofs (maxSteps := 300000) (disch := omega) [-getElem?_pos, -getElem?_neg, v12, v19, hv19, hEq]
              try (with_reducible refine Run.ret ?_)
              apply zz
              refine Cd.ra (h := ?_)
              apply Run.by_eq
              · intro self
                conv => lhs; simp -implicitDefEqProofs (maxSteps := 300000) (disch := omega) [-getElem?_pos, -getElem?_neg, v14]
              try (with_reducible refine Run.ret ?_)
              apply zz
              exact LoopK.nm (n - (w + 1)) (by omega) ⟨w + 1, !decide (mx = Mass.zero), by omega, rfl, by simpa using hSL, by simp [hm7], by simp [v7], by simp [v10], by simp, by simp [v13, hls], by simp, k12⟩
      · omega
    · obtain rfl : u = n := by omega
      apply zz
      refine Cd.ra (h := ?_)
      apply Run.by_eq
      · intro self
        conv => lhs; simp -implicitDefEqProofs (maxSteps := 300000) (disch := omega) [-getElem?_pos, -getElem?_neg, h14, h7, hP s4 kk]
      try (with_reducible refine Run.ret ?_)
      apply zz
      apply Cd.ite rfl
      · conv => lhs; simp -implicitDefEqProofs (maxSteps := 300000) (disch := omega) [-getElem?_pos, -getElem?_neg]
      all_goals intro c2
      all_goals try (cases c2; done)
      all_goals try simp only [Bool.not_eq_true', Bool.not_eq_false', decide_eq_true_eq, decide_eq_false_iff_not] at c2
      all_goals apply zz
      exact ⟨rfl, cl, hS, by simp [hm4], by simp [h7], by simp [h12], kk⟩
  rintro x f4 s4 ⟨rfl, cl, hS, hm4, h7, h12, kk⟩
  have hce := hS.err hck
  apply zz
  refine Cd.ra (h := ?_)
  apply Run.by_eq
  · intro self
    conv => lhs; simp -implicitDefEqProofs (maxSteps := 300000) (disch := omega) [-getElem?_pos, -getElem?_neg, h7, hP s4 kk]
  try (with_reducible refine Run.ret ?_)
  apply zz
  refine Run.call ((close_ev n _ gs _ (hFl s4 kk) (by omega)).mono fun r s5 hv => ?_)
  obtain ⟨k5, wk, rfl, hK⟩ := hv
  have kk5 := kk.trans k5
  apply Run.by_eq
  · intro self
    conv => lhs; simp -implicitDefEqProofs (maxSteps := 300000) (disch := omega) [-getElem?_pos, -getElem?_neg]
  try (with_reducible refine Run.ret ?_)
  apply zz
  refine Cd.ra (h := ?_)
  apply Run.by_eq
  · intro self
    conv => lhs; simp -implicitDefEqProofs (maxSteps := 300000) (disch := omega) [-getElem?_pos, -getElem?_neg, h7, hP s5 kk5]
  try (with_reducible refine Run.ret ?_)
  apply zz
  refine Run.call ((prove_ev n _ gs _ (hFl s5 kk5) (by omega)).mono fun r s6 hv => ?_)
  obtain ⟨k6, wp, rfl, hPv⟩ := hv
  have kk6 := kk5.trans k6
  cases cl with
  | false =>
    rw [if_neg (by decide)] at hce
    rw [prove_none hce] at hPv ⊢
    rw [hce]
    obtain ⟨a1, c1', rfl⟩ := hPv.shape
    apply Run.by_eq
    · intro self
      conv => lhs; simp -implicitDefEqProofs (maxSteps := 300000) (disch := omega) [-getElem?_pos, -getElem?_neg]
    try (with_reducible refine Run.ret ?_)
    apply zz
    refine Cd.ra (h := ?_)
    apply Run.by_eq
    · intro self
      conv => lhs; simp -implicitDefEqProofs (maxSteps := 300000) (disch := omega) [-getElem?_pos, -getElem?_neg, h12]
    try (with_reducible refine Run.ret ?_)
    apply zz
    apply Cd.ite rfl
    · conv => lhs; simp -implicitDefEqProofs (maxSteps := 300000) (disch := omega) [-getElem?_pos, -getElem?_neg]
    all_goals intro c3
    all_goals try (cases c3; done)
    all_goals try simp only [Bool.not_eq_true', Bool.not_eq_false', decide_eq_true_eq, decide_eq_false_iff_not] at c3
    all_goals apply zz
    apply zz
    refine Cd.ra (h := ?_)
    apply Run.by_eq
    · intro self
      conv => lhs; simp -implicitDefEqProofs (maxSteps := 300000) (disch := omega) [-getElem?_pos, -getElem?_neg]
    try (with_reducible refine Run.ret ?_)
    apply zz
    refine Run.call (Ev.stub rfl ?_)
    apply Run.by_eq
    · intro self
      conv => lhs; simp -implicitDefEqProofs (maxSteps := 300000) (disch := omega) [-getElem?_pos, -getElem?_neg]
    try (with_reducible refine Run.ret ?_)
    apply zz
    apply Leave.mk (by first | exact .inl rfl | exact .inr rfl) (by simp only [Fr.marks_put, fr0_marks, hm4])
    · conv => lhs; simp -implicitDefEqProofs (disch := omega) [Try.results8, hm4]
    rfl
  | true =>
    rw [if_pos rfl] at hce
    have h0 := prove_some hck hce
    have hPR := prove_refutes h0
    have hPl := proveR_length (u := n) (fs := gs)
    have hKe : closeKs n gs = [] := by unfold closeKs; rw [if_neg (by rw [hce]; decide)]
    rw [hKe] at hK
    rw [hce]
    obtain ⟨a0, c0', rfl⟩ := hK.shape
    generalize proveR n gs = pr at h0 hPR hPl hPv
    obtain ⟨pl, pk, pe⟩ := pr
    simp only [] at h0 hPR hPl hPv ⊢
    subst h0
    obtain ⟨a1, c1', rfl⟩ := hPv.shape
    rw [List.length_map] at hPv ⊢
    apply Run.by_eq
    · intro self
      conv => lhs; simp -implicitDefEqProofs (maxSteps := 300000) (disch := omega) [-getElem?_pos, -getElem?_neg]
    try (with_reducible refine Run.ret ?_)
    apply zz
    refine Cd.ra (h := ?_)
    apply Run.by_eq
    · intro self
      conv => lhs; simp -implicitDefEqProofs (maxSteps := 300000) (disch := omega) [-getElem?_pos, -getElem?_neg, h12]
    try (with_reducible refine Run.ret ?_)
    apply zz
    apply Cd.ite rfl
    · conv => lhs; simp -implicitDefEqProofs (maxSteps := 300000) (disch := omega) [-getElem?_pos, -getElem?_neg]
    all_goals intro c3
    all_goals try (cases c3; done)
    all_goals try simp only [Bool.not_eq_true', Bool.not_eq_false', decide_eq_true_eq, decide_eq_false_iff_not] at c3
    all_goals apply zz
    apply zz
    refine Cd.ra (h := ?_)
    apply Run.by_eq
    · intro self
      conv => lhs; simp -implicitDefEqProofs (maxSteps := 300000) (disch := omega) [-getElem?_pos, -getElem?_neg, h7, hP s6 kk6]
    try (with_reducible refine Run.ret ?_)
    apply zz
    refine Run.call ((refutes_ev n pk _ _ gs pl _ (hFl s6 kk6) hPv (by omega) (by omega)).mono fun v wy hv => ?_)
    obtain ⟨rfl, y⟩ := hv
    have ya := y.1
    have yb := y.2
    try simp only [pushed_next', upded_next'] at ya yb
    rw [hPR]
    apply Run.by_eq
    · intro self
      conv => lhs; simp -implicitDefEqProofs (maxSteps := 300000) (disch := omega) [-getElem?_pos, -getElem?_neg]
    try (with_reducible refine Run.ret ?_)
    apply zz
    refine Run.call (Ev.stub rfl ?_)
    apply Run.by_eq
    · intro self
      conv => lhs; simp -implicitDefEqProofs (maxSteps := 300000) (disch := omega) [-getElem?_pos, -getElem?_neg]
    try (with_reducible refine Run.ret ?_)
    apply zz
    apply Leave.mk (by first | exact .inl rfl | exact .inr rfl) (by simp only [Fr.marks_put, fr0_marks, hm4])
    · conv => lhs; simp -implicitDefEqProofs (disch := omega) [Try.results8, hm4]
    rfl
end Go.Proofs.Ytjehpgflhgpalaa
namespace Go.Proofs.Ytjehpgflhgpalaa
open Go RowKit
theorem fitsW : Kern.tabFits Try.prog = true := by kernel_rfl
theorem works_true : Kern.isTrue ((Kern.run (Kern.tabOf Try.prog) 30000).call 13 [] ⟨.leaf, 0⟩) = true := by kernel_rfl
theorem works_calls (w : World) : Calls Try.prog 13 #[] w fun e w' => e = .returned (.bool true) ∧ Below w.heap.size w w' :=
  Kern.calls_of_run (Kern.tabOf_ok fitsW) rfl (Kern.StubOk.none rfl) works_true w
end Go.Proofs.Ytjehpgflhgpalaa
namespace Go.Proofs.Ytjehpgflhgpalaa
open Go Kern RowKit
/-- A slice of the world whose elements are known, cell by cell. -/
def SlW (W : World) (n : Nat) (v : Value) (l : List (List Value)) : Prop :=
  (l = [] ∧ v = .slice none 0 0) ∨ ∃ (b off cap : Nat) (C : Array Value) (e : TypeId) (fr : Nat × Nat), v = .slice (some ⟨b, off, none⟩) l.length cap ∧ W.heap[b]? = some (.cells C e fr) ∧
    (l ≠ [] → off + l.flatten.length ≤ C.size ∧ (C.toList.drop off).take l.flatten.length = l.flatten)
theorem romAt_pushed {s : St} {o : AObj} {i : Nat} (h : i ≠ s.next) : romAt (s.pushed o).heap i = romAt s.heap i := by
  unfold romAt; rw [get_pushed_old _ _ _ h]
theorem WRel_rom {N : Nat} {σ : Ren} {s : St} {w : World} (hw : WRel N σ s w) {b sh : Nat} {c : List Value} {C : Array Value} {e : TypeId} {fr : Nat × Nat} (hb : w.heap[b]? = some (.cells C e fr)) (hN : b < N) (hs : sh + c.length ≤ C.size)
    (h : LRel σ c ((C.toList.drop sh).take c.length)) : WRel N (σ.add s.next b sh none) (s.pushed (.rom c)) w := by
  have hle := Ren.le_add (b := b) (sh := sh) (x := none) (hw.fresh (Nat.le_refl s.next))
  have hlt : b < w.heap.size := (Array.getElem?_eq_some_iff.1 hb).1
  refine ⟨hw.base, ?_, ?_, ?_, ?_⟩
  · intro i b' sh' x' hi
    by_cases ei : i = s.next
    · subst ei
      rw [Ren.add_same] at hi; cases hi
      have : romAt (s.pushed (.rom c)).heap s.next = true := by unfold romAt; rw [get_pushed_new]; rfl
      exact ⟨⟨fun k => (by rw [this] at k; cases k), fun _ => hN⟩, hlt⟩
    · rw [Ren.add_ne ei] at hi
      rw [romAt_pushed ei]
      exact hw.lt hi
  · intro i hi
    rw [Ren.add_ne (by have : s.next + 1 ≤ i := hi; omega)]
    exact hw.fresh (by have : s.next + 1 ≤ i := hi; omega)
  · intro i b' sh' x' o hi ho
    by_cases ei : i = s.next
    · subst ei
      rw [Ren.add_same] at hi; cases hi
      rw [get_pushed_new] at ho; cases ho
      exact ⟨_, hb, .rom rfl hs (h.mono hle)⟩
    · rw [Ren.add_ne ei] at hi
      rw [get_pushed_old _ _ _ ei] at ho
      obtain ⟨O, h1, h2⟩ := hw.real hi ho
      exact ⟨O, h1, h2.mono hle⟩
  · intro i j b' sh1 x1 sh2 x2 o1 o2 hi hj h1 h2 d1 d2 hr
    by_cases ei : i = s.next
    · subst ei
      rw [get_pushed_new] at h1; cases h1; cases hr
    · rw [Ren.add_ne ei] at hi
      rw [get_pushed_old _ _ _ ei] at h1
      by_cases ej : j = s.next
      · subst ej
        rw [Ren.add_same] at hj; cases hj
        have : romAt s.heap i = false := by unfold romAt; rw [h1]; exact hr
        exact absurd ((hw.lt hi).1.1 this) (by omega)
      · rw [Ren.add_ne ej] at hj
        rw [get_pushed_old _ _ _ ej] at h2
        exact hw.inj hi hj h1 h2 d1 d2 hr
/-- A slice of the world gets a read-only block of the calculation. -/
theorem attach {N : Nat} {σ : Ren} {s : St} {w : World} (hw : WRel N σ s w) (hN : N = w.heap.size) {n : Nat} {v : Value} {l : List (List Value)} (h : SlW w n v l) (hl : ∀ x ∈ l, x.length = n) (hc : l.flatten.all closed1 = true) :
    ∃ τ s' v', σ.le τ ∧ WRel N τ s' w ∧ VRel τ v' v ∧ SlAt n s' v' l ∧ Keep s s' := by
  rcases h with ⟨rfl, rfl⟩ | ⟨b, off, cap, C, e, fr, rfl, hb, hf⟩
  · exact ⟨σ, s, .slice none 0 0, σ.le_refl, hw, .sliceNil _ _, .nil 0, Keep.refl _⟩
  have hlt : b < w.heap.size := (Array.getElem?_eq_some_iff.1 hb).1
  by_cases he : l = []
  · subst he
    have hw2 := WRel_rom hw (sh := 0) (c := []) hb (by omega) (by simp) (by simpa using LRel.nil)
    refine ⟨_, _, .slice (some ⟨s.next, off, none⟩) 0 cap, Ren.le_add (hw.fresh (Nat.le_refl _)), hw2, ?_, ?_, (Keep.refl s).pushed _⟩
    · have := VRel.slice (σ := σ.add s.next b 0 none) (i := s.next) (o := off) (o' := off) (b := b) (s := 0) (l := 0) (c := cap) (c' := cap) (x := none) Ren.add_same ⟨rfl, rfl⟩
      rw [Nat.zero_add] at this
      exact this
    · exact SlAt.mk (l := []) (Nat.lt_succ_self _) (get_pushed_new _ _) rfl (fun i e h => by simp at h)
  · obtain ⟨h1, h2⟩ := hf he
    have hw2 := WRel_rom hw (sh := off) (c := l.flatten) hb (by omega) h1 (by rw [h2]; exact closedL_rel hc)
    refine ⟨_, _, .slice (some ⟨s.next, 0, none⟩) l.length cap, Ren.le_add (hw.fresh (Nat.le_refl _)), hw2, ?_, ?_, (Keep.refl s).pushed _⟩
    · exact VRel.slice (σ := σ.add s.next b off none) (i := s.next) (o := 0) (o' := 0) (b := b) (s := off) (l := l.length) (c := cap) (c' := cap) (x := none) Ren.add_same ⟨rfl, rfl⟩
    · exact SlAt.mk (Nat.lt_succ_self _) (get_pushed_new _ _) rfl (fun i e h => by rw [Nat.zero_add]; exact drop_flat hl h)
theorem stubOk : StubOk Try.prog TT :=
  ⟨fun {g} h => by cases h; exact ⟨Try.f13, by kernel_rfl, by kernel_rfl, rfl⟩, fun {g} h w => by cases h; exact works_calls w⟩
/-- What the calculation finds true holds of the call in the world. -/
theorem calls_of_ev {g : FuncId} {args : List Value} {s : St} (h : Ev TT g args s fun r _ => r = .bool true) {N : Nat} {σ : Ren} {w : World} (hw : WRel N σ s w) (hN : N = w.heap.size) {args' : Array Value} (ha : LRel σ args args'.toList) :
    Calls Try.prog g args' w fun e w' => e = .returned (.bool true) ∧ Below w.heap.size w w' := by
  obtain ⟨m, ⟨v, s'⟩, h1, h2⟩ := h
  have h2' : v = .bool true := h2
  subst h2'
  refine ((run_ok tabOk rfl stubOk m).call (h1 m (Nat.le_refl _)) hw ha).mono fun e w' he => ?_
  obtain ⟨τ, v', rfl, hx, _, hv⟩ := he
  rw [hv.of_bool]
  exact ⟨rfl, hN ▸ hx.below⟩
end Go.Proofs.Ytjehpgflhgpalaa
namespace Go.Proofs.Ytjehpgflhgpalaa
open Go Kern RowKit Go.ChangeShapes Go.WideShapes Go.ChangeAt
open Go.ChangeMaps (open_string)
theorem take_eq_of {α : Type} {L cs : List α} {k n : Nat} (hl : cs.length = n) (h : ∀ j, j < n → L[k + j]? = cs[j]?) : (L.drop k).take n = cs := by
  apply List.ext_getElem?
  intro j
  rw [List.getElem?_take, List.getElem?_drop]
  by_cases hj : j < n
  · rw [if_pos hj]; exact h j hj
  · rw [if_neg hj, List.getElem?_eq_none (by omega)]
theorem rows_flat {α : Type} {L : List α} {k n : Nat} (g : Nat → List α) : ∀ {len : Nat}, (∀ i, i < len → (L.drop (k + i * n)).take n = g i) → ((List.range len).map g).flatten = (L.drop k).take (len * n)
  | 0, _ => by simp
  | len + 1, h => by
    rw [List.range_succ, List.map_append, List.flatten_append, rows_flat g (fun i hi => h i (by omega)), List.map_cons, List.map_nil, List.flatten_cons, List.flatten_nil, List.append_nil, ← h len (by omega),
      Nat.add_mul, Nat.one_mul, List.take_add, List.drop_drop]
/-- A slice that the row reads, as a list of its elements' cells. -/
theorem slW_of {H : Type} {enc : TypeId × Value → H} {P : Program} {W : World} {t e : TypeId} {n fuel : Nat} {v : Value} {x : DataW H × List MemPlace} (ht : P.underlying t = some (.slice e)) (hn : P.cellsOf e = n) (hn0 : 0 < n)
    (hok : Cell.ok P W .any 0 t v) (h : DataW.trod enc P W 0 (fun _ => true) true fuel t [v] = some x) :
    ∃ l, SlW W n v l ∧ (∀ y ∈ l, y.length = n) ∧ ∀ y ∈ l, ∃ m z, DataW.trod enc P W 0 (fun _ => true) true m e y = some z := by
  rcases Go.Deep.open_slice ht h with ⟨hcs, _⟩ | ⟨a, len, cap, m, q, D, Pl, hcs, _, hlc, _, hm, _, hel⟩
  · simp at hcs; subst hcs
    exact ⟨[], .inl ⟨rfl, rfl⟩, by simp, by simp⟩
  · simp at hcs; subst hcs
    simp only [Cell.ok, ht] at hok
    obtain ⟨_, _, _, hsp, row, cells, hsh, _⟩ := hok
    obtain ⟨b, off, spot⟩ := a
    simp only at hsp; subst hsp
    obtain ⟨C, E, fr, hb⟩ : ∃ C E fr, W.heap[b]? = some (.cells C E fr) := by
      unfold World.shape? at hsh
      simp only at hsh
      split at hsh
      · rename_i c el fr hh; exact ⟨c, el, fr, hh⟩
      all_goals cases hsh
    rw [hn] at hel
    simp at hm; subst hm
    have hrow : ∀ i, i < len → ∃ cs', cs'.length = n ∧ (∀ j, j < n → C.toList[off + i * n + j]? = cs'[j]?) ∧ ∃ z, DataW.trod enc P W 0 (fun _ => true) true q e cs' = some z := fun i hi => by
      obtain ⟨cs', h1, h2⟩ := hel i (by omega)
      obtain ⟨_, h3, h4⟩ := World.cells?_some h1
      refine ⟨cs', h3, fun j hj => ?_, _, h2⟩
      have := h4 j hj
      rw [addr_add, addr_add] at this
      simp only [World.cell?, hb] at this
      simpa using this
    have hg : ∀ i, i < len → ((C.toList.drop (off + i * n)).take n).length = n ∧ ∃ z, DataW.trod enc P W 0 (fun _ => true) true q e ((C.toList.drop (off + i * n)).take n) = some z := fun i hi => by
      obtain ⟨cs', h1, h2, z, h3⟩ := hrow i hi
      rw [take_eq_of h1 h2]
      exact ⟨h1, z, h3⟩
    have hfl := rows_flat (L := C.toList) (k := off) (n := n) (len := len) (fun i => (C.toList.drop (off + i * n)).take n) fun _ _ => rfl
    refine ⟨(List.range len).map fun i => (C.toList.drop (off + i * n)).take n, .inr ⟨b, off, m, C, E, fr, by simp, hb, fun hne => ?_⟩, fun y hy => ?_, fun y hy => ?_⟩
    · rw [hfl]
      have hlen : 0 < len := by
        rcases Nat.eq_zero_or_pos len with h | h
        · subst h; simp at hne
        · exact h
      obtain ⟨cs', h1, h2, _⟩ := hrow (len - 1) (by omega)
      have h3 := h2 (n - 1) (by omega)
      rw [List.getElem?_eq_getElem (l := cs') (by omega)] at h3
      have h4 := (List.getElem?_eq_some_iff.1 h3).1
      have h5 : len * n = (len - 1) * n + n := by rw [← Nat.succ_mul]; congr 1; omega
      have h6 : off + len * n ≤ C.size := by simp at h4; omega
      have h7 : ((C.toList.drop off).take (len * n)).length = len * n := by simp; omega
      rw [h7]
      exact ⟨h6, rfl⟩
    · obtain ⟨i, hi, rfl⟩ := List.mem_map.1 hy
      exact (hg i (by simpa using hi)).1
    · obtain ⟨i, hi, rfl⟩ := List.mem_map.1 hy
      obtain ⟨z, hz⟩ := (hg i (by simpa using hi)).2
      exact ⟨_, z, hz⟩
theorem list_of {α β : Type} {g : β → α} : ∀ {l : List α}, (∀ y ∈ l, ∃ f, y = g f) → ∃ fs : List β, l = fs.map g
  | [], _ => ⟨[], rfl⟩
  | y :: r, h => by
    obtain ⟨f, rfl⟩ := h y (.head _)
    obtain ⟨fs, rfl⟩ := list_of (l := r) fun z hz => h z (.tail _ hz)
    exact ⟨f :: fs, rfl⟩
section
variable {H : Type} {enc : TypeId × Value → H} {W : World}
end
end Go.Proofs.Ytjehpgflhgpalaa
namespace Go.Proofs.Ytjehpgflhgpalaa
open Go Kern RowKit Go.ChangeShapes Go.WideShapes Go.ChangeAt
/-! A mill by numbers, as the row reads it -/
theorem un5 : Try.prog.underlying 5 = some (.int .u8) := by kernel_rfl
theorem un76 : Try.prog.underlying 76 = some (.int .u16) := by kernel_rfl
theorem un74 : Try.prog.underlying 74 = some (.slice 122) := by kernel_rfl
theorem un75 : Try.prog.underlying 75 = some (.slice 5) := by kernel_rfl
theorem un122 : Try.prog.underlying 122 = some (.array 2 5) := by kernel_rfl
theorem un78 : ∃ f0 f1 f2 f3 : Field, Try.prog.underlying 78 = some (.struct #[f0, f1, f2, f3]) ∧ (f0.type = 5 ∧ f0.offset = 0) ∧ (f1.type = 74 ∧ f1.offset = 1) ∧ (f2.type = 75 ∧ f2.offset = 2) ∧ (f3.type = 76 ∧ f3.offset = 3) := ⟨_, _, _, _, Try.underlying78, ⟨rfl, rfl⟩, ⟨rfl, rfl⟩, ⟨rfl, rfl⟩, rfl, rfl⟩
theorem ce5 : Try.prog.cellsOf 5 = 1 := by kernel_rfl
theorem ce76 : Try.prog.cellsOf 76 = 1 := by kernel_rfl
theorem ce74 : Try.prog.cellsOf 74 = 1 := by kernel_rfl
theorem ce75 : Try.prog.cellsOf 75 = 1 := by kernel_rfl
theorem ce122 : Try.prog.cellsOf 122 = 2 := by kernel_rfl
theorem ce78 : Try.prog.cellsOf 78 = 4 := by kernel_rfl
theorem ct78 : Try.prog.cellTypes Try.prog.depth 78 = some [5, 74, 75, 76] := by kernel_rfl
theorem range8_of_wf {x : Int} (h : (Lit.int .u8 x).wf = true) : 0 ≤ x ∧ x < 256 := by
  simp [Lit.wf, IntKind.min, IntKind.max, IntKind.bits, IntKind.signed] at h
  omega
section
variable {H : Type} {enc : TypeId × Value → H} {W : World}
theorem trod_array2 {P : Program} {base : Nat} {spare : Nat → Bool} {held : Bool} {w : World} {t e : TypeId} {fuel : Nat} {c0 c1 : Value} {x : DataW H × List MemPlace} (ht : P.underlying t = some (.array 2 e)) (hce : P.cellsOf e = 1)
    (h : DataW.trod enc P w base spare held fuel t [c0, c1] = some x) :
    ∃ y0 y1 n, DataW.trod enc P w base spare held n e [c0] = some y0 ∧ DataW.trod enc P w base spare held n e [c1] = some y1 := by
  cases fuel with
  | zero => simp [DataW.trod] at h
  | succ n =>
    unfold DataW.trod at h
    rw [ht] at h
    have r2 : List.range 2 = [0, 1] := rfl
    simp [r2, hce] at h
    obtain ⟨_, h⟩ := h
    cases h0 : DataW.trod enc P w base spare held n e [c0] with
    | none => simp [h0] at h
    | some y0 =>
      cases h1 : DataW.trod enc P w base spare held n e [c1] with
      | none => simp [h0, h1] at h
      | some y1 => exact ⟨y0, y1, n, h0, h1⟩
theorem byte_of {m : Nat} {cs : List Value} {z : DataW H × List MemPlace} (h : DataW.trod enc Try.prog W 0 (fun _ => true) true m 5 cs = some z) : ∃ x : Int, cs = [Value.int .u8 x] ∧ 0 ≤ x ∧ x < 256 := by
  obtain ⟨x, e, _, w⟩ := DataW.trod_int un5 h
  exact ⟨x, e, range8_of_wf w⟩
theorem end_of {m : Nat} {cs : List Value} {z : DataW H × List MemPlace} (hl : cs.length = 2) (h : DataW.trod enc Try.prog W 0 (fun _ => true) true m 122 cs = some z) : ∃ e : { e : Int × Int // (0 ≤ e.1 ∧ e.1 < 256) ∧ (0 ≤ e.2 ∧ e.2 < 256) }, cs = [Value.int .u8 e.1.1, Value.int .u8 e.1.2] := by
  match cs, hl with
  | [c0, c1], _ =>
    obtain ⟨y0, y1, n, h0, h1⟩ := trod_array2 un122 ce5 h
    obtain ⟨x0, e0, r0⟩ := byte_of h0
    obtain ⟨x1, e1, r1⟩ := byte_of h1
    simp at e0 e1
    subst e0 e1
    exact ⟨⟨(x0, x1), r0, r1⟩, rfl⟩
theorem sl_len {P : Program} {t e : TypeId} {n : Nat} {v : Value} {l : List (List Value)} (ht : P.underlying t = some (.slice e)) (hok : Cell.ok P W .any 0 t v) (h : SlW W n v l) : (l.length : Int) ≤ 9223372036854775807 := by
  rcases h with ⟨rfl, _⟩ | ⟨b, off, cap, C, E, fr, rfl, _, _⟩
  · simp
  · simp only [Cell.ok, ht] at hok
    obtain ⟨h1, h2, _⟩ := hok
    have : IntKind.i64.max = 9223372036854775807 := by kernel_rfl
    omega
set_option maxRecDepth 100000 in
theorem bytes_ok {v : Value} {fuel : Nat} {x : DataW H × List MemPlace} (hok : Cell.ok Try.prog W .any 0 75 v) (hf : DataW.trod enc Try.prog W 0 (fun _ => true) true fuel 75 [v] = some x) :
    ∃ xs : List Int, SlW W 1 v (xs.map fun x => [Value.int .u8 x]) ∧ (∀ x ∈ xs, 0 ≤ x ∧ x < 256) ∧ (xs.length : Int) ≤ 9223372036854775807 := by
  obtain ⟨l, g1, g2, g3⟩ := slW_of un75 ce5 (by omega) hok hf
  have hlen := sl_len un75 hok g1
  obtain ⟨xs, rfl⟩ := list_of (g := fun x : { x : Int // 0 ≤ x ∧ x < 256 } => [Value.int .u8 x.1]) fun y hy => by
    obtain ⟨m, z, hz⟩ := g3 y hy
    obtain ⟨x, e, r⟩ := byte_of hz
    exact ⟨⟨x, r⟩, e⟩
  refine ⟨xs.map (·.1), by rw [List.map_map]; exact g1, fun x hx => ?_, by simpa using hlen⟩
  obtain ⟨y, _, rfl⟩ := List.mem_map.1 hx
  exact y.2
set_option maxRecDepth 100000 in
theorem ends_ok {v : Value} {fuel : Nat} {x : DataW H × List MemPlace} (hok : Cell.ok Try.prog W .any 0 74 v) (hf : DataW.trod enc Try.prog W 0 (fun _ => true) true fuel 74 [v] = some x) :
    ∃ es : List (Int × Int), SlW W 2 v (es.map fun e => [Value.int .u8 e.1, Value.int .u8 e.2]) ∧ ∀ e ∈ es, (0 ≤ e.1 ∧ e.1 < 256) ∧ (0 ≤ e.2 ∧ e.2 < 256) := by
  obtain ⟨l, g1, g2, g3⟩ := slW_of un74 ce122 (by omega) hok hf
  obtain ⟨xs, rfl⟩ := list_of (g := fun e : { e : Int × Int // (0 ≤ e.1 ∧ e.1 < 256) ∧ (0 ≤ e.2 ∧ e.2 < 256) } => [Value.int .u8 e.1.1, Value.int .u8 e.1.2]) fun y hy => by
    obtain ⟨m, z, hz⟩ := g3 y hy
    exact end_of (g2 y hy) hz
  refine ⟨xs.map (·.1), by rw [List.map_map]; exact g1, fun x hx => ?_⟩
  obtain ⟨y, _, rfl⟩ := List.mem_map.1 hx
  exact y.2
set_option maxRecDepth 100000 in
theorem mill_of {v : Value} {d : DataW H} {p : List MemPlace} (hv : Value.okWide Try.prog W .any 0 78 v) (h : DataW.Trod enc Try.prog W 0 (fun _ => true) true 78 v d p) :
    ∃ (U K : Int) (ve vm : Value) (es : List (Int × Int)) (ms : List Int), v = .agg #[.int .u8 U, ve, vm, .int .u16 K] ∧ (0 ≤ U ∧ U < 256) ∧ SlW W 2 ve (es.map fun e => [Value.int .u8 e.1, Value.int .u8 e.2]) ∧ SlW W 1 vm (ms.map fun x => [Value.int .u8 x]) ∧
      (∀ e ∈ es, (0 ≤ e.1 ∧ e.1 < 256) ∧ (0 ≤ e.2 ∧ e.2 < 256)) ∧ ∀ x ∈ ms, 0 ≤ x ∧ x < 256 := by
  obtain ⟨f0, f1, f2, f3, hu, ⟨t0, o0⟩, ⟨t1, o1⟩, ⟨t2, o2⟩, t3, o3⟩ := un78
  have hv' := hv
  simp only [Value.okWide, hu] at hv'
  obtain ⟨cs, rfl, hsz, ts, hts, _, hrow⟩ := hv'
  rw [ct78] at hts; cases hts
  rw [ce78] at hsz
  obtain ⟨fuel, hf⟩ := h
  obtain ⟨l⟩ := cs
  match l, hsz with
  | [c0, c1, c2, c3], _ =>
    obtain ⟨y0, y1, y2, y3, n, _, _, h0, h1, h2, h3⟩ := Go.Joins.trod_struct4 hu hf
    rw [t0, o0, ce5] at h0
    rw [t1, o1, ce74] at h1
    rw [t2, o2, ce75] at h2
    rw [t3, o3, ce76] at h3
    obtain ⟨U, e0, rU⟩ := byte_of h0
    obtain ⟨K, e3, _, _⟩ := DataW.trod_int un76 h3
    simp [Value.cells] at e0 e3 h1 h2
    subst e0 e3
    obtain ⟨w1, hw1, hok1⟩ := hrow 1 c1 rfl
    simp at hw1; subst hw1
    obtain ⟨w2, hw2, hok2⟩ := hrow 2 c2 rfl
    simp at hw2; subst hw2
    obtain ⟨a, len, cap, rfl⟩ : ∃ a len cap, c1 = .slice a len cap := by
      simp only [Cell.okWide, un74] at hok1
      cases c1 <;> simp_all [Cell.ok]
    have hok1' : Cell.ok Try.prog W .any 0 74 (.slice a len cap) := by
      simp only [Cell.okWide, un74] at hok1; exact hok1
    obtain ⟨a2, len2, cap2, rfl⟩ : ∃ a len cap, c2 = .slice a len cap := by
      simp only [Cell.okWide, un75] at hok2
      cases c2 <;> simp_all [Cell.ok]
    have hok2' : Cell.ok Try.prog W .any 0 75 (.slice a2 len2 cap2) := by
      simp only [Cell.okWide, un75] at hok2; exact hok2
    obtain ⟨es, g1, g2⟩ := ends_ok hok1' h1
    obtain ⟨ms, g3, g4, _⟩ := bytes_ok hok2' h2
    exact ⟨U, K, _, _, es, ms, rfl, rU, g1, g3, g2, g4⟩
end
/-- A mill of the world in the calculation's memory. -/
theorem attach_mill {W : World} {ve vm : Value} {es : List (Int × Int)} {ms : List Int} {N : Nat} {σ : Ren} {s : St} (hw : WRel N σ s W) (hN : N = W.heap.size) (U K : Int) (he : SlW W 2 ve (es.map fun e => [Value.int .u8 e.1, Value.int .u8 e.2])) (hm : SlW W 1 vm (ms.map fun x => [Value.int .u8 x])) :
    ∃ τ s' ve' vm', σ.le τ ∧ WRel N τ s' W ∧ VRel τ (millV U ve' vm' K) (.agg #[.int .u8 U, ve, vm, .int .u16 K]) ∧ EndsAt s' ve' es ∧ BytesAt s' vm' ms ∧ Keep s s' := by
  obtain ⟨σ1, s1, ve', l1, hw1, hv, hs1, k1⟩ := attach hw hN he (fun x hx => by obtain ⟨f, _, rfl⟩ := List.mem_map.1 hx; rfl) (by
    rw [List.all_eq_true]; intro y hy
    obtain ⟨z, hz, hy⟩ := List.mem_flatten.1 hy
    obtain ⟨f, _, rfl⟩ := List.mem_map.1 hz
    simp at hy
    rcases hy with rfl | rfl <;> rfl)
  obtain ⟨σ2, s2, vm', l2, hw2, hv2, hs2, k2⟩ := attach hw1 hN hm (fun x hx => by obtain ⟨f, _, rfl⟩ := List.mem_map.1 hx; rfl) (by
    rw [List.all_eq_true]; intro y hy
    obtain ⟨z, hz, hy⟩ := List.mem_flatten.1 hy
    obtain ⟨f, _, rfl⟩ := List.mem_map.1 hz
    simp at hy
    subst hy; rfl)
  exact ⟨σ2, s2, ve', vm', fun i r h => l2 i r (l1 i r h), hw2, .agg (.cons (.int _ _) (.cons (hv.mono l2) (.cons hv2 (.cons (.int _ _) .nil)))), hs1.keep k2, hs2, k1.trans k2⟩
theorem Try.own : ownKnob Try.prog.godebug = none := by kernel_rfl
theorem laidB : laidOutB Try.prog = true := by kernel_rfl
theorem again_of {H : Type} {enc : TypeId × Value → H} {t : TypeId} {W W' : World} {v : Value} {d : DataW H} {p : List MemPlace} (hr : Try.prog.readableRec t = true) (ht : t < Try.prog.types.size)
    (h : DataW.Trod enc Try.prog W 0 (fun _ => true) true t v d p) (hb : Below W.heap.size W W') : DataW.Trod enc Try.prog W' 0 (fun b => decide (b < W.heap.size)) true t v d p :=
  Below.trod laidB hr ht h hb (DataW.TrodAll.lt (trodAll_mk1 h))
end Go.Proofs.Ytjehpgflhgpalaa
namespace Go.Proofs.Ytjehpgflhgpalaa
open Go Kern RowKit Go.ChangeShapes Go.WideShapes Go.ChangeAt
theorem lawX_calls (U K un kd : Int) (ve vm : Value) (es : List (Int × Int)) (ms : List Int) (W : World) (hU : 0 ≤ U ∧ U < 256) (hun : 0 ≤ un ∧ un < 256) (hkd : 0 ≤ kd ∧ kd < 256) (hes : SlW W 2 ve (es.map fun e => [Value.int .u8 e.1, Value.int .u8 e.2])) (hms : SlW W 1 vm (ms.map fun x => [Value.int .u8 x]))
    (hbe : ∀ e ∈ es, (0 ≤ e.1 ∧ e.1 < 256) ∧ (0 ≤ e.2 ∧ e.2 < 256)) (hbm : ∀ x ∈ ms, 0 ≤ x ∧ x < 256) :
    Calls Try.prog 8 #[.agg #[.int .u8 U, ve, vm, .int .u16 K], .int .u8 un, .int .u8 kd] W fun e w' => e = .returned (.bool true) ∧ Below W.heap.size W w' := by
  have hw0 : WRel W.heap.size (fun _ => none) ⟨.leaf, 0⟩ W := ⟨Nat.le_refl _, (fun h => by cases h), fun _ => rfl, (fun h => by cases h), (fun h => by cases h)⟩
  obtain ⟨σ1, s1, ve', vm', _, hw1, hv, hs1, hs1', k1⟩ := attach_mill hw0 rfl U K hes hms
  refine calls_of_ev (lawX_ev U K un kd ve' vm' es ms s1 hU hun hkd hs1 hs1' hbe hbm) hw1 rfl ?_
  exact .cons hv (.cons (.int _ _) (.cons (.int _ _) .nil))
set_option maxRecDepth 100000 in
theorem clash_lifted (os : Os) (started : os.Started) (H : Type) (enc : TypeId × Value → H) :
    ReturnsInHanded {} Try.checked os 8 .any (Rows.bulkClashSpec.pre6 enc Try.prog Try.f8 Rows.bulkClashRow.domain false) (Rows.bulkClashSpec.post enc Try.prog Try.f8 false true false false) := by
  refine returnsInHanded_of_change (C := Try.checked) Try.own started (by kernel_rfl) Try.func8
    (ChangeSpec.witness6 (enc := enc) (C := Try.checked) false ⟨#[], #[.agg #[.int .u8 0, .slice none 0 0, .slice none 0 0, .int .u16 0], .int .u8 0, .int .u8 0], []⟩ 8 (by kernel_rfl) (by kernel_rfl) (by kernel_rfl) (by kernel_rfl)) ?_
  intro W base args ds gs before hval hW hcnd _
  have hW' := hW
  obtain ⟨p, q, hA0, hV, rfl, hfz, hnd⟩ := hW
  have hA : DataW.TrodAll enc Try.prog W 0 (fun _ => true) true Try.f8.params.toList args.toList ds p := hA0
  rw [Try.params8] at hA
  obtain ⟨v0, v1, v2, d0, d1, d2, p0, p1, p2, rfl, rfl, rfl, h0, h1, h2⟩ := trodAll_three hA
  obtain ⟨rfl, rfl⟩ := trodVars_none hV
  have h1k := h1
  have h2k := h2
  obtain ⟨U, K, ve, vm, es, ms, rfl, hU, hes, hms, hbe, hbm⟩ := mill_of (hval 0 78 v0 rfl rfl) h0
  obtain ⟨un, rfl, rfl, rfl, hu⟩ := open_int un5 (hval 1 5 v1 rfl rfl) h1
  obtain ⟨kd, rfl, rfl, rfl, hk⟩ := open_int un5 (hval 2 5 v2 rfl rfl) h2
  refine (lawX_calls U K un kd ve vm es ms W hU (range8_of_wf hu) (range8_of_wf hk) hes hms hbe hbm).mono fun e W' ⟨he, hbl⟩ => ?_
  subst he
  exact ⟨_, rfl, [_, _, _], [], _, [], _, [], hW', trodAll_mk1 (shut_bool Try.underlying4 _), trodAll_mk3 (again_of (by kernel_rfl) (of_decide_eq_true (by kernel_rfl)) h0 hbl) (again_of (by kernel_rfl) (of_decide_eq_true (by kernel_rfl)) h1k hbl) (again_of (by kernel_rfl) (of_decide_eq_true (by kernel_rfl)) h2k hbl), rfl, hbl.frame _, fun h => by cases h⟩

theorem clash_holds : Rows.BulkClashSaid :=
  OpenClaim.holds_of_wide 8 Try.f8 rfl rfl rfl rfl rfl rfl rfl ⟨rfl, rfl, rfl, rfl, rfl⟩ rfl rfl rfl rfl rfl (by kernel_rfl) Try.func8 (by kernel_rfl)
    (of_decide_eq_true (by kernel_rfl)) (by unfold Func.isWrapper; first | (rw [if_pos (by decide +kernel)]; kernel_rfl) | (rw [if_neg (by decide +kernel)]; exact ⟨rfl, rfl⟩))
    (fun os started H enc _ => clash_lifted os started H enc)
end Go.Proofs.Ytjehpgflhgpalaa
