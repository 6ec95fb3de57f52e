/-
  A mill by numbers is made as stated, for every list of ends and masses. Bits of a byte, and what Refutes says of ascending units. Rounds over flows that are not measured meet just what they join. The law asks whether ends are joined, and is told just that. The law BulkProves is calculated true, for every argument. What is true of a plant with a balance. Fill answers as stated, for every plant, flow and masses. The law BulkCloses is calculated true, for every argument. The law BulkTrue is calculated true, for every argument. Parts are numbered by who is joined, and an excess of one of them is a clash. The law BulkClash is calculated true, for every argument. A flow that is measured in addition leaves what is known of the others. What is known of two flows is compared. The law BulkMore is calculated true, for every argument. The law's self-check returns true in every world, and leaves what was there as it was: its answer is calculated by the kernel. What is calculated true of slices of the world holds of the call. Arguments that the row reads are slices, plants and numbers of the world. Mills by numbers, as the row reads them. The statement BulkMore is true. They hold with no condition but those that are written in each theorem.
-/
import Derived.Test.YtjehpgflhgpalaaProg
import Derived.Test.YtjehpgflhgpalaaRows
import Derived.ProofKit
import Derived.Deep.Slices
import Derived.Lib.SmallJoins
import Derived.Laws.IdiomArrays
import Derived.Carry
import Derived.Test.YtjehpgflhgpalaaPM1
import Derived.Test.YtjehpgflhgpalaaPM2
import Derived.Test.YtjehpgflhgpalaaPM3
import Derived.Test.YtjehpgflhgpalaaPM4
set_option linter.unusedSimpArgs false
set_option linter.unusedVariables false
namespace Go.Proofs.Ytjehpgflhgpalaa
open Go Kern
def restT (to : Int) (ms : List Int) (i k : Nat) (X : Nat → Int) (q : Nat) : Int := X q + (if ((q / 4 : Nat) : Int) = to ∧ q % 4 = k then mass1 ms i (q % 4) else 0)
theorem restT_no {to : Int} {ms : List Int} {i k : Nat} {X : Nat → Int} {q : Nat} (h : ¬ (((q / 4 : Nat) : Int) = to ∧ q % 4 = k)) : restT to ms i k X q = X q := by unfold restT; rw [if_neg h]; omega
theorem restT_next {fr to : Int} {ms : List Int} {i k : Nat} {R : Nat → Int} (q : Nat) : restK fr to ms i (k + 1) R q = restT to ms i k (restK fr to ms i k R) q - (if ((q / 4 : Nat) : Int) = fr ∧ q % 4 = k then mass1 ms i (q % 4) else 0) := restK_next q
theorem flat_len {n : Nat} : ∀ {l : List (List Value)}, (∀ x ∈ l, x.length = n) → l.flatten.length = l.length * n
  | [], _ => by simp
  | e :: r, h => by rw [List.flatten_cons, List.length_append, flat_len fun x hx => h x (.tail _ hx), h e (.head _), List.length_cons, Nat.add_mul]; omega
theorem masses_len (l : List Mass) : ∀ x ∈ l.map Mass.cs, x.length = 4 := fun x hx => by obtain ⟨m, _, rfl⟩ := List.mem_map.1 hx; rfl
@[simp] theorem newObj_22 {f : Fr} {pl0 : Array (Nat × Operand)} : Kern.newObj TT (.buildSlice 22 1 pl0) f = ob (fillL f.eval (placesA 7 pl0.toList) (repeatL [.int .i64 0, .int .i64 0, .bool false, .int .i64 0, .int .i64 0, .int .i64 0, .int .i64 0] 1)) fun c => some (.cells c none) :=
  newObj_buildSlice 22 1 pl0 und_22 size_82 zero_82 rfl
@[simp] theorem newObj_58 {f : Fr} {pl0 : Array (Nat × Operand)} : Kern.newObj TT (.buildSlice 58 1 pl0) f = ob (fillL f.eval (placesA 4 pl0.toList) (repeatL [.int .i64 0, .int .i64 0, .int .i64 0, .int .i64 0] 1)) fun c => some (.cells c none) :=
  newObj_buildSlice 58 1 pl0 und_58 size_36 zero_36 rfl
theorem Fr.get_put_lt {f : Fr} {t m d : Nat} {v : Value} (h : t < m) (hd : m ≤ d) : (f.put (some d) v).get t = f.get t := by rw [Fr.get_put', if_neg (by omega)]
set_option maxRecDepth 100000 in
set_option maxHeartbeats 4000000 in
theorem made_ev (U K : Int) (ve vm : Value) (es : List (Int × Int)) (ms : List Int) (s : St) (hU : 0 ≤ U ∧ U < 256) (hes : EndsAt s ve es) (hms : BytesAt s vm ms) (hbe : ∀ e ∈ es, (0 ≤ e.1 ∧ e.1 < 256) ∧ (0 ≤ e.2 ∧ e.2 < 256)) (hbm : ∀ x ∈ ms, 0 ≤ x ∧ x < 256) :
    Ev TT 34 [millV U ve vm K] s fun r s' => Keep s s' ∧ ∃ (n : Nat) (w wr : Value), (n : Int) = 1 + U % 4 ∧ 1 ≤ n ∧ n ≤ 4 ∧ r = .tuple #[plantV n w, wr] ∧ OwnG 7 s.next s' w ((millFs n K ms es).map FlowD.cs) ∧ OwnG 4 s.next s' wr ((millReal n ms es).map Mass.cs) := by
  obtain ⟨ae, ce, rfl⟩ := hes.shape
  obtain ⟨am, cm, rfl⟩ := hms.shape
  rw [List.length_map] at hes hms ⊢
  rw [List.length_map]
  have hrem := intOp_rem .i64 U 4 hU.1 (by omega)
  obtain ⟨n, hn⟩ : ∃ n : Nat, (n : Int) = 1 + U % 4 := ⟨(1 + U % 4).toNat, by omega⟩
  have hn1 : 1 ≤ n := by omega
  have hn4 : n ≤ 4 := by omega
  unfold millV
  refine Ev.intro (fn := Try.f34) rfl (by kernel_rfl) rfl rfl ?_
  apply zz
  refine Cd.ra (h := ?_)
  apply Run.by_eq
  · intro self
    conv => lhs; simp -implicitDefEqProofs (maxSteps := 300000) (disch := omega) [-getElem?_pos, -getElem?_neg]
  try (with_reducible refine Run.ret ?_)
  apply zz
  refine Cd.ra (h := ?_)
  apply Run.by_eq
  · intro self
    conv => lhs; simp -implicitDefEqProofs (maxSteps := 300000) (disch := omega) [-getElem?_pos, -getElem?_neg, hrem]
  try (with_reducible refine Run.ret ?_)
  apply zz
  rw [← hn]
  apply zz
  refine Cd.ra (h := ?_)
  apply Run.by_eq
  · intro self
    conv => lhs; simp -implicitDefEqProofs (maxSteps := 300000) (disch := omega) [-getElem?_pos, -getElem?_neg]
  try (with_reducible refine Run.ret ?_)
  apply zz
  refine Cd.ra (h := ?_)
  apply Run.by_eq
  · intro self
    conv => lhs; simp -implicitDefEqProofs (maxSteps := 300000) (disch := omega) [-getElem?_pos, -getElem?_neg]
  try (with_reducible refine Run.ret ?_)
  apply zz
  refine Cd.ra (h := ?_)
  apply Run.by_eq
  · intro self
    conv => lhs; simp -implicitDefEqProofs (maxSteps := 300000) (disch := omega) [-getElem?_pos, -getElem?_neg]
  try (with_reducible refine Run.ret ?_)
  apply zz
  refine Cd.ra (h := ?_)
  apply Run.by_eq
  · intro self
    conv => lhs; simp -implicitDefEqProofs (maxSteps := 300000) (disch := omega) [-getElem?_pos, -getElem?_neg]
  try (with_reducible refine Run.ret ?_)
  apply zz
  refine Cd.ra (h := ?_)
  apply Run.by_eq
  · intro self
    conv => lhs; simp -implicitDefEqProofs (maxSteps := 300000) (disch := omega) [-getElem?_pos, -getElem?_neg]
  try (with_reducible refine Run.ret ?_)
  apply zz
  have hR0 : restL (fun _ => 0) = [.int .i64 0, .int .i64 0, .int .i64 0, .int .i64 0, .int .i64 0, .int .i64 0, .int .i64 0, .int .i64 0, .int .i64 0, .int .i64 0, .int .i64 0, .int .i64 0, .int .i64 0, .int .i64 0, .int .i64 0, .int .i64 0] := rfl
  refine Cd.mono (Q := fun x f s' => x = Ex.exit 0 ∧ ∃ w : Value, f.marks = [] ∧ f.get 1 = .pointer (some ⟨s.next, 0, none⟩) ∧ f.get 2 = .pointer (some ⟨s.next + 1, 0, none⟩) ∧ f.get 4 = .int .i64 n ∧ f.get 5 = .pointer (some ⟨s.next + 1 + 1, 0, none⟩) ∧ f.get 7 = .pointer (some ⟨s.next + 1 + 1 + 1, 0, none⟩) ∧
    Keep s s' ∧ s.next + 1 + 1 + 1 < s'.next ∧ s'.heap.get s.next = some (.cells [.int .u8 U, .slice ae es.length ce, .slice am ms.length cm, .int .u16 K] none) ∧ s'.heap.get (s.next + 1) = some (.cells [.int .i64 0, .slice none 0 0] none) ∧ s'.heap.get (s.next + 1 + 1) = some (.cells [.int .i64 n, w] none) ∧ s'.heap.get (s.next + 1 + 1 + 1) = some (.cells (restL (restR n ms es (millN es))) none) ∧
    OwnG 7 (s.next + 1 + 1 + 1 + 1) s' w (((List.range (millN es)).map fun j => millFlow n K ms j (eAt es j)).map FlowD.cs) ∧ OwnG 4 (s.next + 1 + 1 + 1 + 1) s' (f.get 6) (((List.range (millN es)).map fun j => massM ms j).map Mass.cs)) (Cd.inv (fun z f s' => ∃ (i : Nat) (w : Value), i ≤ millN es ∧ z = millN es - i ∧ f.marks = [] ∧ f.get 9 = .int .i64 i ∧ f.get 1 = .pointer (some ⟨s.next, 0, none⟩) ∧ f.get 2 = .pointer (some ⟨s.next + 1, 0, none⟩) ∧ f.get 4 = .int .i64 n ∧ f.get 5 = .pointer (some ⟨s.next + 1 + 1, 0, none⟩) ∧ f.get 7 = .pointer (some ⟨s.next + 1 + 1 + 1, 0, none⟩) ∧ f.get 8 = .func (.func 58) #[] #[.pointer (some ⟨s.next, 0, none⟩)] ∧
    Keep s s' ∧ s.next + 1 + 1 + 1 < s'.next ∧ s'.heap.get s.next = some (.cells [.int .u8 U, .slice ae es.length ce, .slice am ms.length cm, .int .u16 K] none) ∧ s'.heap.get (s.next + 1) = some (.cells [.int .i64 0, .slice none 0 0] none) ∧ s'.heap.get (s.next + 1 + 1) = some (.cells [.int .i64 n, w] none) ∧ s'.heap.get (s.next + 1 + 1 + 1) = some (.cells (restL (restR n ms es i)) none) ∧
    OwnG 7 (s.next + 1 + 1 + 1 + 1) s' w (((List.range i).map fun j => millFlow n K ms j (eAt es j)).map FlowD.cs) ∧ OwnG 4 (s.next + 1 + 1 + 1 + 1) s' (f.get 6) (((List.range i).map fun j => massM ms j).map Mass.cs)) (millN es) ?_ ?_) ?_
  · refine ⟨0, .slice none 0 0, by omega, rfl, by simp, by simp, by simp, by simp, by simp, by simp, by simp, by simp, ⟨by (try simp only [pushed_next', upded_next']); omega, fun i hi => by simp -implicitDefEqProofs (disch := omega) []⟩, by simp, ?_, ?_, ?_, ?_, .inl ⟨rfl, rfl⟩, .inl ⟨rfl, by simp⟩⟩
    · simp -implicitDefEqProofs (disch := omega)
    · simp -implicitDefEqProofs (disch := omega)
    · simp -implicitDefEqProofs (disch := omega)
    · show _ = some (AObj.cells (restL (fun _ => 0)) none)
      rw [hR0]
      simp -implicitDefEqProofs (disch := omega)
  rintro z f s' ⟨i, w, hi, rfl, hm, h9, h1, h2, h4, h5, h7, h8, hkp, hnx, hg0, hg1, hg2, hg3, hOF, hOR⟩
  have hkpa := hkp.1
  have hkpb := hkp.2
  have hN6 : millN es ≤ 6 := Nat.min_le_right _ _
  have hNl : millN es ≤ es.length := Nat.min_le_left _ _
  by_cases hlt : i < millN es
  · have hil : i < es.length := by omega
    have hi6 : ((i : Int) < 6) := by omega
    obtain ⟨e, he⟩ : ∃ e, es[i]? = some e := ⟨es[i], by simp [hil]⟩
    have hge := eAt_of he
    obtain ⟨⟨he1, he2⟩, he3, he4⟩ := hbe e (List.mem_of_getElem? he)
    obtain ⟨b, off, o, cs, gg, rfl, hb, ho, hc, ht0, ht1⟩ := EndsAt.at (hes.keep hkp) he
    have hr0 := intOp_rem .i64 e.1 ((n : Int) + 1) he1 (by omega)
    have hr1 := intOp_rem .i64 e.2 ((n : Int) + 1) he3 (by omega)
    have hE0 : e.1 % ((n : Int) + 1) - 1 = endI n e.1 := rfl
    have hE1 : e.2 % ((n : Int) + 1) - 1 = endI n e.2 := rfl
    have hm0 := Int.emod_nonneg e.1 (show (n : Int) + 1 ≠ 0 by omega)
    have hm0' := Int.emod_lt_of_pos e.1 (show 0 < (n : Int) + 1 by omega)
    have hm1 := Int.emod_nonneg e.2 (show (n : Int) + 1 ≠ 0 by omega)
    have hm1' := Int.emod_lt_of_pos e.2 (show 0 < (n : Int) + 1 by omega)
    have ve5 : veq 5 (Value.slice (some ⟨b, off, none⟩) es.length ce) (Value.slice (some ⟨b, off, none⟩) es.length ce) = true := veq_slice _ _ _ _ _
    generalize hF : endI n e.1 = F at hE0
    generalize hT : endI n e.2 = T0 at hE1
    generalize hB : bitB K i = B
    have hBe : decide (andB (shrB K i) = 1) = B := hB
    apply zz
    refine Cd.ra (h := ?_)
    apply Run.by_eq
    · intro self
      conv => lhs; simp -implicitDefEqProofs (maxSteps := 300000) (disch := omega) [-getElem?_pos, -getElem?_neg, h9, h1, hg0, hil, hi6]
    try (with_reducible refine Run.ret ?_)
    apply zz
    apply Cd.ite rfl
    · conv => lhs; simp -implicitDefEqProofs (maxSteps := 300000) (disch := omega) [-getElem?_pos, -getElem?_neg]
    all_goals intro c0
    all_goals try (cases c0; done)
    all_goals try simp only [Bool.not_eq_true', Bool.not_eq_false', decide_eq_true_eq, decide_eq_false_iff_not] at c0
    all_goals apply zz
    refine Cd.mono (Q := fun x f1 s1 => x = Ex.normal ∧ f1.marks = [] ∧ (∀ t : Nat, t < 10 → f1.get t = f.get t) ∧ f1.get 10 = .pointer (some ⟨s'.next, 0, none⟩) ∧ s1.next = s'.next + 1 ∧ Keep s' s1 ∧ s1.heap.get s'.next = some (.cells [.int .i64 F, .int .i64 T0, .bool B, .int .i64 0, .int .i64 0, .int .i64 0, .int .i64 0] none)) ?_ ?_
    · apply zz
      refine Cd.drawn (pl := [(0, 0, false, false), (1, 1, false, false), (2, 0, false, false), (3, 7, false, false), (4, 15, false, false), (5, 31, false, false), (6, 63, false, false), (7, 0, false, false), (8, 128, false, false), (9, 511, false, false), (10, 1023, false, false), (11, 0, false, false), (12, 2048, false, false), (13, 0, false, false), (14, 14336, false, false), (15, 30720, false, false), (16, 63488, false, false), (17, 129024, false, false), (18, 0, false, false), (19, 262144, false, false), (20, 1046528, false, false), (21, 2095104, false, false), (22, 0, false, false), (23, 4194304, false, false), (24, 0, false, false), (25, 29360128, false, false), (26, 62914560, false, false), (27, 130023424, false, false), (28, 268435455, false, false), (29, 0, false, true), (30, 1073741823, true, false)]) (by kernel_rfl) (by conv => lhs; simp only [List.map_cons, List.map_nil]) (by conv => lhs; simp [strip, ordered]) ?_
      apply Run.by_eq
      · intro self
        conv => lhs; simp -implicitDefEqProofs (maxSteps := 300000) (disch := omega) [filter_bt, (show ∀ i, Nat.testBit 1073741823 i = decide (i < 30) from fun i => Nat.testBit_two_pow_sub_one 30 i), -getElem?_pos, -getElem?_neg, h9, h1, h4, hg0, hil, ho, hc, ht0, ht1, hr0, hr1, hE0, hE1, hBe, ve5]
      try (with_reducible refine Run.ret ?_)
      apply zz
      exact ⟨rfl, by simp [hm], fun t ht => by (repeat rw [Fr.get_put_lt ht (by decide)]), by simp, by simp, ⟨by (try simp only [pushed_next', upded_next']); omega, fun i hi => by simp -implicitDefEqProofs (disch := omega) []⟩, by simp -implicitDefEqProofs (disch := omega)⟩
    rintro x f1 s1 ⟨rfl, hm1, hfk1, g10, hnx1, hk1, hg10⟩
    have hk1a := hk1.1
    have hk1b := hk1.2
    obtain ⟨TO, hTO⟩ : ∃ TO, TO = millTo n e := ⟨_, rfl⟩
    have hTOv : TO = if F = T0 then (F + 2) % ((n : Int) + 1) - 1 else T0 := by rw [hTO]; unfold millTo; rw [hF, hT]
    have hFr := @endI_range n e.1
    rw [hF] at hFr
    have hTr := @millTo_range n e
    rw [← hTO] at hTr
    have hFT : F ≠ TO := by rw [hTO, ← hF]; exact millTo_ne hn1
    refine SeqK.nm (Cd.seq (Cd.mono (Q := fun x f2 s2 => x = Ex.normal ∧ f2.marks = [] ∧ (∀ t : Nat, t < 11 → f2.get t = f1.get t) ∧ s2.next = s1.next ∧ (∀ j, j ≠ s'.next → s2.heap.get j = s1.heap.get j) ∧ s2.heap.get s'.next = some (.cells [.int .i64 F, .int .i64 TO, .bool B, .int .i64 0, .int .i64 0, .int .i64 0, .int .i64 0] none)) ?_ ?_))
    · have g4 := (hfk1 4 (by omega)).trans h4
      have hr2 := intOp_rem .i64 (F + 2) ((n : Int) + 1) (by omega) (by omega)
      have hq0 := Int.emod_nonneg (F + 2) (show (n : Int) + 1 ≠ 0 by omega)
      have hq1 := Int.emod_lt_of_pos (F + 2) (show 0 < (n : Int) + 1 by omega)
      apply zz
      refine Cd.ra (h := ?_)
      apply Run.by_eq
      · intro self
        conv => lhs; simp -implicitDefEqProofs (maxSteps := 300000) (disch := omega) [-getElem?_pos, -getElem?_neg, g10, hg10]
      try (with_reducible refine Run.ret ?_)
      apply zz
      apply Cd.ite rfl
      · conv => lhs; simp -implicitDefEqProofs (maxSteps := 300000) (disch := omega) [-getElem?_pos, -getElem?_neg]
      all_goals intro c1
      all_goals try (cases c1; done)
      all_goals try simp only [Bool.not_eq_true', Bool.not_eq_false', decide_eq_true_eq, decide_eq_false_iff_not] at c1
      all_goals apply zz
      · rw [if_pos c1] at hTOv
        apply zz
        refine Cd.ra (h := ?_)
        apply Run.by_eq
        · intro self
          conv => lhs; simp -implicitDefEqProofs (maxSteps := 300000) (disch := omega) [-getElem?_pos, -getElem?_neg, g10, g4, hg10, hr2]
        try (with_reducible refine Run.ret ?_)
        apply zz
        rw [← hTOv]
        exact ⟨rfl, by simp [hm1], fun t ht => by (repeat rw [Fr.get_put_lt ht (by decide)]), by simp, fun j hj => by simp -implicitDefEqProofs (disch := omega) [get_upded_other], by simp -implicitDefEqProofs (disch := omega) [hg10]⟩
      · rw [if_neg c1] at hTOv
        rw [← hTOv] at hg10
        exact ⟨rfl, by simp [hm1], fun t ht => by (repeat rw [Fr.get_put_lt ht (by decide)]), rfl, fun j hj => rfl, hg10⟩
    rintro x f2 s2 ⟨rfl, hm2, hfk2, hnx2, hk2, hG10⟩
    have p1 := ((hfk2 1 (by omega)).trans (hfk1 1 (by omega))).trans h1
    have p2 := ((hfk2 2 (by omega)).trans (hfk1 2 (by omega))).trans h2
    have p4 := ((hfk2 4 (by omega)).trans (hfk1 4 (by omega))).trans h4
    have p5 := ((hfk2 5 (by omega)).trans (hfk1 5 (by omega))).trans h5
    have p6 := (hfk2 6 (by omega)).trans (hfk1 6 (by omega))
    have p7 := ((hfk2 7 (by omega)).trans (hfk1 7 (by omega))).trans h7
    have p8 := ((hfk2 8 (by omega)).trans (hfk1 8 (by omega))).trans h8
    have p9 := ((hfk2 9 (by omega)).trans (hfk1 9 (by omega))).trans h9
    have p10 := (hfk2 10 (by omega)).trans g10
    have H0 := ((hk2 s.next (by omega)).trans (hk1b _ (by omega))).trans hg0
    have H1 := ((hk2 (s.next + 1) (by omega)).trans (hk1b _ (by omega))).trans hg1
    have H2 := ((hk2 (s.next + 1 + 1) (by omega)).trans (hk1b _ (by omega))).trans hg2
    have H3 := ((hk2 (s.next + 1 + 1 + 1) (by omega)).trans (hk1b _ (by omega))).trans hg3
    have hk2' : ∀ j, j < s'.next → s2.heap.get j = s'.heap.get j := fun j hj => (hk2 j (by omega)).trans (hk1b j hj)
    have hOF2 := hOF.keep (s' := s2) (by omega) fun j _ hj => hk2' j hj
    have hOR2 := hOR.keep (s' := s2) (by omega) fun j _ hj => hk2' j hj
    have hkp2 : Keep s s2 := ⟨by omega, fun j hj => (hk2' j (by omega)).trans (hkpb j hj)⟩
    have hN2 : s2.next = s'.next + 1 := by omega
    have hRS : restR n ms es (i + 1) = restK F TO ms i 4 (restR n ms es i) := by
      show restK (endI n (eAt es i).1) (millTo n (eAt es i)) ms i 4 (restR n ms es i) = _
      rw [hge, hF, hTO]
    have hFLW : millFlow n K ms i (eAt es i) = ⟨F, TO, B, if B = true then massM ms i else Mass.zero⟩ := by
      unfold millFlow
      rw [hge, hF, ← hTO, hB]
    clear hfk1 hfk2 hg0 hg1 hg2 hg3 hg10 h1 h2 h4 h5 h7 h8 h9 g10 hk2 hk1 hk1a hk1b hOF hOR ho hc ht0 ht1 hE0 hE1 hr0 hr1 hm0 hm0' hm1 hm1'
    obtain ⟨b10, hb10⟩ : ∃ b10, b10 = s'.next := ⟨_, rfl⟩
    rw [← hb10] at hG10 p10 hN2 hk2'
    have hb10' : s.next + 1 + 1 + 1 < b10 := by omega
    apply zz
    refine Cd.ra (h := ?_)
    apply Run.by_eq
    · intro self
      conv => lhs; simp -implicitDefEqProofs (maxSteps := 300000) (disch := omega) [-getElem?_pos, -getElem?_neg]
    try (with_reducible refine Run.ret ?_)
    apply zz
    refine Cd.ra (h := ?_)
    apply Run.by_eq
    · intro self
      conv => lhs; simp -implicitDefEqProofs (maxSteps := 300000) (disch := omega) [-getElem?_pos, -getElem?_neg]
    try (with_reducible refine Run.ret ?_)
    apply zz
    have hRb : ∀ p, -1536 ≤ restR n ms es i p ∧ restR n ms es i p ≤ 1536 := fun p => by
      have := restR_le (n := n) (es := es) hbm i p
      omega
    generalize restR n ms es i = R at hRb H3 hRS
    have hm0 : massL ms i 0 = [.int .i64 0, .int .i64 0, .int .i64 0, .int .i64 0] := rfl
    have hTO0 : TO = -1 ∨ 0 ≤ TO := by omega
    refine Cd.inv (fun z f s4 => ∃ k : Nat, k ≤ 4 ∧ z = 4 - k ∧ f.marks = [] ∧ f.get 77 = .int .i64 k ∧ (∀ t : Nat, t < 11 → f.get t = f2.get t) ∧ f.get 11 = .pointer (some ⟨b10 + 1, 0, none⟩) ∧ b10 + 1 < s4.next ∧ (∀ j, j ≤ b10 → j ≠ s.next + 1 + 1 + 1 → s4.heap.get j = s2.heap.get j) ∧ s4.heap.get (s.next + 1 + 1 + 1) = some (.cells (restL (restK F TO ms i k R)) none) ∧ s4.heap.get (b10 + 1) = some (.cells (massL ms i k) none)) 4 ?_ ?_
    · refine ⟨0, by omega, rfl, by simp [hm2], by simp, fun t ht => by (repeat rw [Fr.get_put_lt ht (by decide)]), by simp [hN2], by simp [hN2], fun j hj hj2 => ?_, ?_, ?_⟩
      · simp -implicitDefEqProofs (disch := omega)
      · rw [restK_zero]; simp -implicitDefEqProofs (disch := omega) [H3]
      · rw [hm0, ← hN2]; simp -implicitDefEqProofs (disch := omega)
    rintro z f4 s4 ⟨k, hk, rfl, hm4, g77, hf4, g11, hn4', ho4, hr4, hM4⟩
    have q1 := (hf4 1 (by omega)).trans p1
    have q7 := (hf4 7 (by omega)).trans p7
    have q8 := (hf4 8 (by omega)).trans p8
    have q9 := (hf4 9 (by omega)).trans p9
    have q10 := (hf4 10 (by omega)).trans p10
    have K0 := (ho4 s.next (by omega) (by omega)).trans H0
    have K10 := (ho4 b10 (by omega) (by omega)).trans hG10
    have hkp4 : Keep s s4 := ⟨by omega, fun j hj => (ho4 j (by omega) (by omega)).trans (hkp2.2 j hj)⟩
    have hkp4a := hkp4.1
    have hkp4b := hkp4.2
    by_cases hk4 : k < 4
    · have hmp := massL_put ms i hk4
      have hmg := massL_get ms i hk4
      have hml := mass1_le hbm i k
      have hK4 : ((k : Int) < 4) := by omega
      apply zz
      refine Cd.ra (h := ?_)
      apply Run.by_eq
      · intro self
        conv => lhs; simp -implicitDefEqProofs (maxSteps := 300000) (disch := omega) [-getElem?_pos, -getElem?_neg, g77]
      try (with_reducible refine Run.ret ?_)
      apply zz
      apply Cd.ite rfl
      · conv => lhs; simp -implicitDefEqProofs (maxSteps := 300000) (disch := omega) [-getElem?_pos, -getElem?_neg]
      all_goals intro c2
      all_goals try (cases c2; done)
      all_goals try simp only [Bool.not_eq_true', Bool.not_eq_false', decide_eq_true_eq, decide_eq_false_iff_not] at c2
      all_goals apply zz
      · apply zz
        refine Cd.ra (h := ?_)
        apply Run.by_eq
        · intro self
          conv => lhs; simp -implicitDefEqProofs (maxSteps := 300000) (disch := omega) [-getElem?_pos, -getElem?_neg, g77]
        try (with_reducible refine Run.ret ?_)
        apply zz
        refine Cd.ra (h := ?_)
        apply Run.by_eq
        · intro self
          conv => lhs; simp -implicitDefEqProofs (maxSteps := 300000) (disch := omega) [-getElem?_pos, -getElem?_neg, q8, q9]
        try (with_reducible refine Run.ret ?_)
        apply zz
        refine Run.call ((mass_ev U K (.slice (some ⟨b, off, none⟩) es.length ce) _ ms i k s.next _ (by omega) hk4 (by omega) (by simp -implicitDefEqProofs (disch := omega) [K0]) (hms.keep ⟨by (try simp only [pushed_next', upded_next']); omega, fun i hi => by simp -implicitDefEqProofs (disch := omega) [hkp4b]⟩) hbm).mono fun v wy hv => ?_)
        obtain ⟨rfl, y⟩ := hv
        have ya := y.1
        have yb := y.2
        try simp only [pushed_next', upded_next'] at ya yb
        have yb10 := (yb b10 (by omega)).trans K10
        have yb11 := (yb (b10 + 1) (by omega)).trans hM4
        have ybR := (yb (s.next + 1 + 1 + 1) (by omega)).trans hr4
        apply Run.by_eq
        · intro self
          conv => lhs; simp -implicitDefEqProofs (maxSteps := 300000) (disch := omega) [-getElem?_pos, -getElem?_neg, g11, yb11, hmp]
        try (with_reducible refine Run.ret ?_)
        apply zz
        have hRk := fun p => restK_le (fr := F) (to := TO) (i := i) (k := k) hbm hRb p
        apply zz
        refine Cd.ra (h := ?_)
        apply Run.by_eq
        · intro self
          conv => lhs; simp -implicitDefEqProofs (maxSteps := 300000) (disch := omega) [-getElem?_pos, -getElem?_neg, q10, yb10]
        try (with_reducible refine Run.ret ?_)
        apply zz
        refine Cd.mono (Q := fun x f5 s5 => x = Ex.normal ∧ f5.marks = [] ∧ f5.get 77 = .int .i64 k ∧ f5.get 12 = .int .i64 k ∧ (∀ t : Nat, t < 11 → f5.get t = f2.get t) ∧ f5.get 11 = .pointer (some ⟨b10 + 1, 0, none⟩) ∧ b10 + 1 < s5.next ∧ (∀ j, j ≤ b10 → j ≠ s.next + 1 + 1 + 1 → s5.heap.get j = s2.heap.get j) ∧ s5.heap.get (s.next + 1 + 1 + 1) = some (.cells (restL (restT TO ms i k (restK F TO ms i k R))) none) ∧ s5.heap.get (b10 + 1) = some (.cells (massL ms i (k + 1)) none)) ?_ ?_
        · apply zz
          apply Cd.ite rfl
          · conv => lhs; simp -implicitDefEqProofs (maxSteps := 300000) (disch := omega) [-getElem?_pos, -getElem?_neg]
          all_goals intro c3
          all_goals try (cases c3; done)
          all_goals try simp only [Bool.not_eq_true', Bool.not_eq_false', decide_eq_true_eq, decide_eq_false_iff_not] at c3
          all_goals apply zz
          · obtain ⟨t, rfl⟩ : ∃ t : Nat, TO = t := ⟨TO.toNat, by omega⟩
            have htk : t * 4 + k < 16 := by omega
            have hget := restL_get (restK F t ms i k R) htk
            have hput := restL_put (restK F t ms i k R) htk (restK F t ms i k R (t * 4 + k) + mass1 ms i k)
            have hput2 := restK_to (fr := F) (to := t) (ms := ms) (i := i) (R := R) hk4 (by omega) hFT
            rw [Int.toNat_natCast] at hput2
            rw [hput2, show (fun q => restK F t ms i k R q + (if ((q / 4 : Nat) : Int) = (t : Int) ∧ q % 4 = k then mass1 ms i (q % 4) else 0)) = restT t ms i k (restK F t ms i k R) from rfl] at hput
            have hRb1 := hRk (t * 4 + k)
            generalize restK F t ms i k R (t * 4 + k) = X at hget hput hRb1
            generalize mass1 ms i k = Y at hmg hml hput
            have ht4 : ((t : Int) < 4) := by omega
            apply zz
            refine Cd.drawnH (pl := [(0, 0, false, false), (1, 1, false, false), (2, 0, false, false), (3, 3, false, false), (4, 15, false, false), (5, 31, false, false), (6, 0, false, false), (7, 64, false, false), (8, 192, false, false), (9, 511, false, false), (10, 3, false, false), (11, 2047, false, false), (12, 4095, true, false)]) [false, false, false, false, false, false, false, false, false, false, false, false, false] (by kernel_rfl) (by decide) (by decide) (by conv => lhs; simp only [List.map_cons, List.map_nil]) (by conv => lhs; simp [strip, orderedG, flagH]) ?_
            apply Run.by_eq
            · intro self
              conv => lhs; simp -implicitDefEqProofs (maxSteps := 300000) (disch := omega) [-getElem?_pos, -getElem?_neg, q10, yb10, q7, g11, yb11, hmg, ybR, hget, hput, ht4]
            try (with_reducible refine Run.ret ?_)
            apply zz
            refine ⟨rfl, by simp [hm4], by simp [g77], by simp, fun t ht => by (repeat rw [Fr.get_put_lt ht (by decide)]); exact hf4 t ht, by simp [g11], by simp; omega, fun j hj hj2 => ?_, ?_, ?_⟩
            · simp -implicitDefEqProofs (disch := omega) [yb, ho4]
            · simp -implicitDefEqProofs (disch := omega)
            · simp -implicitDefEqProofs (disch := omega)
          · have hTn : TO = -1 := by omega
            refine ⟨rfl, by simp [hm4], by simp [g77], by simp, fun t ht => by (repeat rw [Fr.get_put_lt ht (by decide)]); exact hf4 t ht, by simp [g11], by simp; omega, fun j hj hj2 => ?_, ?_, ?_⟩
            · simp -implicitDefEqProofs (disch := omega) [yb, ho4]
            · have hz : restT TO ms i k (restK F TO ms i k R) = restK F TO ms i k R := funext fun q => restT_no (by omega)
              rw [hz]
              simp -implicitDefEqProofs (disch := omega) [ybR]
            · simp -implicitDefEqProofs (disch := omega)
        rintro x f5 s5 ⟨rfl, hm5, r77, r12, hf5, r11, hn5', ho5, hr5, hM5⟩
        have u7 := (hf5 7 (by omega)).trans p7
        have u10 := (hf5 10 (by omega)).trans p10
        have U10 := (ho5 b10 (by omega) (by omega)).trans hG10
        apply zz
        refine Cd.ra (h := ?_)
        apply Run.by_eq
        · intro self
          conv => lhs; simp -implicitDefEqProofs (maxSteps := 300000) (disch := omega) [-getElem?_pos, -getElem?_neg, u10, U10]
        try (with_reducible refine Run.ret ?_)
        apply zz
        apply Cd.ite rfl
        · conv => lhs; simp -implicitDefEqProofs (maxSteps := 300000) (disch := omega) [-getElem?_pos, -getElem?_neg]
        all_goals intro c4
        all_goals try (cases c4; done)
        all_goals try simp only [Bool.not_eq_true', Bool.not_eq_false', decide_eq_true_eq, decide_eq_false_iff_not] at c4
        all_goals apply zz
        · obtain ⟨t, rfl⟩ : ∃ t : Nat, F = t := ⟨F.toNat, by omega⟩
          have htk : t * 4 + k < 16 := by omega
          have hput := restL_put (restT TO ms i k (restK t TO ms i k R)) htk (restK t TO ms i k R (t * 4 + k) - mass1 ms i k)
          have hget := restL_get (restT TO ms i k (restK t TO ms i k R)) htk
          have hdm : (t * 4 + k) / 4 = t ∧ (t * 4 + k) % 4 = k := by omega
          rw [restT_no (fun h => hFT (by rw [← h.1, hdm.1]))] at hget
          have hput2 : (fun q => if q = t * 4 + k then restK t TO ms i k R (t * 4 + k) - mass1 ms i k else restT TO ms i k (restK t TO ms i k R) q) = restK t TO ms i (k + 1) R := by
            funext q
            rw [restT_next q]
            by_cases e : q = t * 4 + k
            · subst e
              rw [if_pos rfl, restT_no (fun h => hFT (by rw [← h.1, hdm.1])), hdm.1, hdm.2, if_pos ⟨rfl, rfl⟩]
            · rw [if_neg e, if_neg (show ¬ (((q / 4 : Nat) : Int) = t ∧ q % 4 = k) by omega)]; omega
          rw [hput2] at hput
          have hRb1 := hRk (t * 4 + k)
          generalize restK t TO ms i k R (t * 4 + k) = X at hget hput hRb1
          generalize mass1 ms i k = Y at hmg hml hput
          have ht4 : ((t : Int) < 4) := by omega
          apply zz
          refine Cd.drawnH (pl := [(0, 0, false, false), (1, 1, false, false), (2, 0, false, false), (3, 3, false, false), (4, 15, false, false), (5, 31, false, false), (6, 0, false, false), (7, 64, false, false), (8, 192, false, false), (9, 511, false, false), (10, 3, false, false), (11, 2047, false, false), (12, 4095, true, false)]) [false, false, false, false, false, false, false, false, false, false, false, false, false] (by kernel_rfl) (by decide) (by decide) (by conv => lhs; simp only [List.map_cons, List.map_nil]) (by conv => lhs; simp [strip, orderedG, flagH]) ?_
          apply Run.by_eq
          · intro self
            conv => lhs; simp -implicitDefEqProofs (maxSteps := 300000) (disch := omega) [-getElem?_pos, -getElem?_neg, u10, U10, u7, r11, r12, hM5, hmg, hr5, hget, hput, ht4]
          try (with_reducible refine Run.ret ?_)
          apply zz
          refine Cd.ra (h := ?_)
          apply Run.by_eq
          · intro self
            conv => lhs; simp -implicitDefEqProofs (maxSteps := 300000) (disch := omega) [-getElem?_pos, -getElem?_neg, r77]
          try (with_reducible refine Run.ret ?_)
          apply zz
          refine LoopK.nm (4 - (k + 1)) (by omega) ⟨k + 1, by omega, rfl, by simp [hm5], by simp, fun t ht => by (repeat rw [Fr.get_put_lt ht (by decide)]); exact hf5 t ht, by simp [r11], by simp; omega, fun j hj hj2 => ?_, ?_, ?_⟩
          · simp -implicitDefEqProofs (disch := omega) [ho5]
          · simp -implicitDefEqProofs (disch := omega)
          · simp -implicitDefEqProofs (disch := omega) [hM5]
        · have hz : restT TO ms i k (restK F TO ms i k R) = restK F TO ms i (k + 1) R := by
            funext q
            rw [restT_next q, if_neg (show ¬ (((q / 4 : Nat) : Int) = F ∧ q % 4 = k) by omega)]; omega
          rw [hz] at hr5
          apply zz
          refine Cd.ra (h := ?_)
          apply Run.by_eq
          · intro self
            conv => lhs; simp -implicitDefEqProofs (maxSteps := 300000) (disch := omega) [-getElem?_pos, -getElem?_neg, r77]
          try (with_reducible refine Run.ret ?_)
          apply zz
          exact LoopK.nm (4 - (k + 1)) (by omega) ⟨k + 1, by omega, rfl, by simp [hm5], by simp, fun t ht => by (repeat rw [Fr.get_put_lt ht (by decide)]); exact hf5 t ht, by simp [r11], by omega, ho5, hr5, hM5⟩
      · omega
    obtain rfl : k = 4 := by omega
    apply zz
    refine Cd.ra (h := ?_)
    apply Run.by_eq
    · intro self
      conv => lhs; simp -implicitDefEqProofs (maxSteps := 300000) (disch := omega) [-getElem?_pos, -getElem?_neg, g77]
    try (with_reducible refine Run.ret ?_)
    apply zz
    apply Cd.ite rfl
    · conv => lhs; simp -implicitDefEqProofs (maxSteps := 300000) (disch := omega) [-getElem?_pos, -getElem?_neg]
    all_goals intro c2
    all_goals try (cases c2; done)
    all_goals try simp only [Bool.not_eq_true', Bool.not_eq_false', decide_eq_true_eq, decide_eq_false_iff_not] at c2
    all_goals apply zz
    have hM4' : s4.heap.get (b10 + 1) = some (.cells [.int .i64 (massM ms i).a, .int .i64 (massM ms i).b, .int .i64 (massM ms i).c, .int .i64 (massM ms i).d] none) := hM4
    generalize hMM : massM ms i = MM at hM4' hFLW
    obtain ⟨M5, hM5⟩ : ∃ M5, M5 = if B = true then MM else Mass.zero := ⟨_, rfl⟩
    rw [← hM5] at hFLW
    apply zz
    refine Cd.ra (h := ?_)
    apply Run.by_eq
    · intro self
      conv => lhs; simp -implicitDefEqProofs (maxSteps := 300000) (disch := omega) [-getElem?_pos, -getElem?_neg, q10, K10]
    try (with_reducible refine Run.ret ?_)
    apply zz
    refine Cd.mono (Q := fun x f5 s5 => x = Ex.normal ∧ f5.marks = [] ∧ (∀ t : Nat, t < 11 → f5.get t = f2.get t) ∧ f5.get 11 = .pointer (some ⟨b10 + 1, 0, none⟩) ∧ s5.next = s4.next ∧ (∀ j, j ≠ b10 → s5.heap.get j = s4.heap.get j) ∧ s5.heap.get b10 = some (.cells [.int .i64 F, .int .i64 TO, .bool B, .int .i64 M5.a, .int .i64 M5.b, .int .i64 M5.c, .int .i64 M5.d] none)) ?_ ?_
    · apply zz
      apply Cd.ite rfl
      · conv => lhs; simp -implicitDefEqProofs (maxSteps := 300000) (disch := omega) [-getElem?_pos, -getElem?_neg]
      all_goals intro c5
      all_goals try (cases c5; done)
      all_goals try simp only [Bool.not_eq_true', Bool.not_eq_false', decide_eq_true_eq, decide_eq_false_iff_not] at c5
      all_goals apply zz
      · subst c5
        rw [if_pos rfl] at hM5
        subst hM5
        apply zz
        refine Cd.ra (h := ?_)
        apply Run.by_eq
        · intro self
          conv => lhs; simp -implicitDefEqProofs (maxSteps := 300000) (disch := omega) [-getElem?_pos, -getElem?_neg, q10, g11, hM4', K10]
        try (with_reducible refine Run.ret ?_)
        apply zz
        refine ⟨rfl, by simp [hm4], fun t ht => by (repeat rw [Fr.get_put_lt ht (by decide)]); exact hf4 t ht, by simp [g11], by simp, fun j hj => ?_, ?_⟩
        · simp -implicitDefEqProofs (disch := omega)
        · simp -implicitDefEqProofs (disch := omega)
      · subst c5
        rw [if_neg (by decide)] at hM5
        subst hM5
        exact ⟨rfl, by simp [hm4], fun t ht => by (repeat rw [Fr.get_put_lt ht (by decide)]); exact hf4 t ht, by simp [g11], rfl, fun j hj => rfl, K10⟩
    rintro x f5 s5 ⟨rfl, hm5, hf5, r11, hn5, ho5, hr5⟩
    have u1 := (hf5 1 (by omega)).trans p1
    have u2 := (hf5 2 (by omega)).trans p2
    have u4 := (hf5 4 (by omega)).trans p4
    have u5 := (hf5 5 (by omega)).trans p5
    have u6 := (hf5 6 (by omega)).trans p6
    have u7 := (hf5 7 (by omega)).trans p7
    have u8 := (hf5 8 (by omega)).trans p8
    have u9 := (hf5 9 (by omega)).trans p9
    have u10 := (hf5 10 (by omega)).trans p10
    have ho' : ∀ j, j < b10 → j ≠ s.next + 1 + 1 + 1 → s5.heap.get j = s2.heap.get j := fun j h1 h2 => (ho5 j (by omega)).trans (ho4 j (by omega) h2)
    have U0 := (ho' s.next (by omega) (by omega)).trans H0
    have U1 := (ho' (s.next + 1) (by omega) (by omega)).trans H1
    have U2 := (ho' (s.next + 1 + 1) (by omega) (by omega)).trans H2
    have U3 := (ho5 (s.next + 1 + 1 + 1) (by omega)).trans hr4
    have U11 := (ho5 (b10 + 1) (by omega)).trans hM4'
    have hkp5 : Keep s s5 := ⟨by omega, fun j hj => (ho' j (by omega) (by omega)).trans (hkp2.2 j hj)⟩
    have hkp5a := hkp5.1
    have hkp5b := hkp5.2
    rw [← hRS] at U3
    have hL1 : (((List.range i).map fun j => millFlow n K ms j (eAt es j)).map FlowD.cs).length = i := by simp
    have hL2 : (((List.range i).map fun j => massM ms j).map Mass.cs).length = i := by simp
    have hS1 : ((List.range (i + 1)).map fun j => millFlow n K ms j (eAt es j)).map FlowD.cs = ((List.range i).map fun j => millFlow n K ms j (eAt es j)).map FlowD.cs ++ [[.int .i64 F, .int .i64 TO, .bool B, .int .i64 M5.a, .int .i64 M5.b, .int .i64 M5.c, .int .i64 M5.d]] := by
      rw [List.range_succ, List.map_append, List.map_append]
      simp only [List.map_cons, List.map_nil, hFLW]
      rfl
    have hS2 : ((List.range (i + 1)).map fun j => massM ms j).map Mass.cs = ((List.range i).map fun j => massM ms j).map Mass.cs ++ [[.int .i64 MM.a, .int .i64 MM.b, .int .i64 MM.c, .int .i64 MM.d]] := by
      rw [List.range_succ, List.map_append, List.map_append]
      simp only [List.map_cons, List.map_nil, hMM]
      rfl
    have hfl1 := flat_len (flows_len ((List.range i).map fun j => millFlow n K ms j (eAt es j)))
    have hfl2 := flat_len (masses_len ((List.range i).map fun j => massM ms j))
    rw [hL1] at hfl1
    rw [hL2] at hfl2
    rw [← u6] at hOR2
    generalize ((List.range i).map fun j => millFlow n K ms j (eAt es j)).map FlowD.cs = L1 at hOF2 hL1 hS1 hfl1
    generalize ((List.range i).map fun j => massM ms j).map Mass.cs = L2 at hOR2 hL2 hS2 hfl2
    apply zz
    refine Cd.mono (Q := fun x f6 s6 => x = Ex.normal ∧ f6.marks = [] ∧ f6.get 1 = .pointer (some ⟨s.next, 0, none⟩) ∧ f6.get 2 = .pointer (some ⟨s.next + 1, 0, none⟩) ∧ f6.get 4 = .int .i64 n ∧ f6.get 5 = .pointer (some ⟨s.next + 1 + 1, 0, none⟩) ∧ f6.get 7 = .pointer (some ⟨s.next + 1 + 1 + 1, 0, none⟩) ∧ f6.get 8 = .func (.func 58) #[] #[.pointer (some ⟨s.next, 0, none⟩)] ∧ f6.get 9 = .int .i64 i ∧ Keep s s6 ∧ s.next + 1 + 1 + 1 < s6.next ∧ ∃ w',
      s6.heap.get s.next = some (.cells [.int .u8 U, .slice (some ⟨b, off, none⟩) es.length ce, .slice am ms.length cm, .int .u16 K] none) ∧ s6.heap.get (s.next + 1) = some (.cells [.int .i64 0, .slice none 0 0] none) ∧ s6.heap.get (s.next + 1 + 1) = some (.cells [.int .i64 n, w'] none) ∧ s6.heap.get (s.next + 1 + 1 + 1) = some (.cells (restL (restR n ms es (i + 1))) none) ∧
      OwnG 7 (s.next + 1 + 1 + 1 + 1) s6 w' (((List.range (i + 1)).map fun j => millFlow n K ms j (eAt es j)).map FlowD.cs) ∧ OwnG 4 (s.next + 1 + 1 + 1 + 1) s6 (f6.get 6) (((List.range (i + 1)).map fun j => massM ms j).map Mass.cs)) ?_ ?_
    · rcases hOF2 with ⟨e1, rfl⟩ | ⟨bw, rfl, hne1, hw1, hw2, hw3⟩
      · have hi0 : i = 0 := by rw [← hL1, e1]; rfl
        subst hi0
        rcases hOR2 with ⟨e2, ew⟩ | ⟨br, ew, hne2, hv1, hv2, hv3⟩
        · apply zz
          refine Cd.drawn (pl := [(0, 0, false, false), (1, 1, false, false), (2, 0, false, false), (3, 4, false, true), (5, 0, false, false), (6, 0, false, false), (7, 64, false, true), (4, 15, true, false), (9, 31, false, false), (8, 255, true, false), (10, 1023, true, false), (11, 2047, false, false)]) (by kernel_rfl) (by conv => lhs; simp only [List.map_cons, List.map_nil]) (by conv => lhs; simp [strip, ordered]) ?_
          apply Run.by_eq
          · intro self
            conv => lhs; simp -implicitDefEqProofs (maxSteps := 300000) (disch := omega) [filter_bt, (show ∀ i, Nat.testBit 15 i = decide (i < 4) from fun i => Nat.testBit_two_pow_sub_one 4 i), (show ∀ i, Nat.testBit 255 i = decide (i < 8) from fun i => Nat.testBit_two_pow_sub_one 8 i), (show ∀ i, Nat.testBit 1023 i = decide (i < 10) from fun i => Nat.testBit_two_pow_sub_one 10 i), -getElem?_pos, -getElem?_neg, u5, U2, u10, hr5, ew, r11, U11]
          try (with_reducible refine Run.ret ?_)
          apply zz
          refine ⟨rfl, by simp [hm5], by simp [u1], by simp [u2], by simp [u4], by simp [u5], by simp [u7], by simp [u8], by simp [u9], ⟨by (try simp only [pushed_next', upded_next']); omega, fun i hi => by simp -implicitDefEqProofs (disch := omega) [hkp5b]⟩, by (try simp only [pushed_next', upded_next']); omega, .slice (some ⟨s5.next + 1 + 1, 0, none⟩) (0 + 1) (0 + 1), ?_, ?_, ?_, ?_, ?_, ?_⟩
          · simp -implicitDefEqProofs (disch := omega) [U0]
          · simp -implicitDefEqProofs (disch := omega) [U1]
          · simp -implicitDefEqProofs (disch := omega)
          · simp -implicitDefEqProofs (disch := omega) [U3]
          · rw [hS1]
            refine OwnG.snoc hL1 (by omega) (by (try simp only [pushed_next', upded_next']); omega) ?_
            simp -implicitDefEqProofs (disch := omega) [e1]
          · rw [hS2]
            simp only [Fr.get_put', if_true]
            refine OwnG.snoc (b := s5.next + 1 + 1 + 1) hL2 (by omega) (by (try simp only [pushed_next', upded_next']); omega) ?_
            simp -implicitDefEqProofs (disch := omega) [e2]
        · exact absurd (List.eq_nil_of_length_eq_zero hL2) hne2
      · have hi0 : 0 < i := by rw [← hL1]; exact List.length_pos_iff.2 hne1
        rcases hOR2 with ⟨e2, ew⟩ | ⟨br, ew, hne2, hv1, hv2, hv3⟩
        · rw [e2] at hL2; simp at hL2; omega
        · rw [hL2] at ew
          rw [hL1] at U2
          have hbw : bw ≠ b10 := fun e => by rw [e, hG10] at hw3; simp at hw3
          have hbr : br ≠ b10 := fun e => by rw [e, hG10] at hv3; simp at hv3
          have hbb : bw ≠ br := fun e => by rw [e, hv3] at hw3; simp at hw3
          have hw5 := (ho' bw (by omega) (by omega)).trans hw3
          have hv5 := (ho' br (by omega) (by omega)).trans hv3
          have happ1 := appV_moreE (size := 7) (n := i) (b := bw) (b2 := s5.next) (old := L1.flatten) (s := (s5.pushed (.cells [.int .i64 F, .int .i64 TO, .bool B, .int .i64 M5.a, .int .i64 M5.b, .int .i64 M5.c, .int .i64 M5.d] none)).pushed (.cells [.int .i64 MM.a, .int .i64 MM.b, .int .i64 MM.c, .int .i64 MM.d] none)) (by simp -implicitDefEqProofs (disch := omega) [hw5]) hfl1 (by omega)
          have happ2 := appV_moreE (size := 4) (n := i) (b := br) (b2 := s5.next + 1) (old := L2.flatten) (s := ((((s5.pushed (.cells [.int .i64 F, .int .i64 TO, .bool B, .int .i64 M5.a, .int .i64 M5.b, .int .i64 M5.c, .int .i64 M5.d] none)).pushed (.cells [.int .i64 MM.a, .int .i64 MM.b, .int .i64 MM.c, .int .i64 MM.d] none)).upded bw .dead).pushed (.cells (L1.flatten ++ [.int .i64 F, .int .i64 TO, .bool B, .int .i64 M5.a, .int .i64 M5.b, .int .i64 M5.c, .int .i64 M5.d]) (some 7)))) (by simp -implicitDefEqProofs (disch := omega) [hv5]) hfl2 (by omega)
          apply zz
          refine Cd.drawn (pl := [(0, 0, false, false), (1, 1, false, false), (2, 0, false, false), (3, 4, false, true), (5, 0, false, false), (6, 0, false, false), (7, 64, false, true), (4, 15, true, false), (9, 31, false, false), (8, 255, true, false), (10, 1023, true, false), (11, 2047, false, false)]) (by kernel_rfl) (by conv => lhs; simp only [List.map_cons, List.map_nil]) (by conv => lhs; simp [strip, ordered]) ?_
          apply Run.by_eq
          · intro self
            conv => lhs; simp -implicitDefEqProofs (maxSteps := 300000) (disch := omega) [filter_bt, (show ∀ i, Nat.testBit 15 i = decide (i < 4) from fun i => Nat.testBit_two_pow_sub_one 4 i), (show ∀ i, Nat.testBit 255 i = decide (i < 8) from fun i => Nat.testBit_two_pow_sub_one 8 i), (show ∀ i, Nat.testBit 1023 i = decide (i < 10) from fun i => Nat.testBit_two_pow_sub_one 10 i), -getElem?_pos, -getElem?_neg, u5, U2, u10, hr5, ew, r11, U11, happ1, happ2]
          try (with_reducible refine Run.ret ?_)
          apply zz
          refine ⟨rfl, by simp [hm5], by simp [u1], by simp [u2], by simp [u4], by simp [u5], by simp [u7], by simp [u8], by simp [u9], ⟨by (try simp only [pushed_next', upded_next']); omega, fun i hi => by simp -implicitDefEqProofs (disch := omega) [hkp5b]⟩, by (try simp only [pushed_next', upded_next']); omega, .slice (some ⟨s5.next + 1 + 1, 0, none⟩) (i + 1) (i + 1), ?_, ?_, ?_, ?_, ?_, ?_⟩
          · simp -implicitDefEqProofs (disch := omega) [U0]
          · simp -implicitDefEqProofs (disch := omega) [U1]
          · simp -implicitDefEqProofs (disch := omega)
          · simp -implicitDefEqProofs (disch := omega) [U3]
          · rw [hS1]
            refine OwnG.snoc hL1 (by omega) (by (try simp only [pushed_next', upded_next']); omega) ?_
            simp -implicitDefEqProofs (disch := omega) []
          · rw [hS2]
            simp only [Fr.get_put', if_true]
            refine OwnG.snoc (b := s5.next + 1 + 1 + 1) hL2 (by omega) (by (try simp only [pushed_next', upded_next']); omega) ?_
            simp -implicitDefEqProofs (disch := omega) []
    rintro x f6 s6 ⟨rfl, hm6, t1, t2, t4, t5, t7, t8, t9, hkp6, hn6, w', T0', T1', T2', T3', hO1, hO2⟩
    apply zz
    refine Cd.ra (h := ?_)
    apply Run.by_eq
    · intro self
      conv => lhs; simp -implicitDefEqProofs (maxSteps := 300000) (disch := omega) [-getElem?_pos, -getElem?_neg, t9]
    try (with_reducible refine Run.ret ?_)
    apply zz
    exact LoopK.nm (millN es - (i + 1)) (by omega) ⟨i + 1, w', by omega, rfl, by simp [hm6], by simp, by simp [t1], by simp [t2], by simp [t4], by simp [t5], by simp [t7], by simp [t8], hkp6, hn6, T0', T1', T2', T3', hO1, by simpa using hO2⟩
  · obtain rfl : i = millN es := by omega
    have hx : f.marks = [] ∧ f.get 1 = .pointer (some ⟨s.next, 0, none⟩) ∧ f.get 2 = .pointer (some ⟨s.next + 1, 0, none⟩) ∧ f.get 4 = .int .i64 n ∧ f.get 5 = .pointer (some ⟨s.next + 1 + 1, 0, none⟩) ∧ f.get 7 = .pointer (some ⟨s.next + 1 + 1 + 1, 0, none⟩) := ⟨hm, h1, h2, h4, h5, h7⟩
    by_cases hil : millN es < es.length
    · have hi6 : ¬ ((millN es : Int) < 6) := by unfold millN at hil ⊢; omega
      apply zz
      refine Cd.ra (h := ?_)
      apply Run.by_eq
      · intro self
        conv => lhs; simp -implicitDefEqProofs (maxSteps := 300000) (disch := omega) [-getElem?_pos, -getElem?_neg, h9, h1, hg0, hil, hi6]
      try (with_reducible refine Run.ret ?_)
      apply zz
      apply Cd.ite rfl
      · conv => lhs; simp -implicitDefEqProofs (maxSteps := 300000) (disch := omega) [-getElem?_pos, -getElem?_neg]
      all_goals intro c0
      all_goals try (cases c0; done)
      all_goals try simp only [Bool.not_eq_true', Bool.not_eq_false', decide_eq_true_eq, decide_eq_false_iff_not] at c0
      all_goals apply zz
      exact ⟨rfl, w, by simp [hm], by simp [h1], by simp [h2], by simp [h4], by simp [h5], by simp [h7], hkp, hnx, hg0, hg1, hg2, hg3, hOF, by simpa using hOR⟩
    · apply zz
      refine Cd.ra (h := ?_)
      apply Run.by_eq
      · intro self
        conv => lhs; simp -implicitDefEqProofs (maxSteps := 300000) (disch := omega) [-getElem?_pos, -getElem?_neg, h9, h1, hg0, hil]
      try (with_reducible refine Run.ret ?_)
      apply zz
      apply Cd.ite rfl
      · conv => lhs; simp -implicitDefEqProofs (maxSteps := 300000) (disch := omega) [-getElem?_pos, -getElem?_neg]
      all_goals intro c0
      all_goals try (cases c0; done)
      all_goals try simp only [Bool.not_eq_true', Bool.not_eq_false', decide_eq_true_eq, decide_eq_false_iff_not] at c0
      all_goals apply zz
      exact ⟨rfl, w, by simp [hm], by simp [h1], by simp [h2], by simp [h4], by simp [h5], by simp [h7], hkp, hnx, hg0, hg1, hg2, hg3, hOF, by simpa using hOR⟩
  rintro x f s' ⟨rfl, w, hm, h1, h2, h4, h5, h7, hkp, hnx, hg0, hg1, hg2, hg3, hOF, hOR⟩
  have hRb : ∀ p, -1536 ≤ restR n ms es (millN es) p ∧ restR n ms es (millN es) p ≤ 1536 := fun p => by
    have := restR_le (n := n) (es := es) hbm (millN es) p
    have : millN es ≤ 6 := Nat.min_le_right _ _
    omega
  have hM6 : millN es ≤ 6 := Nat.min_le_right _ _
  have hEnd : millFs n K ms es = (List.range (millN es)).map (fun j => millFlow n K ms j (eAt es j)) ++ (List.range n).map (millLast K (restR n ms es (millN es))) := rfl
  have hEnd2 : millReal n ms es = (List.range (millN es)).map (fun j => massM ms j) ++ (List.range n).map (rowM (restR n ms es (millN es))) := rfl
  have hA1 : ((List.range (millN es)).map fun j => millFlow n K ms j (eAt es j)).length = millN es := by simp
  have hA2 : ((List.range (millN es)).map fun j => massM ms j).length = millN es := by simp
  generalize ((List.range (millN es)).map fun j => millFlow n K ms j (eAt es j)) = A1 at hOF hA1 hEnd
  generalize ((List.range (millN es)).map fun j => massM ms j) = A2 at hOR hA2 hEnd2
  generalize restR n ms es (millN es) = R at hRb hg3 hEnd hEnd2
  generalize millN es = M at hM6 hA1 hA2
  apply zz
  refine Cd.ra (h := ?_)
  apply Run.by_eq
  · intro self
    conv => lhs; simp -implicitDefEqProofs (maxSteps := 300000) (disch := omega) [-getElem?_pos, -getElem?_neg]
  try (with_reducible refine Run.ret ?_)
  apply zz
  refine Cd.inv (fun z f s' => ∃ (u : Nat) (w : Value), u ≤ n ∧ z = n - u ∧ f.marks = [] ∧ f.get 13 = .int .i64 u ∧ f.get 1 = .pointer (some ⟨s.next, 0, none⟩) ∧ f.get 2 = .pointer (some ⟨s.next + 1, 0, none⟩) ∧ f.get 4 = .int .i64 n ∧ f.get 5 = .pointer (some ⟨s.next + 1 + 1, 0, none⟩) ∧ f.get 7 = .pointer (some ⟨s.next + 1 + 1 + 1, 0, none⟩) ∧
    Keep s s' ∧ s.next + 1 + 1 + 1 < s'.next ∧ s'.heap.get s.next = some (.cells [.int .u8 U, .slice ae es.length ce, .slice am ms.length cm, .int .u16 K] none) ∧ s'.heap.get (s.next + 1) = some (.cells [.int .i64 0, .slice none 0 0] none) ∧ s'.heap.get (s.next + 1 + 1) = some (.cells [.int .i64 n, w] none) ∧ s'.heap.get (s.next + 1 + 1 + 1) = some (.cells (restL R) none) ∧
    OwnG 7 (s.next + 1 + 1 + 1 + 1) s' w ((A1 ++ (List.range u).map (millLast K R)).map FlowD.cs) ∧ OwnG 4 (s.next + 1 + 1 + 1 + 1) s' (f.get 6) ((A2 ++ (List.range u).map (rowM R)).map Mass.cs)) n ?_ ?_
  · exact ⟨0, w, by omega, rfl, by simp [hm], by simp, by simp [h1], by simp [h2], by simp [h4], by simp [h5], by simp [h7], hkp, hnx, hg0, hg1, hg2, hg3, by simpa using hOF, by simpa using hOR⟩
  clear hOF hOR hkp hnx hg0 hg1 hg2 hg3 hm h1 h2 h4 h5 h7
  clear w
  rintro z f0 s0 ⟨u, w, hu, rfl, hm, h13, h1, h2, h4, h5, h7, hkp, hnx, hg0, hg1, hg2, hg3, hOF, hOR⟩
  have hkpa := hkp.1
  have hkpb := hkp.2
  by_cases hlt : u < n
  · have hB6 : decide (andB (shrB K (6 + u)) = 1) = bitB K (6 + u) := rfl
    have h6u : (6 : Int) + (u : Int) = ((6 + u : Nat) : Int) := by push_cast; rfl
    generalize hB : bitB K (6 + u) = B at hB6
    generalize hv6 : 6 + u = v6 at hB6 h6u hB
    apply zz
    refine Cd.ra (h := ?_)
    apply Run.by_eq
    · intro self
      conv => lhs; simp -implicitDefEqProofs (maxSteps := 300000) (disch := omega) [-getElem?_pos, -getElem?_neg, h13, h4]
    try (with_reducible refine Run.ret ?_)
    apply zz
    apply Cd.ite rfl
    · conv => lhs; simp -implicitDefEqProofs (maxSteps := 300000) (disch := omega) [-getElem?_pos, -getElem?_neg]
    all_goals intro c0
    all_goals try (cases c0; done)
    all_goals try simp only [Bool.not_eq_true', Bool.not_eq_false', decide_eq_true_eq, decide_eq_false_iff_not] at c0
    all_goals apply zz
    · apply zz
      refine Cd.ra (h := ?_)
      apply Run.by_eq
      · intro self
        conv => lhs; simp -implicitDefEqProofs (maxSteps := 300000) (disch := omega) [-getElem?_pos, -getElem?_neg, h13, h1, hg0, h6u, hB6]
      try (with_reducible refine Run.ret ?_)
      apply zz
      refine Cd.ra (h := ?_)
      apply Run.by_eq
      · intro self
        conv => lhs; simp -implicitDefEqProofs (maxSteps := 300000) (disch := omega) [-getElem?_pos, -getElem?_neg]
      try (with_reducible refine Run.ret ?_)
      apply zz
      refine Cd.mono (Q := fun x f1 s1 => x = Ex.exit 6 ∧ f1.marks = [] ∧ (∀ t : Nat, t < 14 → f1.get t = f0.get t) ∧ f1.get 14 = .pointer (some ⟨s0.next, 0, none⟩) ∧ s1.next = s0.next + 1 ∧ (∀ j, j < s0.next → s1.heap.get j = s0.heap.get j) ∧ s1.heap.get s0.next = some (.cells [.int .i64 u, .int .i64 (-1), .bool (B && restOk R u 4), .int .i64 0, .int .i64 0, .int .i64 0, .int .i64 0] none)) (Cd.inv (fun z f1 s1 => ∃ k : Nat, k ≤ 4 ∧ z = 4 - k ∧ f1.marks = [] ∧ f1.get 145 = .int .i64 k ∧ (∀ t : Nat, t < 14 → f1.get t = f0.get t) ∧ f1.get 14 = .pointer (some ⟨s0.next, 0, none⟩) ∧ s1.next = s0.next + 1 ∧ (∀ j, j < s0.next → s1.heap.get j = s0.heap.get j) ∧ s1.heap.get s0.next = some (.cells [.int .i64 u, .int .i64 (-1), .bool (B && restOk R u k), .int .i64 0, .int .i64 0, .int .i64 0, .int .i64 0] none)) 4 ?_ ?_) ?_
      · refine ⟨0, by omega, rfl, by simp [hm], by simp, fun t ht => by (repeat rw [Fr.get_put_lt ht (by decide)]), by simp, by simp, fun j hj => ?_, ?_⟩
        · simp -implicitDefEqProofs (disch := omega)
        · simp -implicitDefEqProofs (disch := omega) [restOk]
      · rintro z f1 s1 ⟨k, hk, rfl, hm1, g145, hf1, g14, hn1', ho1, hr1⟩
        have q7 := (hf1 7 (by omega)).trans h7
        have q13 := (hf1 13 (by omega)).trans h13
        have K3 := (ho1 (s.next + 1 + 1 + 1) (by omega)).trans hg3
        by_cases hk4 : k < 4
        · have hro : restOk R u (k + 1) = (restOk R u k && decide (0 ≤ R (u * 4 + k))) := by
            unfold restOk
            rw [List.range_succ, List.all_append]; simp
          have hget := restL_get R (p := u * 4 + k) (by omega)
          have hu4 : ((u : Int) < 4) := by omega
          have hk4' : ((k : Int) < 4) := by omega
          apply zz
          refine Cd.ra (h := ?_)
          apply Run.by_eq
          · intro self
            conv => lhs; simp -implicitDefEqProofs (maxSteps := 300000) (disch := omega) [-getElem?_pos, -getElem?_neg, g145]
          try (with_reducible refine Run.ret ?_)
          apply zz
          apply Cd.ite rfl
          · conv => lhs; simp -implicitDefEqProofs (maxSteps := 300000) (disch := omega) [-getElem?_pos, -getElem?_neg]
          all_goals intro c1
          all_goals try (cases c1; done)
          all_goals try simp only [Bool.not_eq_true', Bool.not_eq_false', decide_eq_true_eq, decide_eq_false_iff_not] at c1
          all_goals apply zz
          · apply zz
            refine Cd.ra (h := ?_)
            apply Run.by_eq
            · intro self
              conv => lhs; simp -implicitDefEqProofs (maxSteps := 300000) (disch := omega) [-getElem?_pos, -getElem?_neg, g145]
            try (with_reducible refine Run.ret ?_)
            apply zz
            obtain ⟨V, hV⟩ : ∃ V, V = (B && restOk R u k) := ⟨_, rfl⟩
            rw [← hV] at hr1
            have hV2 : (B && restOk R u (k + 1)) = (V && decide (0 ≤ R (u * 4 + k))) := by rw [hro, hV, Bool.and_assoc]
            cases V with
            | false =>
              rw [Bool.false_and] at hV2
              apply zz
              refine Cd.ra (h := ?_)
              apply Run.by_eq
              · intro self
                conv => lhs; simp -implicitDefEqProofs (maxSteps := 300000) (disch := omega) [-getElem?_pos, -getElem?_neg, g14, hr1]
              try (with_reducible refine Run.ret ?_)
              apply zz
              refine Cd.ra (h := ?_)
              apply Run.by_eq
              · intro self
                conv => lhs; simp -implicitDefEqProofs (maxSteps := 300000) (disch := omega) [-getElem?_pos, -getElem?_neg, g145]
              try (with_reducible refine Run.ret ?_)
              apply zz
              refine LoopK.nm (4 - (k + 1)) (by omega) ⟨k + 1, by omega, rfl, by simp [hm1], by simp, fun t ht => by (repeat rw [Fr.get_put_lt ht (by decide)]); exact hf1 t ht, by simp [g14], by simp [hn1'], fun j hj => ?_, ?_⟩
              · simp -implicitDefEqProofs (disch := omega) [ho1]
              · rw [hV2]; simp -implicitDefEqProofs (disch := omega)
            | true =>
              rw [Bool.true_and] at hV2
              generalize R (u * 4 + k) = X at hget hV2
              apply zz
              refine Cd.ra (h := ?_)
              apply Run.by_eq
              · intro self
                conv => lhs; simp -implicitDefEqProofs (maxSteps := 300000) (disch := omega) [-getElem?_pos, -getElem?_neg, g14, hr1, q13, q7, K3, hget, hu4, hk4']
              try (with_reducible refine Run.ret ?_)
              apply zz
              refine Cd.ra (h := ?_)
              apply Run.by_eq
              · intro self
                conv => lhs; simp -implicitDefEqProofs (maxSteps := 300000) (disch := omega) [-getElem?_pos, -getElem?_neg, g145]
              try (with_reducible refine Run.ret ?_)
              apply zz
              refine LoopK.nm (4 - (k + 1)) (by omega) ⟨k + 1, by omega, rfl, by simp [hm1], by simp, fun t ht => by (repeat rw [Fr.get_put_lt ht (by decide)]); exact hf1 t ht, by simp [g14], by simp [hn1'], fun j hj => ?_, ?_⟩
              · simp -implicitDefEqProofs (disch := omega) [ho1]
              · rw [hV2]; simp -implicitDefEqProofs (disch := omega)
          · omega
        · obtain rfl : k = 4 := by omega
          apply zz
          refine Cd.ra (h := ?_)
          apply Run.by_eq
          · intro self
            conv => lhs; simp -implicitDefEqProofs (maxSteps := 300000) (disch := omega) [-getElem?_pos, -getElem?_neg, g145]
          try (with_reducible refine Run.ret ?_)
          apply zz
          apply Cd.ite rfl
          · conv => lhs; simp -implicitDefEqProofs (maxSteps := 300000) (disch := omega) [-getElem?_pos, -getElem?_neg]
          all_goals intro c1
          all_goals try (cases c1; done)
          all_goals try simp only [Bool.not_eq_true', Bool.not_eq_false', decide_eq_true_eq, decide_eq_false_iff_not] at c1
          all_goals apply zz
          exact ⟨rfl, by simp [hm1], fun t ht => by (repeat rw [Fr.get_put_lt ht (by decide)]); exact hf1 t ht, by simp [g14], hn1', ho1, hr1⟩
      rintro x f1 s1 ⟨rfl, hm1, hf1, g14, hn1', ho1, hr1⟩
      obtain ⟨V, hV⟩ : ∃ V, V = (B && restOk R u 4) := ⟨_, rfl⟩
      rw [← hV] at hr1
      obtain ⟨MM, hMM⟩ : ∃ MM, MM = rowM R u := ⟨_, rfl⟩
      obtain ⟨M5, hM5⟩ : ∃ M5, M5 = if V = true then MM else Mass.zero := ⟨_, rfl⟩
      have hFLW : millLast K R u = ⟨u, -1, V, M5⟩ := by unfold millLast; rw [hv6, hB, ← hV, ← hMM, hM5]
      have q7 := (hf1 7 (by omega)).trans h7
      have q13 := (hf1 13 (by omega)).trans h13
      have K3 := (ho1 (s.next + 1 + 1 + 1) (by omega)).trans hg3
      have hu4 : ((u : Int) < 4) := by omega
      have hrow : takeL 4 ((restL R).drop (u * 4)) = some [.int .i64 MM.a, .int .i64 MM.b, .int .i64 MM.c, .int .i64 MM.d] := by
        rw [hMM]
        have : u < 4 := by omega
        match u, this with
        | 0, _ => rfl
        | 1, _ => rfl
        | 2, _ => rfl
        | 3, _ => rfl
      apply zz
      refine Cd.ra (h := ?_)
      apply Run.by_eq
      · intro self
        conv => lhs; simp -implicitDefEqProofs (maxSteps := 300000) (disch := omega) [-getElem?_pos, -getElem?_neg, g14, hr1]
      try (with_reducible refine Run.ret ?_)
      apply zz
      refine Cd.mono (Q := fun x f2 s2 => x = Ex.normal ∧ f2.marks = [] ∧ (∀ t : Nat, t < 14 → f2.get t = f0.get t) ∧ f2.get 14 = .pointer (some ⟨s0.next, 0, none⟩) ∧ s2.next = s0.next + 1 ∧ (∀ j, j < s0.next → s2.heap.get j = s0.heap.get j) ∧ s2.heap.get s0.next = some (.cells [.int .i64 u, .int .i64 (-1), .bool V, .int .i64 M5.a, .int .i64 M5.b, .int .i64 M5.c, .int .i64 M5.d] none)) ?_ ?_
      · apply zz
        apply Cd.ite rfl
        · conv => lhs; simp -implicitDefEqProofs (maxSteps := 300000) (disch := omega) [-getElem?_pos, -getElem?_neg]
        all_goals intro c5
        all_goals try (cases c5; done)
        all_goals try simp only [Bool.not_eq_true', Bool.not_eq_false', decide_eq_true_eq, decide_eq_false_iff_not] at c5
        all_goals apply zz
        · subst c5
          rw [if_pos rfl] at hM5
          subst hM5
          apply zz
          refine Cd.ra (h := ?_)
          apply Run.by_eq
          · intro self
            conv => lhs; simp -implicitDefEqProofs (maxSteps := 300000) (disch := omega) [-getElem?_pos, -getElem?_neg, g14, hr1, q13, q7, K3, hrow, hu4]
          try (with_reducible refine Run.ret ?_)
          apply zz
          refine ⟨rfl, by simp [hm1], fun t ht => by (repeat rw [Fr.get_put_lt ht (by decide)]); exact hf1 t ht, by simp [g14], by simp [hn1'], fun j hj => ?_, ?_⟩
          · simp -implicitDefEqProofs (disch := omega) [ho1]
          · simp -implicitDefEqProofs (disch := omega)
        · subst c5
          rw [if_neg (by decide)] at hM5
          subst hM5
          exact ⟨rfl, by simp [hm1], fun t ht => by (repeat rw [Fr.get_put_lt ht (by decide)]); exact hf1 t ht, by simp [g14], hn1', ho1, hr1⟩
      rintro x f2 s2 ⟨rfl, hm2, hf2, r14, hn2, ho2, hr2⟩
      have u1 := (hf2 1 (by omega)).trans h1
      have u2 := (hf2 2 (by omega)).trans h2
      have u4 := (hf2 4 (by omega)).trans h4
      have u5 := (hf2 5 (by omega)).trans h5
      have u6 := hf2 6 (by omega)
      have u7 := (hf2 7 (by omega)).trans h7
      have u13 := (hf2 13 (by omega)).trans h13
      have U0 := (ho2 s.next (by omega)).trans hg0
      have U1 := (ho2 (s.next + 1) (by omega)).trans hg1
      have U2 := (ho2 (s.next + 1 + 1) (by omega)).trans hg2
      have U3 := (ho2 (s.next + 1 + 1 + 1) (by omega)).trans hg3
      have hkp2 : Keep s s2 := ⟨by omega, fun j hj => (ho2 j (by omega)).trans (hkpb j hj)⟩
      have hkp2a := hkp2.1
      have hkp2b := hkp2.2
      rw [← u6] at hOR
      have hL1 : ((A1 ++ (List.range u).map (millLast K R)).map FlowD.cs).length = M + u := by simp [hA1]
      have hL2 : ((A2 ++ (List.range u).map (rowM R)).map Mass.cs).length = M + u := by simp [hA2]
      have hS1 : (A1 ++ (List.range (u + 1)).map (millLast K R)).map FlowD.cs = (A1 ++ (List.range u).map (millLast K R)).map FlowD.cs ++ [[.int .i64 u, .int .i64 (-1), .bool V, .int .i64 M5.a, .int .i64 M5.b, .int .i64 M5.c, .int .i64 M5.d]] := by
        rw [show (List.range (u + 1)).map (millLast K R) = (List.range u).map (millLast K R) ++ [millLast K R u] by rw [List.range_succ, List.map_append]; rfl, ← List.append_assoc, List.map_append (l₁ := A1 ++ (List.range u).map (millLast K R))]
        simp only [List.map_cons, List.map_nil, hFLW]
        rfl
      have hS2 : (A2 ++ (List.range (u + 1)).map (rowM R)).map Mass.cs = (A2 ++ (List.range u).map (rowM R)).map Mass.cs ++ [[.int .i64 MM.a, .int .i64 MM.b, .int .i64 MM.c, .int .i64 MM.d]] := by
        rw [show (List.range (u + 1)).map (rowM R) = (List.range u).map (rowM R) ++ [rowM R u] by rw [List.range_succ, List.map_append]; rfl, ← List.append_assoc, List.map_append (l₁ := A2 ++ (List.range u).map (rowM R))]
        simp only [List.map_cons, List.map_nil, ← hMM]
        rfl
      have hfl1 := flat_len (flows_len (A1 ++ (List.range u).map (millLast K R)))
      have hfl2 := flat_len (masses_len (A2 ++ (List.range u).map (rowM R)))
      rw [hL1] at hfl1
      rw [hL2] at hfl2
      generalize (A1 ++ (List.range u).map (millLast K R)).map FlowD.cs = L1 at hOF hL1 hS1 hfl1
      generalize (A2 ++ (List.range u).map (rowM R)).map Mass.cs = L2 at hOR hL2 hS2 hfl2
      apply zz
      refine Cd.mono (Q := fun x f6 s6 => x = Ex.normal ∧ f6.marks = [] ∧ f6.get 13 = .int .i64 u ∧ f6.get 1 = .pointer (some ⟨s.next, 0, none⟩) ∧ f6.get 2 = .pointer (some ⟨s.next + 1, 0, none⟩) ∧ f6.get 4 = .int .i64 n ∧ f6.get 5 = .pointer (some ⟨s.next + 1 + 1, 0, none⟩) ∧ f6.get 7 = .pointer (some ⟨s.next + 1 + 1 + 1, 0, none⟩) ∧ Keep s s6 ∧ s.next + 1 + 1 + 1 < s6.next ∧ ∃ w',
        s6.heap.get s.next = some (.cells [.int .u8 U, .slice ae es.length ce, .slice am ms.length cm, .int .u16 K] none) ∧ s6.heap.get (s.next + 1) = some (.cells [.int .i64 0, .slice none 0 0] none) ∧ s6.heap.get (s.next + 1 + 1) = some (.cells [.int .i64 n, w'] none) ∧ s6.heap.get (s.next + 1 + 1 + 1) = some (.cells (restL R) none) ∧
        OwnG 7 (s.next + 1 + 1 + 1 + 1) s6 w' ((A1 ++ (List.range (u + 1)).map (millLast K R)).map FlowD.cs) ∧ OwnG 4 (s.next + 1 + 1 + 1 + 1) s6 (f6.get 6) ((A2 ++ (List.range (u + 1)).map (rowM R)).map Mass.cs)) ?_ ?_
      · rcases hOF with ⟨e1, rfl⟩ | ⟨bw, rfl, hne1, hw1, hw2, hw3⟩
        · have hMu : M + u = 0 := by rw [← hL1, e1]; rfl
          rcases hOR with ⟨e2, ew⟩ | ⟨br, ew, hne2, hv1, hv2, hv3⟩
          · apply zz
            refine Cd.drawn (pl := [(0, 0, false, false), (1, 1, false, false), (2, 0, false, false), (3, 4, false, true), (5, 0, false, false), (6, 0, false, false), (7, 64, false, false), (8, 192, false, false), (9, 448, false, true), (4, 15, true, false), (11, 31, false, false), (10, 1023, true, false), (12, 4095, true, false), (13, 8191, false, false)]) (by kernel_rfl) (by conv => lhs; simp only [List.map_cons, List.map_nil]) (by conv => lhs; simp [strip, ordered]) ?_
            apply Run.by_eq
            · intro self
              conv => lhs; simp -implicitDefEqProofs (maxSteps := 300000) (disch := omega) [filter_bt, (show ∀ i, Nat.testBit 15 i = decide (i < 4) from fun i => Nat.testBit_two_pow_sub_one 4 i), (show ∀ i, Nat.testBit 1023 i = decide (i < 10) from fun i => Nat.testBit_two_pow_sub_one 10 i), (show ∀ i, Nat.testBit 4095 i = decide (i < 12) from fun i => Nat.testBit_two_pow_sub_one 12 i), -getElem?_pos, -getElem?_neg, u5, U2, r14, hr2, ew, u13, u7, U3, hrow, hu4]
            try (with_reducible refine Run.ret ?_)
            apply zz
            refine ⟨rfl, by simp [hm2], by simp [u13], by simp [u1], by simp [u2], by simp [u4], by simp [u5], by simp [u7], ⟨by (try simp only [pushed_next', upded_next']); omega, fun i hi => by simp -implicitDefEqProofs (disch := omega) [hkp2b]⟩, by (try simp only [pushed_next', upded_next']); omega, .slice (some ⟨s2.next + 1 + 1, 0, none⟩) (M + u + 1) (M + u + 1), ?_, ?_, ?_, ?_, ?_, ?_⟩
            · simp -implicitDefEqProofs (disch := omega) [U0]
            · simp -implicitDefEqProofs (disch := omega) [U1]
            · simp -implicitDefEqProofs (disch := omega) [hMu]
            · simp -implicitDefEqProofs (disch := omega) [U3]
            · rw [hS1]
              refine OwnG.snoc hL1 (by omega) (by (try simp only [pushed_next', upded_next']); omega) ?_
              simp -implicitDefEqProofs (disch := omega) [e1]
            · rw [hS2]
              simp only [Fr.get_put', if_true, hMu]
              refine OwnG.snoc (b := s2.next + 1 + 1 + 1) (hL2.trans hMu) (by omega) (by (try simp only [pushed_next', upded_next']); omega) ?_
              simp -implicitDefEqProofs (disch := omega) [e2]
          · exact absurd (List.eq_nil_of_length_eq_zero (by rw [hL2, hMu])) hne2
        · have hi0 : 0 < M + u := by rw [← hL1]; exact List.length_pos_iff.2 hne1
          rcases hOR with ⟨e2, ew⟩ | ⟨br, ew, hne2, hv1, hv2, hv3⟩
          · rw [e2] at hL2; simp at hL2; omega
          · rw [hL2] at ew
            rw [hL1] at U2
            have hbb : bw ≠ br := fun e => by rw [e, hv3] at hw3; simp at hw3
            have hw5 := (ho2 bw (by omega)).trans hw3
            have hv5 := (ho2 br (by omega)).trans hv3
            have happ1 := appV_moreE (size := 7) (n := M + u) (b := bw) (b2 := s2.next) (old := L1.flatten) (s := (s2.pushed (.cells [.int .i64 u, .int .i64 (-1), .bool V, .int .i64 M5.a, .int .i64 M5.b, .int .i64 M5.c, .int .i64 M5.d] none)).pushed (.cells [.int .i64 MM.a, .int .i64 MM.b, .int .i64 MM.c, .int .i64 MM.d] none)) (by simp -implicitDefEqProofs (disch := omega) [hw5]) hfl1 (by omega)
            have happ2 := appV_moreE (size := 4) (n := M + u) (b := br) (b2 := s2.next + 1) (old := L2.flatten) (s := ((((s2.pushed (.cells [.int .i64 u, .int .i64 (-1), .bool V, .int .i64 M5.a, .int .i64 M5.b, .int .i64 M5.c, .int .i64 M5.d] none)).pushed (.cells [.int .i64 MM.a, .int .i64 MM.b, .int .i64 MM.c, .int .i64 MM.d] none)).upded bw .dead).pushed (.cells (L1.flatten ++ [.int .i64 u, .int .i64 (-1), .bool V, .int .i64 M5.a, .int .i64 M5.b, .int .i64 M5.c, .int .i64 M5.d]) (some 7)))) (by simp -implicitDefEqProofs (disch := omega) [hv5]) hfl2 (by omega)
            apply zz
            refine Cd.drawn (pl := [(0, 0, false, false), (1, 1, false, false), (2, 0, false, false), (3, 4, false, true), (5, 0, false, false), (6, 0, false, false), (7, 64, false, false), (8, 192, false, false), (9, 448, false, true), (4, 15, true, false), (11, 31, false, false), (10, 1023, true, false), (12, 4095, true, false), (13, 8191, false, false)]) (by kernel_rfl) (by conv => lhs; simp only [List.map_cons, List.map_nil]) (by conv => lhs; simp [strip, ordered]) ?_
            apply Run.by_eq
            · intro self
              conv => lhs; simp -implicitDefEqProofs (maxSteps := 300000) (disch := omega) [filter_bt, (show ∀ i, Nat.testBit 15 i = decide (i < 4) from fun i => Nat.testBit_two_pow_sub_one 4 i), (show ∀ i, Nat.testBit 1023 i = decide (i < 10) from fun i => Nat.testBit_two_pow_sub_one 10 i), (show ∀ i, Nat.testBit 4095 i = decide (i < 12) from fun i => Nat.testBit_two_pow_sub_one 12 i), -getElem?_pos, -getElem?_neg, u5, U2, r14, hr2, ew, u13, u7, U3, hrow, hu4, happ1, happ2]
            try (with_reducible refine Run.ret ?_)
            apply zz
            refine ⟨rfl, by simp [hm2], by simp [u13], by simp [u1], by simp [u2], by simp [u4], by simp [u5], by simp [u7], ⟨by (try simp only [pushed_next', upded_next']); omega, fun i hi => by simp -implicitDefEqProofs (disch := omega) [hkp2b]⟩, by (try simp only [pushed_next', upded_next']); omega, .slice (some ⟨s2.next + 1 + 1, 0, none⟩) (M + u + 1) (M + u + 1), ?_, ?_, ?_, ?_, ?_, ?_⟩
            · simp -implicitDefEqProofs (disch := omega) [U0]
            · simp -implicitDefEqProofs (disch := omega) [U1]
            · simp -implicitDefEqProofs (disch := omega)
            · simp -implicitDefEqProofs (disch := omega) [U3]
            · rw [hS1]
              refine OwnG.snoc hL1 (by omega) (by (try simp only [pushed_next', upded_next']); omega) ?_
              simp -implicitDefEqProofs (disch := omega) []
            · rw [hS2]
              simp only [Fr.get_put', if_true]
              refine OwnG.snoc (b := s2.next + 1 + 1 + 1) hL2 (by omega) (by (try simp only [pushed_next', upded_next']); omega) ?_
              simp -implicitDefEqProofs (disch := omega) []
      rintro x f6 s6 ⟨rfl, hm6, t13, t1, t2, t4, t5, t7, hkp6, hn6, w', T0', T1', T2', T3', hO1, hO2⟩
      apply zz
      refine Cd.ra (h := ?_)
      apply Run.by_eq
      · intro self
        conv => lhs; simp -implicitDefEqProofs (maxSteps := 300000) (disch := omega) [-getElem?_pos, -getElem?_neg, t13]
      try (with_reducible refine Run.ret ?_)
      apply zz
      exact LoopK.nm (n - (u + 1)) (by omega) ⟨u + 1, w', by omega, rfl, by simp [hm6], by simp, by simp [t1], by simp [t2], by simp [t4], by simp [t5], by simp [t7], hkp6, hn6, T0', T1', T2', T3', hO1, by simpa using hO2⟩
    · omega
  · obtain rfl : u = n := by omega
    rw [← hEnd] at hOF
    rw [← hEnd2] at hOR
    have hw1 : oneV w = true := by rcases hOF with ⟨_, rfl⟩ | ⟨_, rfl, _⟩ <;> rfl
    apply zz
    refine Cd.ra (h := ?_)
    apply Run.by_eq
    · intro self
      conv => lhs; simp -implicitDefEqProofs (maxSteps := 300000) (disch := omega) [-getElem?_pos, -getElem?_neg, h13, h4]
    try (with_reducible refine Run.ret ?_)
    apply zz
    apply Cd.ite rfl
    · conv => lhs; simp -implicitDefEqProofs (maxSteps := 300000) (disch := omega) [-getElem?_pos, -getElem?_neg]
    all_goals intro c0
    all_goals try (cases c0; done)
    all_goals try simp only [Bool.not_eq_true', Bool.not_eq_false', decide_eq_true_eq, decide_eq_false_iff_not] at c0
    all_goals apply zz
    apply zz
    refine Cd.ra (h := ?_)
    apply Run.by_eq
    · intro self
      conv => lhs; simp -implicitDefEqProofs (maxSteps := 300000) (disch := omega) [-getElem?_pos, -getElem?_neg, h5, hg2, h2, hg1, hw1]
    try (with_reducible refine Run.ret ?_)
    apply zz
    apply Leave.mk (by first | exact .inl rfl | exact .inr rfl) (by simp only [Fr.marks_put, fr0_marks, hm, h2])
    · conv => lhs; simp -implicitDefEqProofs (disch := omega) [Try.results34, hm, h2]
    refine ⟨⟨by (try simp only [pushed_next', upded_next']); omega, fun i hi => by simp -implicitDefEqProofs (disch := omega) [hkpb]⟩, u, w, f0.get 6, rfl, hn1, hn4, rfl, ?_, ?_⟩
    · rcases hOF with ⟨h, h'⟩ | ⟨b, h, h', hb1, hb2, hb3⟩
      · exact .inl ⟨h, h'⟩
      · exact .inr ⟨b, h, h', by omega, hb2, by rw [get_upded_other _ _ _ _ (by omega)]; exact hb3⟩
    · rcases hOR with ⟨h, h'⟩ | ⟨b, h, h', hb1, hb2, hb3⟩
      · exact .inl ⟨h, h'⟩
      · exact .inr ⟨b, h, h', by omega, hb2, by rw [get_upded_other _ _ _ _ (by omega)]; exact hb3⟩
end Go.Proofs.Ytjehpgflhgpalaa
namespace Go.Proofs.Ytjehpgflhgpalaa
open Go Kern
/-! Bits of a byte, and sets of units -/
def shr8 (K : Int) (i : Nat) : Int := K.fdiv (2 ^ (min i IntKind.u8.bits))
def and8 (x : Int) : Int := IntKind.u8.wrap ((BitVec.ofInt IntKind.u8.bits x &&& BitVec.ofInt IntKind.u8.bits 1).toNat : Nat)
@[simp] theorem intOp_and8 (x : Int) : intOp .and .u8 x (.u8, 1) = some (.int .u8 (and8 x)) := by
  show gd (kindEq .u8 .u8) _ = _
  rw [kindEq_refl]; rfl
@[simp] theorem intOp_shr8 (K : Int) (m : Nat) : intOp .shr .u8 K (.i64, (m : Int)) = some (.int .u8 (shr8 K m)) := rfl
def bit8 (K : Int) (i : Nat) : Bool := decide (and8 (shr8 K i) = 1)
/-- Units in ascending order, of the first k. -/
structure UnitsTo (k : Nat) (xs : List Int) : Prop where
  sorted : xs.Pairwise (· < ·)
  range : ∀ x ∈ xs, 0 ≤ x ∧ x < k
  len : xs.length ≤ k
theorem UnitsTo.nil : UnitsTo 0 [] := ⟨.nil, fun x h => by (cases h), Nat.le_refl _⟩
theorem UnitsTo.err {n : Nat} {xs : List Int} {fs : List FlowD} (h : UnitsTo n xs) (hck : checkErr n fs = 0) (hne : xs ≠ []) : unitsErr n fs xs = 0 := by
  unfold unitsErr
  rw [if_neg (by omega), if_neg (by simpa using hne)]
  refine firstNZ_zero fun j _ hj => ?_
  have hj : j < xs.length := by omega
  have hx : xs.getD j 0 = xs[j] := by rw [List.getD_eq_getElem?_getD, List.getElem?_eq_getElem hj]; rfl
  have hr := h.range _ (List.getElem_mem hj)
  unfold unitAt
  rw [hx, show unitB n xs[j] = true by unfold unitB; simp; omega]
  simp only [Bool.not_true, Bool.false_eq_true, if_false]
  rw [if_neg]
  rintro ⟨h0, hle⟩
  have hx1 : xs.getD (j - 1) 0 = xs[j - 1] := by rw [List.getD_eq_getElem?_getD, List.getElem?_eq_getElem (show j - 1 < xs.length by omega)]; rfl
  have := List.pairwise_iff_getElem.1 h.sorted (j - 1) j (by omega) hj (by omega)
  omega
def Mass.put (m : Mass) (q : Nat) (x : Int) : Mass := match q with
  | 0 => ⟨x, m.b, m.c, m.d⟩
  | 1 => ⟨m.a, x, m.c, m.d⟩
  | 2 => ⟨m.a, m.b, x, m.d⟩
  | _ => ⟨m.a, m.b, m.c, x⟩
theorem Mass.put_cs {f : FlowD} {q : Nat} (hq : q < 4) (x : Int) : putL (3 + q) [.int .i64 x] f.cs = some (FlowD.cs ⟨f.fr, f.to, f.me, f.m.put q x⟩) := by
  match q, hq with
  | 0, _ => rfl
  | 1, _ => rfl
  | 2, _ => rfl
  | 3, _ => rfl
end Go.Proofs.Ytjehpgflhgpalaa
namespace Go.Proofs.Ytjehpgflhgpalaa
open Go Kern
/-! What is met by rounds over the flows that are not measured -/
def stepJ (lo : Int) (fs : List FlowD) (M : Nat → Bool) (i : Nat) (j : Nat) : Bool := match fs[i]? with
  | some f => if (!f.me && !decide ((i : Int) = lo) && (M (f.fr + 1).toNat || M (f.to + 1).toNat)) = true then (if j = (f.to + 1).toNat then true else if j = (f.fr + 1).toNat then true else M j) else M j
  | none => M j
def passJ (lo : Int) (fs : List FlowD) (M : Nat → Bool) : Nat → Nat → Bool
  | 0 => M
  | k + 1 => stepJ lo fs (passJ lo fs M k) k
def metJ (lo : Int) (fs : List FlowD) (a : Int) : Nat → Nat → Bool
  | 0 => fun j => decide (j = (a + 1).toNat)
  | r + 1 => passJ lo fs (metJ lo fs a r) fs.length
section
variable {lo : Int} {fs : List FlowD} {M : Nat → Bool} {a : Int} {n : Nat}
/-- Each flow has both ends or none. -/
def ShutJ (lo : Int) (fs : List FlowD) (M : Nat → Bool) : Prop := ∀ (i : Nat) (f : FlowD), fs[i]? = some f → Unm fs lo i → (M (f.fr + 1).toNat = true ↔ M (f.to + 1).toNat = true)
def cntJ (M : Nat → Bool) (l : List Nat) : Nat := (l.filter M).length
end
end Go.Proofs.Ytjehpgflhgpalaa
namespace Go.Proofs.Ytjehpgflhgpalaa
open Go Kern
/-! The law's own question whether ends are joined -/
def cellsB (m : Nat) (M : Nat → Bool) : List Value := (List.range m).map fun j => Value.bool (M j)
def orAt (M : Nat → Bool) (p j : Nat) : Bool := if j = p then true else M j
end Go.Proofs.Ytjehpgflhgpalaa
namespace Go.Proofs.Ytjehpgflhgpalaa
open Go Kern
end Go.Proofs.Ytjehpgflhgpalaa
namespace Go.Proofs.Ytjehpgflhgpalaa
open Go Kern
/-! What is true of a plant with a balance -/
theorem realF_le {n : Nat} {ms : List Int} {es : List (Int × Int)} (hb : ∀ x ∈ ms, 0 ≤ x ∧ x < 256) (j : Nat) : (realF n ms es j).le 1536 := by
  unfold realF
  split
  · have h0 := mass1_le hb j 0
    have h1 := mass1_le hb j 1
    have h2 := mass1_le hb j 2
    have h3 := mass1_le hb j 3
    unfold massM Mass.le
    simp only []
    omega
  · have h6 := millN_le es
    have hr := fun p => restR_le (n := n) (es := es) hb (millN es) p
    have h0 := hr ((j - millN es) * 4)
    have h1 := hr ((j - millN es) * 4 + 1)
    have h2 := hr ((j - millN es) * 4 + 2)
    have h3 := hr ((j - millN es) * 4 + 3)
    unfold rowM Mass.le
    simp only []
    omega
/-- What Close tells of a flow with a balance: its state. -/
def stB (fs : List FlowD) (j : Nat) (f : FlowD) : Int := if f.me = true then 1 else if rtF j fs 0 id f.fr = rtF j fs 0 id f.to then 3 else 2
theorem knB_at {fs : List FlowD} {n : Nat} {R : Nat → Mass} (h : BalF fs n R) {j : Nat} {f : FlowD} (hf : fs[j]? = some f) : knB fs R j = ⟨stB fs j f, if stB fs j f = 3 then Mass.zero else R j⟩ := by
  unfold knB stB
  rw [hf]
  simp only []
  by_cases hm : f.me = true
  · rw [if_pos hm, if_pos hm, if_neg (by decide), h.meas j f hf hm]
  · rw [if_neg hm, if_neg hm]
    by_cases hd : rtF j fs 0 id f.fr = rtF j fs 0 id f.to
    · rw [if_pos hd, if_pos hd, if_pos rfl]
    · rw [if_neg hd, if_neg hd, if_neg (by decide)]
end Go.Proofs.Ytjehpgflhgpalaa
namespace Go.Proofs.Ytjehpgflhgpalaa
open Go Kern
/-- Any masses that a program can hold. -/
def Mass.w64 (m : Mass) : Prop := (-9223372036854775808 ≤ m.a ∧ m.a ≤ 9223372036854775807) ∧ (-9223372036854775808 ≤ m.b ∧ m.b ≤ 9223372036854775807) ∧ (-9223372036854775808 ≤ m.c ∧ m.c ≤ 9223372036854775807) ∧ (-9223372036854775808 ≤ m.d ∧ m.d ≤ 9223372036854775807)
theorem flows_flat (fs : List FlowD) : (fs.map FlowD.cs).flatten = flatG (fun j => (fs.getD j fd0).cs) fs.length := by
  unfold flatG
  rw [← map_getD FlowD.cs fd0 fs]
theorem set_flat {fs : List FlowD} {k : Nat} {f g : FlowD} {off : Nat} {vs : List Value} (hk : fs[k]? = some f) (h : putL off vs f.cs = some g.cs) : putL (k * 7 + off) vs (flatF fs) = some (flatF (fs.set k g)) := by
  have hlt := (List.getElem?_eq_some_iff.1 hk).1
  unfold flatF
  rw [flows_flat, flatG_putAt (N := 7) (fun j => rfl) (x := g.cs) (by rw [getD_at hk]; exact h) hlt, flows_flat, List.length_set]
  congr 1
  refine flatG_congr fun j hj => ?_
  by_cases e : j = k
  · subst e; rw [if_pos rfl, getD_at (set_at hk)]
  · rw [if_neg e]; simp [List.getD, set_ne e]
theorem flow_get {fs : List FlowD} {k : Nat} {f : FlowD} (hk : fs[k]? = some f) : takeL 7 ((flatF fs).drop (k * 7)) = some f.cs := by
  have hlt := (List.getElem?_eq_some_iff.1 hk).1
  unfold flatF
  rw [flows_flat, flatG_get (g := fun j => (fs.getD j fd0).cs) (N := 7) (fun j => rfl) hlt, getD_at hk]
theorem fl_of_flat {fs : List FlowD} {s : St} {b len c : Nat} {o : Option Nat} (h2 : b < s.next) (hl : fs.length = len) (h3 : s.heap.get b = some (.cells (flatF fs) o)) : FlAt s (.slice (some ⟨b, 0, none⟩) len c) fs := by
  have := sl_of_cells (n := 7) (c := c) h2 (flows_len fs) h3
  rw [List.length_map, hl] at this
  exact this
/-- What Fill says. -/
def fillErr (u : Int) (fs : List FlowD) (fl : Int) (m : Mass) : Int := if closeErr u fs ≠ 0 then closeErr u fs else if fl < 0 ∨ (fs.length : Int) ≤ fl then 5 else
  if ((closeF fs u.toNat fl.toNat).st ≠ 3 ∧ (closeF fs u.toNat fl.toNat).m ≠ m) ∨ eachB m (-1000000000) 1000000000 = false then 22 else 0
end Go.Proofs.Ytjehpgflhgpalaa
namespace Go.Proofs.Ytjehpgflhgpalaa
open Go Kern
abbrev KnAt (s : St) (v : Value) (ks : List KnownD) : Prop := SlAt 5 s v (ks.map KnownD.cs)
theorem KnAt.at {s : St} {a : Option Addr} {m c : Nat} {ks : List KnownD} (h : KnAt s (.slice a m c) ks) {k : Nat} {x : KnownD} (hk : ks[k]? = some x) :
    ∃ b off o cs g, a = some ⟨b, off, none⟩ ∧ b < s.next ∧ s.heap.get b = some o ∧ cellsOf o = some (cs, g) ∧ takeL 5 (cs.drop (off + k * 5)) = some x.cs :=
  SlAt.at h (by rw [List.getElem?_map, hk]; rfl)
theorem takeL_part {α : Type} {n k : Nat} {l : List α} {a : α} {r : List α} (h : takeL (k + 1) (l.drop n) = some (a :: r)) : l[n]? = some a ∧ takeL k (l.drop (n + 1)) = some r := by
  have h0 := takeL_at h (i := 0) (by omega)
  rw [List.getElem?_drop] at h0
  refine ⟨by simpa using h0, ?_⟩
  cases hl : l.drop n with
  | nil => rw [hl] at h; cases h
  | cons x t =>
    rw [hl] at h
    obtain ⟨t', h1, h2⟩ := ob_eq (show ob (takeL k t) (fun t => some (x :: t)) = some (a :: r) from h)
    cases h2
    rw [← List.drop_drop, hl]
    exact h1
end Go.Proofs.Ytjehpgflhgpalaa
namespace Go.Proofs.Ytjehpgflhgpalaa
open Go Kern
end Go.Proofs.Ytjehpgflhgpalaa
namespace Go.Proofs.Ytjehpgflhgpalaa
open Go Kern
/-! Parts by who is joined -/
/-- What was seen of the first u units: whether some part has an excess. -/
def SeenC (fs : List FlowD) (n u : Nat) (cl : Bool) : Prop := cl = true ↔ ∃ k, k < u ∧ isLead (rtF (-1) fs 0 id) n k = true ∧ excM (clsN (rtF (-1) fs 0 id) k n) fs ≠ Mass.zero
theorem SeenC.err {fs : List FlowD} {n : Nat} {cl : Bool} (h : SeenC fs n n cl) (hck : checkErr n fs = 0) : closeErr n fs = if cl = true then 12 else 0 := by
  by_cases hc : cl = true
  · rw [if_pos hc]
    obtain ⟨k, a, b, c⟩ := h.1 hc
    rcases closeErr_or hck with h0 | h0
    · exact absurd ((closeErr_zero h0).2 k a b) c
    · exact h0
  · rw [if_neg hc]
    rcases closeErr_or hck with h0 | h0
    · exact h0
    · exfalso
      apply hc
      unfold closeErr at h0
      rw [if_neg (by simp [hck])] at h0
      cases hp : provF (rtF (-1) fs 0 id) fs (n : Int).toNat (n : Int).toNat 0 with
      | none => rw [hp] at h0; cases h0
      | some p =>
        obtain ⟨k, hk, hat⟩ := provF_some hp
        unfold provAt at hat
        split at hat
        · rename_i hL
          refine h.2 ⟨k, by simpa using hk, by simpa using hL, fun hz => ?_⟩
          simp only [Int.toNat_natCast] at hat
          rw [hz] at hat
          cases hat
        · cases hat
end Go.Proofs.Ytjehpgflhgpalaa
namespace Go.Proofs.Ytjehpgflhgpalaa
open Go Kern
theorem mass_at_le {m : Mass} {B : Int} {q : Nat} (h : m.le B) : -B ≤ m.at q ∧ m.at q ≤ B := by
  unfold Mass.le at h
  unfold Mass.at
  split <;> omega
end Go.Proofs.Ytjehpgflhgpalaa
namespace Go.Proofs.Ytjehpgflhgpalaa
open Go Kern
/-! A flow is measured in addition: what is known of the others -/
theorem closeErr_of {n : Nat} {fs : List FlowD} (hck : checkErr n fs = 0) (h : ∀ k : Nat, k < n → isLead (rtF (-1) fs 0 id) n k = true → excM (clsN (rtF (-1) fs 0 id) k n) fs = Mass.zero) : closeErr n fs = 0 := by
  have hS : SeenC fs n n false := by
    unfold SeenC
    exact ⟨fun h => (by cases h), fun ⟨k, a, b, c⟩ => absurd (h k a b) c⟩
  have := hS.err hck
  rwa [if_neg (by decide)] at this
/-- A balance that is found is one. -/
theorem bal_ex {n : Nat} {fs : List FlowD} (hck : checkErr n fs = 0) (hce : closeErr n fs = 0) : ∃ B, BalF fs n B := by
  obtain ⟨B, hS⟩ := settled_ex hck
  refine ⟨B, hS.meas, fun u hu => ?_⟩
  have hne := checkErr_ne hck
  have hz := settled_zero hS (ends_in hck) hne (closeErr_zero hce).2 hu
  unfold netB netx at hz
  rw [excM_sum, ← sumN_add] at hz
  refine Eq.trans ?_ hz
  refine sumN_congr fun j hj => ?_
  have hg : fs[j]? = some fs[j] := List.getElem?_eq_getElem hj
  rw [hg, if_neg (by omega)]
  unfold contr
  rw [hg]
  simp only []
  rw [bringsL_one (hne _ (List.getElem_mem hj))]
  cases hm : fs[j].me with
  | true =>
    have hc : chB fs j = false := by rw [chB_some hg, hm]; rfl
    rw [hc, if_pos rfl, if_neg (by decide), Mass.add_zero, hS.meas j _ hg hm]
  | false =>
    rw [if_neg (by decide), Mass.zero_add]
    cases hc : chB fs j with
    | true => rw [if_pos rfl]
    | false => rw [if_neg (by decide), hS.rest j _ hg hm hc, brings_zero]
section
variable {fs : List FlowD} {n i : Nat} {f : FlowD} {m : Mass}
theorem meas_path (hf : fs[i]? = some f) {E : Nat → Prop} {x y : Int} (h : Path (fs.set i (meas f m)) E x y) : Path fs E x y := by
  induction h with
  | refl => exact .refl
  | step j g _ hj he hz ih =>
    by_cases e : j = i
    · subst e
      rw [set_at hf] at hj; cases hj
      exact .step j f ih hf he hz
    · rw [set_ne e] at hj
      exact .step j g ih hj he hz
theorem path_meas (hf : fs[i]? = some f) {E : Nat → Prop} {x y : Int} (h : Path fs E x y) : Path (fs.set i (meas f m)) E x y := by
  induction h with
  | refl => exact .refl
  | step j g _ hj he hz ih =>
    by_cases e : j = i
    · subst e
      rw [hf] at hj; cases hj
      exact .step j (meas f m) ih (set_at hf) he hz
    · exact .step j g ih ((set_ne e).trans hj) he hz
theorem meas_unm (hf : fs[i]? = some f) {lo : Int} {j : Nat} : Unm (fs.set i (meas f m)) lo j ↔ Unm fs lo j ∧ j ≠ i := by
  unfold Unm
  constructor
  · rintro ⟨⟨g, hg, hm⟩, h⟩
    by_cases e : j = i
    · subst e; rw [set_at hf] at hg; cases hg; cases hm
    · rw [set_ne e] at hg
      exact ⟨⟨⟨g, hg, hm⟩, h⟩, e⟩
  · rintro ⟨⟨⟨g, hg, hm⟩, h⟩, e⟩
    exact ⟨⟨g, (set_ne e).trans hg, hm⟩, h⟩
theorem meas_join (hf : fs[i]? = some f) {lo x y : Int} (h : rtF lo (fs.set i (meas f m)) 0 id x = rtF lo (fs.set i (meas f m)) 0 id y) : rtF lo fs 0 id x = rtF lo fs 0 id y := by
  rw [rt_path_all] at h ⊢
  exact (meas_path hf h).mono fun j g _ he => ((meas_unm hf).1 he).1
/-- What is found when it is measured, too, is no part of a ring. -/
theorem join_meas (hf : fs[i]? = some f) (hm : f.me = false) (hd : rtF i fs 0 id f.fr ≠ rtF i fs 0 id f.to) {j : Nat} {g : FlowD} (hj : fs[j]? = some g) (hg : g.me = false) (hji : j ≠ i) (h : rtF j fs 0 id g.fr = rtF j fs 0 id g.to) :
    rtF j (fs.set i (meas f m)) 0 id g.fr = rtF j (fs.set i (meas f m)) 0 id g.to := by
  rw [rt_path_all] at h ⊢
  rw [ne_eq, rt_path_all] at hd
  have hE : Path fs (fun l => (Unm fs j l ∧ l ≠ i) ∨ l = i) g.fr g.to := h.mono fun l _ _ he => by
    by_cases e : l = i
    · exact .inr e
    · exact .inl ⟨he, e⟩
  have hin : ∀ {x y : Int}, Path fs (fun l => Unm fs j l ∧ l ≠ i) x y → Path fs (Unm fs i) x y := fun p => p.mono fun l _ _ he => ⟨he.1.1, by have := he.2; omega⟩
  have hgp : Path fs (Unm fs i) g.fr g.to := Path.one hj ⟨⟨g, hj, hg⟩, by omega⟩
  rcases hE.split hf with p | ⟨p, q⟩ | ⟨p, q⟩
  · exact (path_meas hf p).mono fun l _ _ he => (meas_unm hf).2 he
  · exact absurd ((hin p).symm.trans (hgp.trans (hin q).symm)) hd
  · exact absurd ((hin q).trans (hgp.symm.trans (hin p))) hd
/-- A balance of the plant with the flow measured is one of the plant. -/
theorem bal_less {B : Nat → Mass} (h : BalF (fs.set i (meas f m)) n B) (hf : fs[i]? = some f) (hm : f.me = false) : BalF fs n B := by
  constructor
  · intro j g hj hg
    by_cases e : j = i
    · subst e; rw [hf] at hj; cases hj; rw [hm] at hg; cases hg
    · exact h.meas j g ((set_ne e).trans hj) hg
  · intro u hu
    refine Eq.trans ?_ (h.nets u hu)
    rw [List.length_set]
    refine sumN_congr fun j hj => ?_
    by_cases e : j = i
    · subst e; rw [set_at hf, hf]; rfl
    · rw [set_ne e]
theorem bal_more {R : Nat → Mass} (h : BalF fs n R) (hf : fs[i]? = some f) (hR : R i = m) : BalF (fs.set i (meas f m)) n R := by
  constructor
  · intro j g hj hg
    by_cases e : j = i
    · subst e; rw [set_at hf] at hj; cases hj; exact hR
    · rw [set_ne e] at hj
      exact h.meas j g hj hg
  · intro u hu
    refine Eq.trans ?_ (h.nets u hu)
    rw [List.length_set]
    refine sumN_congr fun j hj => ?_
    by_cases e : j = i
    · subst e; rw [set_at hf, hf]; rfl
    · rw [set_ne e]
/-- The plant with the flow measured has a balance, too. -/
theorem more_bal {R : Nat → Mass} (hck : checkErr n fs = 0) (hb : BalF fs n R) (hf : fs[i]? = some f) (hm : f.me = false) (hck2 : checkErr n (fs.set i (meas f m)) = 0) (hR : stB fs i f = 3 ∨ R i = m) : ∃ B, BalF (fs.set i (meas f m)) n B := by
  rcases hR with h3 | hR
  · refine bal_ex hck2 (closeErr_of hck2 (set_zero (bal_close hck hb) hf (.inl ?_)))
    rw [closeF_bal hck hb, knB_at hb hf]
    exact h3
  · exact ⟨R, bal_more hb hf hR⟩
/-- What is known of the others is as it was. -/
theorem more_same {R : Nat → Mass} (hck : checkErr n fs = 0) (hb : BalF fs n R) (hf : fs[i]? = some f) (hm : f.me = false) (hck2 : checkErr n (fs.set i (meas f m)) = 0) (hR : stB fs i f = 3 ∨ R i = m) {j : Nat} {g : FlowD} (hj : fs[j]? = some g) (hji : j ≠ i) (hs : stB fs j g ≠ 3 ∨ stB fs i f = 2) :
    closeF (fs.set i (meas f m)) n j = closeF fs n j := by
  obtain ⟨B, hB⟩ := more_bal hck hb hf hm hck2 hR
  have hB' := bal_less hB hf hm
  have hj' : (fs.set i (meas f m))[j]? = some g := (set_ne hji).trans hj
  rw [closeF_bal hck2 hB, closeF_bal hck hB', knB_at hB hj', knB_at hB' hj]
  have : stB (fs.set i (meas f m)) j g = stB fs j g := by
    unfold stB at hs ⊢
    by_cases hg : g.me = true
    · rw [if_pos hg, if_pos hg]
    · have hg' : g.me = false := by simpa using hg
      rw [if_neg hg, if_neg hg]
      rw [if_neg hg, if_neg (show ¬ f.me = true by rw [hm]; decide)] at hs
      by_cases hd : rtF j fs 0 id g.fr = rtF j fs 0 id g.to
      · rw [if_pos hd] at hs ⊢
        have h2 := hs.resolve_left (by simp)
        have hdi : rtF i fs 0 id f.fr ≠ rtF i fs 0 id f.to := fun e => by rw [if_pos e] at h2; cases h2
        rw [if_pos (join_meas hf hm hdi hj hg' hji hd)]
      · rw [if_neg hd, if_neg fun e => hd (meas_join hf e)]
  rw [this]
end
end Go.Proofs.Ytjehpgflhgpalaa
namespace Go.Proofs.Ytjehpgflhgpalaa
open Go Kern
/-! Comparison of what is known of flows -/
theorem unA54 : ∃ f0 f1 : Field, Try.prog.underlying 54 = some (.struct #[f0, f1]) ∧ (f0.type = 3 ∧ f0.offset = 0 ∧ (f0.name != "_") = true) ∧ (f1.type = 36 ∧ f1.offset = 1 ∧ (f1.name != "_") = true) := ⟨_, _, Try.underlying54, ⟨rfl, rfl, by kernel_rfl⟩, rfl, rfl, by kernel_rfl⟩
theorem ceA54 : Try.prog.cellsOf 54 = 5 := by kernel_rfl
theorem keyLits36 {d : Nat} {m : Mass} (h : m.le 4611686018427387904) : Try.prog.keyLits (d + 2) 36 [.int .i64 m.a, .int .i64 m.b, .int .i64 m.c, .int .i64 m.d] = some [.int .i64 m.a, .int .i64 m.b, .int .i64 m.c, .int .i64 m.d] := by
  obtain ⟨h1, h2, h3, h4⟩ : (Lit.int .i64 m.a).wf = true ∧ (Lit.int .i64 m.b).wf = true ∧ (Lit.int .i64 m.c).wf = true ∧ (Lit.int .i64 m.d).wf = true := by
    unfold Mass.le at h; exact ⟨wfA_of (by omega), wfA_of (by omega), wfA_of (by omega), wfA_of (by omega)⟩
  unfold Program.keyLits; rw [unA36]
  simp [ceA36, ceA3, List.range, List.range.loop, keyLitA3 h1, keyLitA3 h2, keyLitA3 h3, keyLitA3 h4]
theorem keyLits54 {st : Int} {m : Mass} (hs : -4611686018427387904 ≤ st ∧ st ≤ 4611686018427387904) (h : m.le 4611686018427387904) : Try.prog.keyLits 21 54 [.int .i64 st, .int .i64 m.a, .int .i64 m.b, .int .i64 m.c, .int .i64 m.d] = some [.int .i64 st, .int .i64 m.a, .int .i64 m.b, .int .i64 m.c, .int .i64 m.d] := by
  obtain ⟨f0, f1, hu, ⟨t0, o0, n0⟩, t1, o1, n1⟩ := unA54
  have k0 := keyLitA3 (d := 19) (wfA_of hs)
  have k1 := keyLits36 (d := 18) h
  unfold Program.keyLits; rw [hu]
  simp only [ceA54, List.length_cons, List.length_nil]
  rw [if_pos (by simp [n0, n1])]
  simp [t0, o0, t1, o1, ceA3, ceA36, k0, k1]
theorem formed54 (x y z w v : Value) : Value.formed Try.prog 54 (.agg #[x, y, z, w, v]) = true := by
  obtain ⟨f0, f1, hu, _⟩ := unA54
  simp [Value.formed, hu, ceA54]
theorem litsEq_known (s t : Int) (m p : Mass) : litsEq [.int .i64 s, .int .i64 m.a, .int .i64 m.b, .int .i64 m.c, .int .i64 m.d] [.int .i64 t, .int .i64 p.a, .int .i64 p.b, .int .i64 p.c, .int .i64 p.d] = decide (s = t ∧ m = p) := by
  rw [Bool.eq_iff_iff, litsEq_iff, decide_eq_true_eq]
  constructor
  · intro h
    simp at h
    exact ⟨h.1, Mass.ext' h.2.1 h.2.2.1 h.2.2.2.1 h.2.2.2.2⟩
  · rintro ⟨rfl, rfl⟩; rfl
theorem aggEqK {s t : Int} {m p : Mass} (hs : -4611686018427387904 ≤ s ∧ s ≤ 4611686018427387904) (ht : -4611686018427387904 ≤ t ∧ t ≤ 4611686018427387904) (h : m.le 4611686018427387904) (k : p.le 4611686018427387904) : aggEq TT 54 #[.int .i64 s, .int .i64 m.a, .int .i64 m.b, .int .i64 m.c, .int .i64 m.d] #[.int .i64 t, .int .i64 p.a, .int .i64 p.b, .int .i64 p.c, .int .i64 p.d] = some (decide (s = t ∧ m = p)) := by
  unfold aggEq
  have h1 := keyLits54 hs h
  have h2 := keyLits54 ht k
  change gd _ (ob (Try.prog.keyLits 21 54 _) fun la => ob (Try.prog.keyLits 21 54 _) fun lb => some (litsEq la lb)) = _
  rw [h1, h2, show Value.formed TT.prog 54 (.agg #[.int .i64 s, .int .i64 m.a, .int .i64 m.b, .int .i64 m.c, .int .i64 m.d]) = true from formed54 _ _ _ _ _, show Value.formed TT.prog 54 (.agg #[.int .i64 t, .int .i64 p.a, .int .i64 p.b, .int .i64 p.c, .int .i64 p.d]) = true from formed54 _ _ _ _ _]
  show gd (_ && true && true) (some (litsEq _ _)) = _
  rw [litsEq_known]; rfl
theorem flagA54 : (TT.prog.keyTypeAt 20 54 && !TT.prog.eqGuardType TT.prog.depth 54) = true := by kernel_rfl
theorem binVal_54ne (f0 f1 : Field) (a b : Array Value) : binVal TT (.struct #[f0, f1]) 54 (TT.prog.keyTypeAt 20 54 && !TT.prog.eqGuardType TT.prog.depth 54) .neq (.agg a) (.agg b) = ob (aggEq TT 54 a b) fun r => some (.bool (!r)) := by
  rw [flagA54]; rfl
attribute [simp] binVal_54ne
theorem aggEqK_self {s : Int} {m : Mass} (hs : -4611686018427387904 ≤ s ∧ s ≤ 4611686018427387904) (h : m.le 4611686018427387904) : aggEq TT 54 #[.int .i64 s, .int .i64 m.a, .int .i64 m.b, .int .i64 m.c, .int .i64 m.d] #[.int .i64 s, .int .i64 m.a, .int .i64 m.b, .int .i64 m.c, .int .i64 m.d] = some true := by
  rw [aggEqK hs hs h h, decide_eq_true ⟨rfl, rfl⟩]
end Go.Proofs.Ytjehpgflhgpalaa
namespace Go.Proofs.Ytjehpgflhgpalaa
open Go Kern
theorem stB_range (fs : List FlowD) (j : Nat) (f : FlowD) : 1 ≤ stB fs j f ∧ stB fs j f ≤ 3 := by
  unfold stB
  split
  · omega
  · split <;> omega
theorem Mass.put_at {m : Mass} {q r : Nat} {x : Int} (hq : q < 4) (hr : r < 4) : (m.put q x).at r = if r = q then x else m.at r := by
  match q, hq, r, hr with
  | 0, _, 0, _ => rfl
  | 0, _, 1, _ => rfl
  | 0, _, 2, _ => rfl
  | 0, _, 3, _ => rfl
  | 1, _, 0, _ => rfl
  | 1, _, 1, _ => rfl
  | 1, _, 2, _ => rfl
  | 1, _, 3, _ => rfl
  | 2, _, 0, _ => rfl
  | 2, _, 1, _ => rfl
  | 2, _, 2, _ => rfl
  | 2, _, 3, _ => rfl
  | 3, _, 0, _ => rfl
  | 3, _, 1, _ => rfl
  | 3, _, 2, _ => rfl
  | 3, _, 3, _ => rfl
theorem Mass.ext_at {m p : Mass} (h : ∀ q, q < 4 → m.at q = p.at q) : m = p := Mass.ext' (h 0 (by omega)) (h 1 (by omega)) (h 2 (by omega)) (h 3 (by omega))
theorem meas_flowErr {n : Nat} {fs : List FlowD} {i : Nat} {f : FlowD} {m : Mass} (hck : checkErr n fs = 0) (hf : fs[i]? = some f) : flowErr n (meas f m) = if eachB m 0 1000000000 = true then 0 else 2 := by
  obtain ⟨a, b, c, _⟩ := flowErr_ok ((checkErr_ok hck).2.2.2 f (List.mem_of_getElem? hf))
  unfold flowErr meas
  simp only [a, b]
  rw [if_neg (by decide), if_neg c]
  cases eachB m 0 1000000000 <;> rfl
theorem meas_check {n : Nat} {fs : List FlowD} {i : Nat} {f : FlowD} {m : Mass} (hck : checkErr n fs = 0) (hf : fs[i]? = some f) : checkErr n (fs.set i (meas f m)) = if eachB m 0 1000000000 = true then 0 else 2 := by
  obtain ⟨h1, h2, h3, h4⟩ := checkErr_ok hck
  have hfe := meas_flowErr (m := m) hck hf
  by_cases hE : eachB m 0 1000000000 = true
  · rw [if_pos hE] at hfe ⊢
    refine checkErr_mk h1 h2 (by rw [List.length_set]; exact h3) fun g hg => ?_
    rcases List.mem_or_eq_of_mem_set hg with hg | rfl
    · exact h4 g hg
    · exact hfe
  · rw [if_neg hE] at hfe ⊢
    unfold checkErr
    rw [if_neg (by omega), if_neg (by rw [List.length_set]; omega)]
    rw [firstErr_at (k := i) (f := meas f m) (fun j g hj hg => ?_) (set_at hf) (by rw [hfe]; decide), hfe]
    rw [set_ne (by omega)] at hg
    exact h4 g (List.mem_of_getElem? hg)
@[simp] theorem newObj_22z {f : Fr} {pl0 : Array (Nat × Operand)} : Kern.newObj TT (.buildSlice 22 0 pl0) f = ob (fillL f.eval (placesA 7 pl0.toList) (repeatL [.int .i64 0, .int .i64 0, .bool false, .int .i64 0, .int .i64 0, .int .i64 0, .int .i64 0] 0)) fun c => some (.cells c none) :=
  newObj_buildSlice 22 0 pl0 und_22 size_82 zero_82 rfl
@[simp] theorem newObj_a24 {f : Fr} : Kern.newObj TT (.alloc 24) f = some (.cells [.int .i64 0, .slice none 0 0] none) := newObj_alloc 24 zero_24
set_option maxRecDepth 100000 in
set_option maxHeartbeats 4000000 in
theorem lawM_ev (U K fl : Int) (bm : Mass) (ve vm : Value) (es : List (Int × Int)) (ms : List Int) (s : St) (hU : 0 ≤ U ∧ U < 256) (hfl : 0 ≤ fl ∧ fl < 256) (hbb : ∀ q, q < 4 → 0 ≤ bm.at q ∧ bm.at q < 256) (hes : EndsAt s ve es) (hms : BytesAt s vm ms) (hbe : ∀ e ∈ es, (0 ≤ e.1 ∧ e.1 < 256) ∧ (0 ≤ e.2 ∧ e.2 < 256)) (hbm : ∀ x ∈ ms, 0 ≤ x ∧ x < 256) :
    Ev TT 10 [millV U ve vm K, .int .u8 fl, .agg #[.int .u8 bm.a, .int .u8 bm.b, .int .u8 bm.c, .int .u8 bm.d]] s fun r _ => r = .bool true := by
  obtain ⟨ae, ce, rfl⟩ := hes.shape
  obtain ⟨am, cm, rfl⟩ := hms.shape
  rw [List.length_map] at hes hms ⊢
  rw [List.length_map]
  unfold millV
  refine Ev.intro (fn := Try.f10) rfl (by kernel_rfl) rfl rfl ?_
  apply zz
  refine Cd.ra (h := ?_)
  apply Run.by_eq
  · intro self
    conv => lhs; simp -implicitDefEqProofs (maxSteps := 300000) (disch := omega) [-getElem?_pos, -getElem?_neg]
  try (with_reducible refine Run.ret ?_)
  apply zz
  refine Cd.ra (h := ?_)
  apply Run.by_eq
  · intro self
    conv => lhs; simp -implicitDefEqProofs (maxSteps := 300000) (disch := omega) [-getElem?_pos, -getElem?_neg]
  try (with_reducible refine Run.ret ?_)
  apply zz
  refine Run.call ((made_ev U K _ _ es ms _ hU (hes.keep ⟨by (try simp only [pushed_next', upded_next']); omega, fun i hi => by simp -implicitDefEqProofs (disch := omega) []⟩) (hms.keep ⟨by (try simp only [pushed_next', upded_next']); omega, fun i hi => by simp -implicitDefEqProofs (disch := omega) []⟩) hbe hbm).mono fun r w1 hv => ?_)
  obtain ⟨k1, n, wf, wr, hn, hn1, hn4, rfl, hOF, -⟩ := hv
  have k1a := k1.1
  have k1b := k1.2
  try simp only [pushed_next', upded_next'] at k1a k1b
  have hck := mill_check (K := K) (es := es) hn1 hn4 hbm
  have hbal := mill_bal (K := K) (ms := ms) (es := es) hn1
  have hRl := fun j => realF_le (n := n) (es := es) hbm j
  have hlen := millFs_length n K ms es
  generalize millFs n K ms es = fs at hOF hck hbal hlen
  generalize realF n ms es = R at hbal hRl
  generalize millN es = M at hlen
  rcases hOF with ⟨e, _⟩ | ⟨bw, rfl, _, hb1, hb2, hb3⟩
  · rw [List.map_eq_nil_iff] at e; rw [e] at hlen; simp at hlen; omega
  rw [List.length_map, hlen]
  try simp only [pushed_next', upded_next'] at hb1
  change w1.heap.get bw = some (.cells (flatF fs) (some 7)) at hb3
  have hB0 : w1.heap.get (s.next + 1) = some (.cells [.int .u8 bm.a, .int .u8 bm.b, .int .u8 bm.c, .int .u8 bm.d] none) := by rw [k1b _ (by omega)]; simp -implicitDefEqProofs (disch := omega)
  have hce := bal_close hck hbal
  have hks := closeKs_bal hck hbal
  have hlg : fs.length ≤ 1000 := by have := (checkErr_ok hck).2.2.1; omega
  have hlM : M + n ≤ 1000 := by omega
  obtain ⟨i, hi⟩ : ∃ i : Nat, fl % (((M + n : Nat) : Int)) = i := ⟨(fl % (((M + n : Nat) : Int))).toNat, by
    have := Int.emod_nonneg fl (show ((M + n : Nat) : Int) ≠ 0 by omega)
    omega⟩
  have hil : i < M + n := by
    have := Int.emod_lt_of_pos fl (show 0 < ((M + n : Nat) : Int) by omega)
    omega
  have hri := intOp_rem .i64 fl ((M + n : Nat) : Int) (by omega) (by omega)
  rw [hi] at hri
  push_cast at hri
  obtain ⟨f, hf⟩ : ∃ f, fs[i]? = some f := ⟨fs[i], by simp [hlen, hil]⟩
  have hq := takeL_at (flow_get hf) (i := 2) (by omega)
  rw [List.getElem?_drop] at hq
  change (flatF fs)[i * 7 + 2]? = some (.bool f.me) at hq
  apply Run.by_eq
  · intro self
    conv => lhs; simp -implicitDefEqProofs (maxSteps := 300000) (disch := omega) [-getElem?_pos, -getElem?_neg, plantV]
  try (with_reducible refine Run.ret ?_)
  apply zz
  refine Cd.ra (h := ?_)
  apply Run.by_eq
  · intro self
    conv => lhs; simp -implicitDefEqProofs (maxSteps := 300000) (disch := omega) [-getElem?_pos, -getElem?_neg]
  try (with_reducible refine Run.ret ?_)
  apply zz
  refine Run.call ((close_ev n _ fs _ (fl_of_flat (o := some 7) (b := bw) (by (try simp only [pushed_next', upded_next']); omega) hlen (by simp -implicitDefEqProofs (disch := omega) [hb3])) (by omega)).mono fun r w2 hv => ?_)
  obtain ⟨k2, wk, rfl, hK⟩ := hv
  have k2a := k2.1
  have k2b := k2.2
  try simp only [pushed_next', upded_next'] at k2a k2b
  rw [hce]
  rw [hks, hlen] at hK
  have P2 : w2.heap.get w1.next = some (.cells [.int .i64 n, .slice (some ⟨bw, 0, none⟩) (M + n) (M + n)] none) := by rw [k2b _ (by omega)]; simp -implicitDefEqProofs (disch := omega)
  have F2 : w2.heap.get bw = some (.cells (flatF fs) (some 7)) := by rw [k2b _ (by omega)]; simp -implicitDefEqProofs (disch := omega) [hb3]
  have B2 : w2.heap.get (s.next + 1) = some (.cells [.int .u8 bm.a, .int .u8 bm.b, .int .u8 bm.c, .int .u8 bm.d] none) := by rw [k2b _ (by omega)]; simp -implicitDefEqProofs (disch := omega) [hB0]
  obtain ⟨ak, ck, rfl⟩ := hK.shape
  rw [List.length_map, List.length_map, List.length_range] at hK ⊢
  have hw12 : w1.next < w2.next := by omega
  have hbw2 : bw < w1.next := hb2
  have hsn : s.next + 1 < w1.next := by omega
  clear hb3 hB0 k1b k2b k1 k2 hes hms
  apply Run.by_eq
  · intro self
    conv => lhs; simp -implicitDefEqProofs (maxSteps := 300000) (disch := omega) [-getElem?_pos, -getElem?_neg]
  try (with_reducible refine Run.ret ?_)
  apply zz
  refine Cd.ra (h := ?_)
  apply Run.by_eq
  · intro self
    conv => lhs; simp -implicitDefEqProofs (maxSteps := 300000) (disch := omega) [-getElem?_pos, -getElem?_neg, P2]
  try (with_reducible refine Run.ret ?_)
  apply zz
  apply Cd.ite rfl
  · conv => lhs; simp -implicitDefEqProofs (maxSteps := 300000) (disch := omega) [-getElem?_pos, -getElem?_neg]
  all_goals intro c0
  all_goals try (cases c0; done)
  all_goals try simp only [Bool.not_eq_true', Bool.not_eq_false', decide_eq_true_eq, decide_eq_false_iff_not] at c0
  all_goals apply zz
  apply zz
  refine Cd.ra (h := ?_)
  apply Run.by_eq
  · intro self
    conv => lhs; simp -implicitDefEqProofs (maxSteps := 300000) (disch := omega) [-getElem?_pos, -getElem?_neg, P2, hri]
  try (with_reducible refine Run.ret ?_)
  apply zz
  have hki : ((List.range (M + n)).map (knB fs R))[i]? = some (knB fs R i) := by rw [List.getElem?_map, List.getElem?_range hil]; rfl
  obtain ⟨b1, o1, ob1, cs1, gg1, rfl, hq1, ho1, hc1, ht1⟩ := KnAt.at hK hki
  rw [knB_at hbal hf] at ht1
  obtain ⟨p1, q1⟩ := takeL_part ht1
  have hsr := stB_range fs i f
  obtain ⟨fd, hfd⟩ : ∃ fd, fd = decide (stB fs i f = 2) := ⟨_, rfl⟩
  have hfd' : decide (stB fs i f = 2) = fd := hfd.symm
  have hmass : fd = true → ∀ k, k < 4 → cs1[o1 + i * 5 + 1 + k]? = some (.int .i64 ((R i).at k)) := fun h k hk => by
    rw [h] at hfd
    have h2 : stB fs i f = 2 := by simpa using hfd.symm
    simp only [h2] at q1
    rw [if_neg (by decide)] at q1
    have := takeL_at q1 (i := k) hk
    rw [List.getElem?_drop, Mass.cs_at (R i) hk] at this
    exact this
  apply zz
  refine Cd.ra (h := ?_)
  apply Run.by_eq
  · intro self
    conv => lhs; simp -implicitDefEqProofs (maxSteps := 300000) (disch := omega) [-getElem?_pos, -getElem?_neg, hil, ho1, hc1, p1, hfd']
  try (with_reducible refine Run.ret ?_)
  apply zz
  refine Cd.ra (h := ?_)
  apply Run.by_eq
  · intro self
    conv => lhs; simp -implicitDefEqProofs (maxSteps := 300000) (disch := omega) [-getElem?_pos, -getElem?_neg, P2, hil, F2, hq]
  try (with_reducible refine Run.ret ?_)
  apply zz
  apply Cd.ite rfl
  · conv => lhs; simp -implicitDefEqProofs (maxSteps := 300000) (disch := omega) [-getElem?_pos, -getElem?_neg]
  all_goals intro c1
  all_goals try (cases c1; done)
  all_goals try simp only [Bool.not_eq_true', Bool.not_eq_false', decide_eq_true_eq, decide_eq_false_iff_not] at c1
  all_goals apply zz
  · apply zz
    refine Cd.ra (h := ?_)
    apply Run.by_eq
    · intro self
      conv => lhs; simp -implicitDefEqProofs (maxSteps := 300000) (disch := omega) [-getElem?_pos, -getElem?_neg]
    try (with_reducible refine Run.ret ?_)
    apply zz
    refine Run.call (Ev.stub rfl ?_)
    apply Run.by_eq
    · intro self
      conv => lhs; simp -implicitDefEqProofs (maxSteps := 300000) (disch := omega) [-getElem?_pos, -getElem?_neg]
    try (with_reducible refine Run.ret ?_)
    apply zz
    apply Leave.mk (by first | exact .inl rfl | exact .inr rfl) (by simp only [Fr.marks_put, fr0_marks])
    · conv => lhs; simp -implicitDefEqProofs (disch := omega) [Try.results10]
    rfl
  have hm : f.me = false := c1
  have hf1 : FlAt ((w2.pushed (.cells [] none)).pushed (.cells [.int .i64 0, .slice none 0 0] none)) (.slice (some ⟨bw, 0, none⟩) (M + n) (M + n)) fs := fl_of_flat (o := some 7) (by (try simp only [pushed_next', upded_next']); omega) hlen (by simp -implicitDefEqProofs (disch := omega) [F2])
  have happ := app_own (n := 7) (N := w2.next) (s := (w2.pushed (.cells [] none)).pushed (.cells [.int .i64 0, .slice none 0 0] none)) (b := w2.next) (l0 := []) (l := fs.map FlowD.cs) ⟨w2.next, rfl, Nat.le_refl _, by (try simp only [pushed_next', upded_next']); omega, by simp -implicitDefEqProofs (disch := omega)⟩ hf1 (fun x hx => by cases hx) (flows_ones fs) (by simp; omega)
  have hfn : ¬ fs.map FlowD.cs = [] := fun e => by rw [List.map_eq_nil_iff] at e; rw [e] at hlen; simp at hlen; omega
  rw [if_neg hfn, if_pos rfl] at happ
  simp only [List.length_map, hlen, List.length_nil, Nat.zero_add, List.flatten_nil, List.nil_append, pushed_next'] at happ
  rw [show (fs.map FlowD.cs).flatten = flatF fs from rfl] at happ
  have hput0 := set_flat (g := meas f f.m) (off := 2) (vs := [.bool true]) hf rfl
  apply zz
  refine Cd.drawn (pl := [(0, 0, false, false), (1, 1, false, false), (2, 0, false, true), (3, 0, false, false), (4, 8, false, false), (7, 0, false, true), (5, 28, true, false), (6, 63, false, false), (8, 255, true, false)]) (by kernel_rfl) (by conv => lhs; simp only [List.map_cons, List.map_nil]) (by conv => lhs; simp [strip, ordered]) ?_
  apply Run.by_eq
  · intro self
    conv => lhs; simp -implicitDefEqProofs (maxSteps := 300000) (disch := omega) [filter_bt, (show Nat.testBit 28 0 = false from rfl), (show Nat.testBit 28 1 = false from rfl), (show Nat.testBit 28 2 = true from rfl), (show Nat.testBit 28 3 = true from rfl), (show Nat.testBit 28 4 = true from rfl), (show Nat.testBit 28 7 = false from rfl), (show ∀ i, Nat.testBit 255 i = decide (i < 8) from fun i => Nat.testBit_two_pow_sub_one 8 i), -getElem?_pos, -getElem?_neg, P2, happ]
  try (with_reducible refine Run.ret ?_)
  apply zz
  refine Cd.ra (h := ?_)
  apply Run.by_eq
  · intro self
    conv => lhs; simp -implicitDefEqProofs (maxSteps := 300000) (disch := omega) [-getElem?_pos, -getElem?_neg, hil, hput0]
  try (with_reducible refine Run.ret ?_)
  apply zz
  refine Cd.ra (h := ?_)
  apply Run.by_eq
  · intro self
    conv => lhs; simp -implicitDefEqProofs (maxSteps := 300000) (disch := omega) [-getElem?_pos, -getElem?_neg]
  try (with_reducible refine Run.ret ?_)
  apply zz
  obtain ⟨T, hT⟩ : ∃ T, T = if fd = true then R i else bm := ⟨_, rfl⟩
  have hTle : T.le 1536 := by
    rw [hT]
    split
    · exact hRl i
    · have h0 := hbb 0 (by omega); have h1 := hbb 1 (by omega); have h2 := hbb 2 (by omega); have h3 := hbb 3 (by omega)
      simp only [Mass.at] at h0 h1 h2 h3
      unfold Mass.le; omega
  have hks1 : KnAt w2 (.slice (some ⟨b1, o1, none⟩) (M + n) ck) ((List.range (M + n)).map (knB fs R)) := hK
  refine Cd.mono (Q := fun x f2 s2 => (x = Ex.ret ∧ f2.marks = [] ∧ f2.get 6 = .bool true) ∨ (x = Ex.exit 0 ∧ (∀ q, q < 4 → 0 ≤ T.at q) ∧ f2.marks = [] ∧ f2.get 9 = .slice (some ⟨b1, o1, none⟩) (M + n) ck ∧ f2.get 11 = .int .i64 i ∧ f2.get 12 = .bool fd ∧ f2.get 13 = .pointer (some ⟨w2.next + 1, 0, none⟩) ∧ Keep w2 s2 ∧ w2.next + 1 + 1 < s2.next ∧ s2.heap.get (w2.next + 1) = some (.cells [.int .i64 n, .slice (some ⟨w2.next + 1 + 1, 0, none⟩) (M + n) (M + n)] none) ∧ s2.heap.get (w2.next + 1 + 1) = some (.cells (flatF (fs.set i (meas f T))) (some 7)))) (Cd.inv (fun z f2 s2 => ∃ (k : Nat) (Mk : Mass), k ≤ 4 ∧ z = 4 - k ∧ (∀ q, q < k → Mk.at q = T.at q) ∧ (∀ q, q < k → 0 ≤ T.at q) ∧ f2.marks = [] ∧ f2.get 5 = .pointer (some ⟨s.next + 1, 0, none⟩) ∧ f2.get 9 = .slice (some ⟨b1, o1, none⟩) (M + n) ck ∧ f2.get 11 = .int .i64 i ∧ f2.get 12 = .bool fd ∧ f2.get 13 = .pointer (some ⟨w2.next + 1, 0, none⟩) ∧ f2.get 68 = .int .i64 k ∧ Keep w2 s2 ∧ w2.next + 1 + 1 < s2.next ∧ s2.heap.get (w2.next + 1) = some (.cells [.int .i64 n, .slice (some ⟨w2.next + 1 + 1, 0, none⟩) (M + n) (M + n)] none) ∧ s2.heap.get (w2.next + 1 + 1) = some (.cells (flatF (fs.set i (meas f Mk))) (some 7))) 4 ?_ ?_) ?_
  · refine ⟨0, f.m, by omega, rfl, fun q h => by omega, fun q h => by omega, by simp, by simp, by simp, by simp, by simp, by simp, by simp, ⟨by (try simp only [pushed_next', upded_next']); omega, fun i hi => by simp -implicitDefEqProofs (disch := omega) []⟩, by simp, ?_, ?_⟩
    · simp -implicitDefEqProofs (disch := omega)
    · simp -implicitDefEqProofs (disch := omega)
  · rintro z f2 s2 ⟨k, Mk, hk, rfl, hMk, hTp, hm2, h5, h9, h11, h12, h13, h68, hkp, hnx, hg1, hg2⟩
    have hkpa := hkp.1
    have hkpb := hkp.2
    have B3 := (hkpb (s.next + 1) (by omega)).trans B2
    have ho3 := (hkpb b1 hq1).trans ho1
    by_cases hk4 : k < 4
    · have hk4' : (k : Int) < 4 := by omega
      have hbk := hbb k hk4
      have hget : ([.int .u8 bm.a, .int .u8 bm.b, .int .u8 bm.c, .int .u8 bm.d] : List Value)[k]? = some (.int .u8 (bm.at k)) := by
        match k, hk4 with
        | 0, _ => rfl
        | 1, _ => rfl
        | 2, _ => rfl
        | 3, _ => rfl
      have hput := set_flat (g := meas f (Mk.put k (bm.at k))) (off := 3 + k) (vs := [.int .i64 (bm.at k)]) (set_at (g := meas f Mk) hf) (Mass.put_cs (f := meas f Mk) hk4 (bm.at k))
      rw [List.set_set, ← Nat.add_assoc] at hput
      apply zz
      refine Cd.ra (h := ?_)
      apply Run.by_eq
      · intro self
        conv => lhs; simp -implicitDefEqProofs (maxSteps := 300000) (disch := omega) [-getElem?_pos, -getElem?_neg, h68]
      try (with_reducible refine Run.ret ?_)
      apply zz
      apply Cd.ite rfl
      · conv => lhs; simp -implicitDefEqProofs (maxSteps := 300000) (disch := omega) [-getElem?_pos, -getElem?_neg]
      all_goals intro c2
      all_goals try (cases c2; done)
      all_goals try simp only [Bool.not_eq_true', Bool.not_eq_false', decide_eq_true_eq, decide_eq_false_iff_not] at c2
      all_goals apply zz
      · apply zz
        refine Cd.ra (h := ?_)
        apply Run.by_eq
        · intro self
          conv => lhs; simp -implicitDefEqProofs (maxSteps := 300000) (disch := omega) [-getElem?_pos, -getElem?_neg, h68]
        try (with_reducible refine Run.ret ?_)
        apply zz
        have hbs : bm.at k = bm.at k := rfl
        generalize hX : bm.at k = X at hget hput hbk
        apply zz
        refine Cd.drawnH (pl := [(0, 0, false, false), (1, 1, false, false), (2, 0, false, false), (3, 0, false, false), (4, 0, false, false), (5, 16, false, false), (6, 48, false, false), (7, 112, false, false), (8, 7, false, false), (9, 263, false, false), (10, 1023, false, false), (11, 2047, true, false)]) [false, false, false, false, false, false, false, false, false, false, false, false] (by kernel_rfl) (by decide) (by decide) (by conv => lhs; simp only [List.map_cons, List.map_nil]) (by conv => lhs; simp [strip, orderedG, flagH]) ?_
        apply Run.by_eq
        · intro self
          conv => lhs; simp -implicitDefEqProofs (maxSteps := 300000) (disch := omega) [-getElem?_pos, -getElem?_neg, h5, h11, h13, hg1, hg2, hil, B3, hget, hput, hk4, hk4']
        try (with_reducible refine Run.ret ?_)
        apply zz
        cases fd with
        | false =>
          rw [if_neg (by decide)] at hT
          apply zz
          refine Cd.ra (h := ?_)
          apply Run.by_eq
          · intro self
            conv => lhs; simp -implicitDefEqProofs (maxSteps := 300000) (disch := omega) [-getElem?_pos, -getElem?_neg, h12]
          try (with_reducible refine Run.ret ?_)
          apply zz
          apply Cd.ite rfl
          · conv => lhs; simp -implicitDefEqProofs (maxSteps := 300000) (disch := omega) [-getElem?_pos, -getElem?_neg]
          all_goals intro c3
          all_goals try (cases c3; done)
          all_goals try simp only [Bool.not_eq_true', Bool.not_eq_false', decide_eq_true_eq, decide_eq_false_iff_not] at c3
          all_goals apply zz
          apply zz
          refine Cd.ra (h := ?_)
          apply Run.by_eq
          · intro self
            conv => lhs; simp -implicitDefEqProofs (maxSteps := 300000) (disch := omega) [-getElem?_pos, -getElem?_neg, h68]
          try (with_reducible refine Run.ret ?_)
          apply zz
          refine LoopK.nm (4 - (k + 1)) (by omega) ⟨k + 1, Mk.put k X, by omega, rfl, fun q hq => ?_, fun q hq => ?_, by simp [hm2], by simp [h5], by simp [h9], by simp [h11], by simp [h12], by simp [h13], by simp, ⟨by (try simp only [pushed_next', upded_next']); omega, fun i hi => by simp -implicitDefEqProofs (disch := omega) [hkpb]⟩, by (try simp only [pushed_next', upded_next']); omega, ?_, ?_⟩
          · rw [Mass.put_at hk4 (by omega)]
            by_cases e : q = k
            · subst e; rw [if_pos rfl, hT, hX]
            · rw [if_neg e]; exact hMk q (by omega)
          · by_cases e : q = k
            · subst e; rw [hT, hX]; exact hbk.1
            · exact hTp q (by omega)
          · simp -implicitDefEqProofs (disch := omega) [hg1]
          · simp -implicitDefEqProofs (disch := omega)
        | true =>
          rw [if_pos rfl] at hT
          have hmk := hmass rfl k hk4
          rw [← hT] at hmk
          have hTk := mass_at_le (q := k) hTle
          have hput2 := set_flat (g := meas f ((Mk.put k X).put k (T.at k))) (off := 3 + k) (vs := [.int .i64 (T.at k)]) (set_at (g := meas f (Mk.put k X)) hf) (Mass.put_cs (f := meas f (Mk.put k X)) hk4 (T.at k))
          rw [List.set_set, ← Nat.add_assoc] at hput2
          apply zz
          refine Cd.ra (h := ?_)
          apply Run.by_eq
          · intro self
            conv => lhs; simp -implicitDefEqProofs (maxSteps := 300000) (disch := omega) [-getElem?_pos, -getElem?_neg, h12]
          try (with_reducible refine Run.ret ?_)
          apply zz
          apply Cd.ite rfl
          · conv => lhs; simp -implicitDefEqProofs (maxSteps := 300000) (disch := omega) [-getElem?_pos, -getElem?_neg]
          all_goals intro c3
          all_goals try (cases c3; done)
          all_goals try simp only [Bool.not_eq_true', Bool.not_eq_false', decide_eq_true_eq, decide_eq_false_iff_not] at c3
          all_goals apply zz
          generalize hY : T.at k = Y at hmk hput2 hTk
          apply zz
          refine Cd.drawnH (pl := [(0, 0, false, false), (1, 1, false, false), (2, 0, false, false), (3, 0, false, false), (4, 0, false, false), (5, 0, false, false), (6, 0, false, false), (7, 48, false, false), (8, 176, false, false), (9, 496, false, false), (10, 1008, false, false), (11, 7, false, false), (12, 2055, false, false), (13, 8191, false, false), (14, 16383, true, false)]) [false, false, false, false, false, false, false, false, false, false, false, false, false, false, false] (by kernel_rfl) (by decide) (by decide) (by conv => lhs; simp only [List.map_cons, List.map_nil]) (by conv => lhs; simp [strip, orderedG, flagH]) ?_
          apply Run.by_eq
          · intro self
            conv => lhs; simp -implicitDefEqProofs (maxSteps := 300000) (disch := omega) [-getElem?_pos, -getElem?_neg, h9, h11, h13, hg1, hil, ho3, hc1, hmk, hput2, hk4, hk4']
          try (with_reducible refine Run.ret ?_)
          apply zz
          refine Cd.ra (h := ?_)
          apply Run.by_eq
          · intro self
            conv => lhs; simp -implicitDefEqProofs (maxSteps := 300000) (disch := omega) [-getElem?_pos, -getElem?_neg, h9, h11, hil, ho3, hc1, hmk, hk4, hk4']
          try (with_reducible refine Run.ret ?_)
          apply zz
          apply Cd.ite rfl
          · conv => lhs; simp -implicitDefEqProofs (maxSteps := 300000) (disch := omega) [-getElem?_pos, -getElem?_neg]
          all_goals intro c4
          all_goals try (cases c4; done)
          all_goals try simp only [Bool.not_eq_true', Bool.not_eq_false', decide_eq_true_eq, decide_eq_false_iff_not] at c4
          all_goals apply zz
          · have hneg : eachB ((Mk.put k X).put k Y) 0 1000000000 = false := eachB_false hk4 (.inl (by rw [Mass.put_at hk4 hk4, if_pos rfl]; omega))
            have hcn := meas_check (m := (Mk.put k X).put k Y) hck hf
            rw [hneg, if_neg (by decide)] at hcn
            apply zz
            refine Cd.ra (h := ?_)
            apply Run.by_eq
            · intro self
              conv => lhs; simp -implicitDefEqProofs (maxSteps := 300000) (disch := omega) [-getElem?_pos, -getElem?_neg, h13, hg1]
            try (with_reducible refine Run.ret ?_)
            apply zz
            refine Run.call ((check_ev n _ (fs.set i (meas f ((Mk.put k X).put k Y))) _ (fl_of_flat (o := some 7) (b := w2.next + 1 + 1) (by (try simp only [pushed_next', upded_next']); omega) (by rw [List.length_set]; exact hlen) (by simp -implicitDefEqProofs (disch := omega))) (by rw [List.length_set]; omega)).mono fun v wy hv => ?_)
            obtain ⟨rfl, y⟩ := hv
            have ya := y.1
            have yb := y.2
            try simp only [pushed_next', upded_next'] at ya yb
            rw [hcn]
            apply Run.by_eq
            · intro self
              conv => lhs; simp -implicitDefEqProofs (maxSteps := 300000) (disch := omega) [-getElem?_pos, -getElem?_neg]
            try (with_reducible refine Run.ret ?_)
            apply zz
            refine Run.call (Ev.stub rfl ?_)
            apply Run.by_eq
            · intro self
              conv => lhs; simp -implicitDefEqProofs (maxSteps := 300000) (disch := omega) [-getElem?_pos, -getElem?_neg]
            try (with_reducible refine Run.ret ?_)
            apply zz
            exact .inl ⟨rfl, by simp [hm2], by simp⟩
          · apply zz
            refine Cd.ra (h := ?_)
            apply Run.by_eq
            · intro self
              conv => lhs; simp -implicitDefEqProofs (maxSteps := 300000) (disch := omega) [-getElem?_pos, -getElem?_neg, h68]
            try (with_reducible refine Run.ret ?_)
            apply zz
            refine LoopK.nm (4 - (k + 1)) (by omega) ⟨k + 1, (Mk.put k X).put k Y, by omega, rfl, fun q hq => ?_, fun q hq => ?_, by simp [hm2], by simp [h5], by simp [h9], by simp [h11], by simp [h12], by simp [h13], by simp, ⟨by (try simp only [pushed_next', upded_next']); omega, fun i hi => by simp -implicitDefEqProofs (disch := omega) [hkpb]⟩, by (try simp only [pushed_next', upded_next']); omega, ?_, ?_⟩
            · rw [Mass.put_at hk4 (by omega)]
              by_cases e : q = k
              · subst e; rw [if_pos rfl, hY]
              · rw [if_neg e, Mass.put_at hk4 (by omega), if_neg e]; exact hMk q (by omega)
            · by_cases e : q = k
              · subst e; rw [hY]; omega
              · exact hTp q (by omega)
            · simp -implicitDefEqProofs (disch := omega) [hg1]
            · simp -implicitDefEqProofs (disch := omega)
      · omega
    · obtain rfl : k = 4 := by omega
      apply zz
      refine Cd.ra (h := ?_)
      apply Run.by_eq
      · intro self
        conv => lhs; simp -implicitDefEqProofs (maxSteps := 300000) (disch := omega) [-getElem?_pos, -getElem?_neg, h68]
      try (with_reducible refine Run.ret ?_)
      apply zz
      apply Cd.ite rfl
      · conv => lhs; simp -implicitDefEqProofs (maxSteps := 300000) (disch := omega) [-getElem?_pos, -getElem?_neg]
      all_goals intro c2
      all_goals try (cases c2; done)
      all_goals try simp only [Bool.not_eq_true', Bool.not_eq_false', decide_eq_true_eq, decide_eq_false_iff_not] at c2
      all_goals apply zz
      obtain rfl := Mass.ext_at hMk
      exact .inr ⟨rfl, hTp, by simp [hm2], by simp [h9], by simp [h11], by simp [h12], by simp [h13], hkp, hnx, hg1, hg2⟩
  rintro x f2 s2 (⟨rfl, hm2, h6⟩ | ⟨rfl, hTp, hm2, h9, h11, h12, h13, hkp, hnx, hg1, hg2⟩)
  · apply zz
    apply Leave.mk (by first | exact .inl rfl | exact .inr rfl) (by simp only [Fr.marks_put, fr0_marks, hm2, h6])
    · conv => lhs; simp -implicitDefEqProofs (disch := omega) [Try.results10, hm2, h6]
    rfl
  have hkpa := hkp.1
  have hTE : eachB T 0 1000000000 = true := eachB_true fun k hk => ⟨hTp k hk, by have := mass_at_le (q := k) hTle; omega⟩
  have hck2 := meas_check (m := T) hck hf
  rw [if_pos hTE] at hck2
  have hst : stB fs i f = 3 ∨ R i = T := by
    cases fd with
    | true => right; rw [hT, if_pos rfl]
    | false =>
      left
      have h2 : stB fs i f ≠ 2 := by simpa using hfd'
      unfold stB at h2 ⊢
      rw [if_neg (by rw [hm]; decide)] at h2 ⊢
      split
      · rfl
      · rename_i h; rw [if_neg h] at h2; exact absurd rfl h2
  have hsame := fun (j : Nat) (g : FlowD) (hj : fs[j]? = some g) (hji : j ≠ i) h => more_same hck hbal hf hm hck2 hst hj hji h
  obtain ⟨B, hB⟩ := more_bal hck hbal hf hm hck2 hst
  have hce2 := bal_close hck2 hB
  have hown : closeF (fs.set i (meas f T)) n i = ⟨1, T⟩ := by
    unfold closeF
    rw [set_at hf]
    show closeAt _ n i (meas f T) = _
    unfold closeAt
    rw [if_pos (show (meas f T).me = true from rfl)]; rfl
  have hls : (fs.set i (meas f T)).length = M + n := by rw [List.length_set]; exact hlen
  have hks2 : closeKs n (fs.set i (meas f T)) = (List.range (M + n)).map (closeF (fs.set i (meas f T)) n) := by
    unfold closeKs
    rw [if_pos hce2, hls, Int.toNat_natCast]
  have hgT : (fs.set i (meas f T))[i]? = some (meas f T) := set_at hf
  generalize fs.set i (meas f T) = gs at *
  apply zz
  refine Cd.ra (h := ?_)
  apply Run.by_eq
  · intro self
    conv => lhs; simp -implicitDefEqProofs (maxSteps := 300000) (disch := omega) [-getElem?_pos, -getElem?_neg, h13, hg1]
  try (with_reducible refine Run.ret ?_)
  apply zz
  refine Run.call ((close_ev n _ gs _ (fl_of_flat (o := some 7) (b := w2.next + 1 + 1) hnx hls hg2) (by omega)).mono fun r s5 hv => ?_)
  obtain ⟨k5, wk5, rfl, hK5⟩ := hv
  have k5a := k5.1
  have k5b := k5.2
  rw [hce2]
  rw [hks2] at hK5
  obtain ⟨a5, c5, rfl⟩ := hK5.shape
  rw [List.length_map, List.length_map, List.length_range] at hK5 ⊢
  have G1 := (k5b (w2.next + 1) (by omega)).trans hg1
  have G2 := (k5b (w2.next + 1 + 1) (by omega)).trans hg2
  have kp5 := hkp.trans k5
  apply Run.by_eq
  · intro self
    conv => lhs; simp -implicitDefEqProofs (maxSteps := 300000) (disch := omega) [-getElem?_pos, -getElem?_neg]
  try (with_reducible refine Run.ret ?_)
  apply zz
  refine Cd.ra (h := ?_)
  apply Run.by_eq
  · intro self
    conv => lhs; simp -implicitDefEqProofs (maxSteps := 300000) (disch := omega) [-getElem?_pos, -getElem?_neg, h9]
  try (with_reducible refine Run.ret ?_)
  apply zz
  apply Cd.ite rfl
  · conv => lhs; simp -implicitDefEqProofs (maxSteps := 300000) (disch := omega) [-getElem?_pos, -getElem?_neg]
  all_goals intro c2
  all_goals try (cases c2; done)
  all_goals try simp only [Bool.not_eq_true', Bool.not_eq_false', decide_eq_true_eq, decide_eq_false_iff_not] at c2
  all_goals apply zz
  apply zz
  refine Cd.ra (h := ?_)
  apply Run.by_eq
  · intro self
    conv => lhs; simp -implicitDefEqProofs (maxSteps := 300000) (disch := omega) [-getElem?_pos, -getElem?_neg, h9]
  try (with_reducible refine Run.ret ?_)
  apply zz
  refine Cd.mono (Q := fun x f3 s3 => x = Ex.exit 2 ∧ f3.marks = []) (Cd.inv (fun z f3 s3 => ∃ j : Nat, j ≤ M + n ∧ z = M + n - j ∧ f3.marks = [] ∧ f3.get 9 = .slice (some ⟨b1, o1, none⟩) (M + n) ck ∧ f3.get 11 = .int .i64 i ∧ f3.get 12 = .bool fd ∧ f3.get 13 = .pointer (some ⟨w2.next + 1, 0, none⟩) ∧ f3.get 15 = .slice a5 (M + n) c5 ∧ f3.get 127 = .int .i64 ((M + n : Nat) : Int) ∧ f3.get 128 = .int .i64 j ∧ Keep s5 s3) (M + n) ?_ ?_) ?_
  · exact ⟨0, by omega, rfl, by simp [hm2], by simp [h9], by simp [h11], by simp [h12], by simp [h13], by simp, by simp, by simp, Keep.refl _⟩
  · rintro z f3 s3 ⟨j, hj, rfl, hm3, h9, h11, h12, h13, h15, h127, h128, hk6⟩
    have hk6a := hk6.1
    have hk6b := hk6.2
    have G1' := (hk6b (w2.next + 1) (by omega)).trans G1
    have G2' := (hk6b (w2.next + 1 + 1) (by omega)).trans G2
    by_cases hlt : j < M + n
    · have hyj : ((List.range (M + n)).map (closeF gs n))[j]? = some (closeF gs n j) := by rw [List.getElem?_map, List.getElem?_range hlt]; rfl
      have hy1 : ((List.range (M + n)).map (knB fs R))[j]? = some (knB fs R j) := by rw [List.getElem?_map, List.getElem?_range hlt]; rfl
      obtain ⟨b5, o5, ob5, cs5, gg5, rfl, hq5, ho5, hc5, ht5⟩ := KnAt.at (hK5.keep hk6) hyj
      obtain ⟨b6, o6, ob6, cs6, gg6, e6, hq6, ho6, hc6, ht6⟩ := KnAt.at (hks1.keep (kp5.trans hk6)) hy1
      cases e6
      obtain ⟨g, hg⟩ : ∃ g, fs[j]? = some g := ⟨fs[j], by simp [hlen, hlt]⟩
      have hcl := closeF_bal hck hbal j
      have hkn := knB_at hbal hg
      have hsj := hsame j g hg
      have v1 : veq 5 (Value.slice (some ⟨b1, o1, none⟩) (M + n) ck) (Value.slice (some ⟨b1, o1, none⟩) (M + n) ck) = true := veq_slice _ _ _ _ _
      have v5 : veq 5 (Value.slice (some ⟨b5, o5, none⟩) (M + n) c5) (Value.slice (some ⟨b5, o5, none⟩) (M + n) c5) = true := veq_slice _ _ _ _ _
      apply zz
      refine Cd.ra (h := ?_)
      apply Run.by_eq
      · intro self
        conv => lhs; simp -implicitDefEqProofs (maxSteps := 300000) (disch := omega) [-getElem?_pos, -getElem?_neg, h128, h127]
      try (with_reducible refine Run.ret ?_)
      apply zz
      apply Cd.ite rfl
      · conv => lhs; simp -implicitDefEqProofs (maxSteps := 300000) (disch := omega) [-getElem?_pos, -getElem?_neg]
      all_goals intro c3
      all_goals try (cases c3; done)
      all_goals try simp only [Bool.not_eq_true', Bool.not_eq_false', decide_eq_true_eq, decide_eq_false_iff_not] at c3
      all_goals apply zz
      · apply zz
        refine Cd.ra (h := ?_)
        apply Run.by_eq
        · intro self
          conv => lhs; simp -implicitDefEqProofs (maxSteps := 300000) (disch := omega) [-getElem?_pos, -getElem?_neg, h128]
        try (with_reducible refine Run.ret ?_)
        apply zz
        by_cases hji : j = i
        · subst hji
          obtain ⟨_, _, _, p3⟩ := flow_parts (flow_get hgT)
          rw [hown] at ht5
          have hEK := aggEqK_self (s := 1) (m := T) (by omega) (hTle.mono (by omega))
          have v7 : veq 5 (Value.slice (some ⟨w2.next + 1 + 1, 0, none⟩) (M + n) (M + n)) (Value.slice (some ⟨w2.next + 1 + 1, 0, none⟩) (M + n) (M + n)) = true := veq_slice _ _ _ _ _
          rw [KnownD.cs] at ht5
          change takeL 4 _ = some [Value.int .i64 T.a, Value.int .i64 T.b, Value.int .i64 T.c, Value.int .i64 T.d] at p3
          apply zz
          refine Cd.ra (h := ?_)
          apply Run.by_eq
          · intro self
            conv => lhs; simp -implicitDefEqProofs (maxSteps := 300000) (disch := omega) [-getElem?_pos, -getElem?_neg, h11]
          try (with_reducible refine Run.ret ?_)
          apply zz
          apply Cd.ite rfl
          · conv => lhs; simp -implicitDefEqProofs (maxSteps := 300000) (disch := omega) [-getElem?_pos, -getElem?_neg]
          all_goals intro c4
          all_goals try (cases c4; done)
          all_goals try simp only [Bool.not_eq_true', Bool.not_eq_false', decide_eq_true_eq, decide_eq_false_iff_not] at c4
          all_goals apply zz
          apply zz
          refine Cd.drawnH (pl := [(0, 0, false, false), (1, 0, false, false), (2, 3, false, false), (3, 7, false, false), (4, 0, false, false), (5, 16, false, false), (6, 0, false, false), (7, 112, false, false), (8, 240, false, false), (9, 496, false, false), (10, 1008, false, false), (11, 2047, false, false)]) [false, false, false, false, false, false, false, false, false, false, false, false] (by kernel_rfl) (by decide) (by decide) (by conv => lhs; simp only [List.map_cons, List.map_nil]) (by conv => lhs; simp [strip, orderedG, flagH]) ?_
          apply Run.by_eq
          · intro self
            conv => lhs; simp -implicitDefEqProofs (maxSteps := 300000) (disch := omega) [-getElem?_pos, -getElem?_neg, h15, h13, h11, hlt, ho5, hc5, ht5, G1', G2', p3, hEK, v5, v7]
          try (with_reducible refine Run.ret ?_)
          apply zz
          apply Cd.ite rfl
          · conv => lhs; simp -implicitDefEqProofs (maxSteps := 300000) (disch := omega) [-getElem?_pos, -getElem?_neg]
          all_goals intro c6
          all_goals try (cases c6; done)
          all_goals try simp only [Bool.not_eq_true', Bool.not_eq_false', decide_eq_true_eq, decide_eq_false_iff_not] at c6
          all_goals apply zz
          apply zz
          refine Cd.ra (h := ?_)
          apply Run.by_eq
          · intro self
            conv => lhs; simp -implicitDefEqProofs (maxSteps := 300000) (disch := omega) [-getElem?_pos, -getElem?_neg, h128]
          try (with_reducible refine Run.ret ?_)
          apply zz
          exact LoopK.nm (M + n - (j + 1)) (by omega) ⟨j + 1, by omega, rfl, by simp [hm3], by simp [h9], by simp [h11], by simp [h12], by simp [h13], by simp [h15], by simp [h127], by simp, hk6⟩
        · have hji' : ¬ (j : Int) = i := by omega
          apply zz
          refine Cd.ra (h := ?_)
          apply Run.by_eq
          · intro self
            conv => lhs; simp -implicitDefEqProofs (maxSteps := 300000) (disch := omega) [-getElem?_pos, -getElem?_neg, h11, hji']
          try (with_reducible refine Run.ret ?_)
          apply zz
          apply Cd.ite rfl
          · conv => lhs; simp -implicitDefEqProofs (maxSteps := 300000) (disch := omega) [-getElem?_pos, -getElem?_neg]
          all_goals intro c4
          all_goals try (cases c4; done)
          all_goals try simp only [Bool.not_eq_true', Bool.not_eq_false', decide_eq_true_eq, decide_eq_false_iff_not] at c4
          all_goals apply zz
          have hsr2 := stB_range fs j g
          rw [hkn] at hcl ht6
          obtain ⟨mj, hmj⟩ : ∃ mj, mj = if stB fs j g = 3 then Mass.zero else R j := ⟨_, rfl⟩
          rw [← hmj] at hcl ht6
          have hmle : mj.le 1536 := by
            rw [hmj]
            split
            · exact Mass.le_zero (by omega)
            · exact hRl j
          have hEK := aggEqK_self (s := stB fs j g) (m := mj) (by omega) (hmle.mono (by omega))
          have hp6 := (takeL_part ht6).1
          rw [KnownD.cs] at ht6
          by_cases h3 : stB fs j g = 3
          · cases fd with
            | false =>
              rw [h3] at ht6 hp6
              apply zz
              refine Cd.drawnH (pl := [(0, 0, false, false), (1, 0, false, false), (2, 3, false, false), (3, 7, false, false), (4, 15, false, false), (5, 31, false, false), (6, 63, false, false), (7, 127, false, false), (8, 127, false, false), (9, 511, false, false), (10, 1023, false, false), (11, 127, false, false), (12, 127, false, false), (13, 6271, false, false), (14, 14463, false, false), (15, 32767, false, false), (16, 65535, false, false), (17, 131071, false, false), (18, 262143, false, false), (19, 524287, false, false), (20, 1048575, false, false), (21, 1048575, false, false), (22, 4194303, false, false), (23, 8388607, false, false), (24, 1048575, false, false), (25, 1048575, false, false), (26, 51380223, false, false), (27, 118489087, false, false), (28, 268435455, false, false), (29, 536870911, false, false), (30, 1073741823, false, false)]) [false, false, false, false, false, false, false, false, false, false, false, false, false, false, false, false, false, false, false, false, false, false, false, false, false, false, false, false, false, false, false] (by kernel_rfl) (by decide) (by decide) (by conv => lhs; simp only [List.map_cons, List.map_nil]) (by conv => lhs; simp [strip, orderedG, flagH]) ?_
              apply Run.by_eq
              · intro self
                conv => lhs; simp -implicitDefEqProofs (maxSteps := 300000) (disch := omega) [-getElem?_pos, -getElem?_neg, h128, h9, h12, hlt, ho6, hc6, hp6, v1]
              try (with_reducible refine Run.ret ?_)
              apply zz
              apply Cd.ite rfl
              · conv => lhs; simp -implicitDefEqProofs (maxSteps := 300000) (disch := omega) [-getElem?_pos, -getElem?_neg]
              all_goals intro c6
              all_goals try (cases c6; done)
              all_goals try simp only [Bool.not_eq_true', Bool.not_eq_false', decide_eq_true_eq, decide_eq_false_iff_not] at c6
              all_goals apply zz
              apply zz
              refine Cd.ra (h := ?_)
              apply Run.by_eq
              · intro self
                conv => lhs; simp -implicitDefEqProofs (maxSteps := 300000) (disch := omega) [-getElem?_pos, -getElem?_neg, h128]
              try (with_reducible refine Run.ret ?_)
              apply zz
              exact LoopK.nm (M + n - (j + 1)) (by omega) ⟨j + 1, by omega, rfl, by simp [hm3], by simp [h9], by simp [h11], by simp [h12], by simp [h13], by simp [h15], by simp [h127], by simp, hk6⟩
            | true =>
              have h2 : stB fs i f = 2 := by simpa using hfd'
              have hcj := (hsj hji (.inr h2)).trans hcl
              rw [hcj, KnownD.cs] at ht5
              rw [h3] at ht5 ht6 hp6 hEK
              apply zz
              refine Cd.drawnH (pl := [(0, 0, false, false), (1, 0, false, false), (2, 3, false, false), (3, 7, false, false), (4, 15, false, false), (5, 31, false, false), (6, 63, false, false), (7, 127, false, false), (8, 127, false, false), (9, 511, false, false), (10, 1023, false, false), (11, 127, false, false), (12, 127, false, false), (13, 6271, false, false), (14, 14463, false, false), (15, 32767, false, false), (16, 65535, false, false), (17, 131071, false, false), (18, 262143, false, false), (19, 524287, false, false), (20, 1048575, false, false), (21, 1048575, false, false), (22, 4194303, false, false), (23, 8388607, false, false), (24, 1048575, false, false), (25, 1048575, false, false), (26, 51380223, false, false), (27, 118489087, false, false), (28, 268435455, false, false), (29, 536870911, false, false), (30, 1073741823, false, false)]) [false, false, false, false, false, false, false, false, false, false, false, false, false, false, false, false, false, false, false, false, false, false, false, false, false, false, false, false, false, false, false] (by kernel_rfl) (by decide) (by decide) (by conv => lhs; simp only [List.map_cons, List.map_nil]) (by conv => lhs; simp [strip, orderedG, flagH]) ?_
              apply Run.by_eq
              · intro self
                conv => lhs; simp -implicitDefEqProofs (maxSteps := 300000) (disch := omega) [-getElem?_pos, -getElem?_neg, h128, h9, h12, h15, hlt, ho6, hc6, hp6, ht6, ho5, hc5, ht5, hEK, v1, v5]
              try (with_reducible refine Run.ret ?_)
              apply zz
              apply Cd.ite rfl
              · conv => lhs; simp -implicitDefEqProofs (maxSteps := 300000) (disch := omega) [-getElem?_pos, -getElem?_neg]
              all_goals intro c6
              all_goals try (cases c6; done)
              all_goals try simp only [Bool.not_eq_true', Bool.not_eq_false', decide_eq_true_eq, decide_eq_false_iff_not] at c6
              all_goals apply zz
              apply zz
              refine Cd.ra (h := ?_)
              apply Run.by_eq
              · intro self
                conv => lhs; simp -implicitDefEqProofs (maxSteps := 300000) (disch := omega) [-getElem?_pos, -getElem?_neg, h128]
              try (with_reducible refine Run.ret ?_)
              apply zz
              exact LoopK.nm (M + n - (j + 1)) (by omega) ⟨j + 1, by omega, rfl, by simp [hm3], by simp [h9], by simp [h11], by simp [h12], by simp [h13], by simp [h15], by simp [h127], by simp, hk6⟩
          · have hcj := (hsj hji (.inl h3)).trans hcl
            rw [hcj, KnownD.cs] at ht5
            generalize stB fs j g = st at h3 ht5 ht6 hp6 hEK
            cases fd with
            | false =>
              apply zz
              refine Cd.drawnH (pl := [(0, 0, false, false), (1, 0, false, false), (2, 3, false, false), (3, 7, false, false), (4, 15, false, false), (5, 31, false, false), (6, 63, false, false), (7, 127, false, false), (8, 127, false, false), (9, 511, false, false), (10, 1023, false, false), (11, 127, false, false), (12, 127, false, false), (13, 6271, false, false), (14, 14463, false, false), (15, 32767, false, false), (16, 65535, false, false), (17, 131071, false, false), (18, 262143, false, false), (19, 524287, false, false), (20, 1048575, false, false), (21, 1048575, false, false), (22, 4194303, false, false), (23, 8388607, false, false), (24, 1048575, false, false), (25, 1048575, false, false), (26, 51380223, false, false), (27, 118489087, false, false), (28, 268435455, false, false), (29, 536870911, false, false), (30, 1073741823, false, false)]) [false, false, false, false, false, false, false, false, false, false, false, false, false, false, false, false, false, false, false, false, false, false, false, false, false, false, false, false, false, false, false] (by kernel_rfl) (by decide) (by decide) (by conv => lhs; simp only [List.map_cons, List.map_nil]) (by conv => lhs; simp [strip, orderedG, flagH]) ?_
              apply Run.by_eq
              · intro self
                conv => lhs; simp -implicitDefEqProofs (maxSteps := 300000) (disch := omega) [-getElem?_pos, -getElem?_neg, h128, h9, h12, h15, hlt, h3, ho6, hc6, hp6, ht6, ho5, hc5, ht5, hEK, v1, v5]
              try (with_reducible refine Run.ret ?_)
              apply zz
              apply Cd.ite rfl
              · conv => lhs; simp -implicitDefEqProofs (maxSteps := 300000) (disch := omega) [-getElem?_pos, -getElem?_neg]
              all_goals intro c6
              all_goals try (cases c6; done)
              all_goals try simp only [Bool.not_eq_true', Bool.not_eq_false', decide_eq_true_eq, decide_eq_false_iff_not] at c6
              all_goals apply zz
              apply zz
              refine Cd.ra (h := ?_)
              apply Run.by_eq
              · intro self
                conv => lhs; simp -implicitDefEqProofs (maxSteps := 300000) (disch := omega) [-getElem?_pos, -getElem?_neg, h128]
              try (with_reducible refine Run.ret ?_)
              apply zz
              exact LoopK.nm (M + n - (j + 1)) (by omega) ⟨j + 1, by omega, rfl, by simp [hm3], by simp [h9], by simp [h11], by simp [h12], by simp [h13], by simp [h15], by simp [h127], by simp, hk6⟩
            | true =>
              apply zz
              refine Cd.drawnH (pl := [(0, 0, false, false), (1, 0, false, false), (2, 3, false, false), (3, 7, false, false), (4, 15, false, false), (5, 31, false, false), (6, 63, false, false), (7, 127, false, false), (8, 127, false, false), (9, 511, false, false), (10, 1023, false, false), (11, 127, false, false), (12, 127, false, false), (13, 6271, false, false), (14, 14463, false, false), (15, 32767, false, false), (16, 65535, false, false), (17, 131071, false, false), (18, 262143, false, false), (19, 524287, false, false), (20, 1048575, false, false), (21, 1048575, false, false), (22, 4194303, false, false), (23, 8388607, false, false), (24, 1048575, false, false), (25, 1048575, false, false), (26, 51380223, false, false), (27, 118489087, false, false), (28, 268435455, false, false), (29, 536870911, false, false), (30, 1073741823, false, false)]) [false, false, false, false, false, false, false, false, false, false, false, false, false, false, false, false, false, false, false, false, false, false, false, false, false, false, false, false, false, false, false] (by kernel_rfl) (by decide) (by decide) (by conv => lhs; simp only [List.map_cons, List.map_nil]) (by conv => lhs; simp [strip, orderedG, flagH]) ?_
              apply Run.by_eq
              · intro self
                conv => lhs; simp -implicitDefEqProofs (maxSteps := 300000) (disch := omega) [-getElem?_pos, -getElem?_neg, h128, h9, h12, h15, hlt, h3, ho6, hc6, hp6, ht6, ho5, hc5, ht5, hEK, v1, v5]
              try (with_reducible refine Run.ret ?_)
              apply zz
              apply Cd.ite rfl
              · conv => lhs; simp -implicitDefEqProofs (maxSteps := 300000) (disch := omega) [-getElem?_pos, -getElem?_neg]
              all_goals intro c6
              all_goals try (cases c6; done)
              all_goals try simp only [Bool.not_eq_true', Bool.not_eq_false', decide_eq_true_eq, decide_eq_false_iff_not] at c6
              all_goals apply zz
              apply zz
              refine Cd.ra (h := ?_)
              apply Run.by_eq
              · intro self
                conv => lhs; simp -implicitDefEqProofs (maxSteps := 300000) (disch := omega) [-getElem?_pos, -getElem?_neg, h128]
              try (with_reducible refine Run.ret ?_)
              apply zz
              exact LoopK.nm (M + n - (j + 1)) (by omega) ⟨j + 1, by omega, rfl, by simp [hm3], by simp [h9], by simp [h11], by simp [h12], by simp [h13], by simp [h15], by simp [h127], by simp, hk6⟩
      · omega
    · obtain rfl : j = M + n := by omega
      apply zz
      refine Cd.ra (h := ?_)
      apply Run.by_eq
      · intro self
        conv => lhs; simp -implicitDefEqProofs (maxSteps := 300000) (disch := omega) [-getElem?_pos, -getElem?_neg, h128, h127]
      try (with_reducible refine Run.ret ?_)
      apply zz
      apply Cd.ite rfl
      · conv => lhs; simp -implicitDefEqProofs (maxSteps := 300000) (disch := omega) [-getElem?_pos, -getElem?_neg]
      all_goals intro c3
      all_goals try (cases c3; done)
      all_goals try simp only [Bool.not_eq_true', Bool.not_eq_false', decide_eq_true_eq, decide_eq_false_iff_not] at c3
      all_goals apply zz
      exact ⟨rfl, by simp [hm3]⟩
  rintro x f3 s3 ⟨rfl, hm3⟩
  apply zz
  refine Cd.ra (h := ?_)
  apply Run.by_eq
  · intro self
    conv => lhs; simp -implicitDefEqProofs (maxSteps := 300000) (disch := omega) [-getElem?_pos, -getElem?_neg]
  try (with_reducible refine Run.ret ?_)
  apply zz
  refine Run.call (Ev.stub rfl ?_)
  apply Run.by_eq
  · intro self
    conv => lhs; simp -implicitDefEqProofs (maxSteps := 300000) (disch := omega) [-getElem?_pos, -getElem?_neg]
  try (with_reducible refine Run.ret ?_)
  apply zz
  apply Leave.mk (by first | exact .inl rfl | exact .inr rfl) (by simp only [Fr.marks_put, fr0_marks, hm3])
  · conv => lhs; simp -implicitDefEqProofs (disch := omega) [Try.results10, hm3]
  rfl
end Go.Proofs.Ytjehpgflhgpalaa
namespace Go.Proofs.Ytjehpgflhgpalaa
open Go RowKit
theorem fitsW : Kern.tabFits Try.prog = true := by kernel_rfl
theorem works_true : Kern.isTrue ((Kern.run (Kern.tabOf Try.prog) 30000).call 13 [] ⟨.leaf, 0⟩) = true := by kernel_rfl
theorem works_calls (w : World) : Calls Try.prog 13 #[] w fun e w' => e = .returned (.bool true) ∧ Below w.heap.size w w' :=
  Kern.calls_of_run (Kern.tabOf_ok fitsW) rfl (Kern.StubOk.none rfl) works_true w
end Go.Proofs.Ytjehpgflhgpalaa
namespace Go.Proofs.Ytjehpgflhgpalaa
open Go Kern RowKit
/-- A slice of the world whose elements are known, cell by cell. -/
def SlW (W : World) (n : Nat) (v : Value) (l : List (List Value)) : Prop :=
  (l = [] ∧ v = .slice none 0 0) ∨ ∃ (b off cap : Nat) (C : Array Value) (e : TypeId) (fr : Nat × Nat), v = .slice (some ⟨b, off, none⟩) l.length cap ∧ W.heap[b]? = some (.cells C e fr) ∧
    (l ≠ [] → off + l.flatten.length ≤ C.size ∧ (C.toList.drop off).take l.flatten.length = l.flatten)
theorem romAt_pushed {s : St} {o : AObj} {i : Nat} (h : i ≠ s.next) : romAt (s.pushed o).heap i = romAt s.heap i := by
  unfold romAt; rw [get_pushed_old _ _ _ h]
theorem WRel_rom {N : Nat} {σ : Ren} {s : St} {w : World} (hw : WRel N σ s w) {b sh : Nat} {c : List Value} {C : Array Value} {e : TypeId} {fr : Nat × Nat} (hb : w.heap[b]? = some (.cells C e fr)) (hN : b < N) (hs : sh + c.length ≤ C.size)
    (h : LRel σ c ((C.toList.drop sh).take c.length)) : WRel N (σ.add s.next b sh none) (s.pushed (.rom c)) w := by
  have hle := Ren.le_add (b := b) (sh := sh) (x := none) (hw.fresh (Nat.le_refl s.next))
  have hlt : b < w.heap.size := (Array.getElem?_eq_some_iff.1 hb).1
  refine ⟨hw.base, ?_, ?_, ?_, ?_⟩
  · intro i b' sh' x' hi
    by_cases ei : i = s.next
    · subst ei
      rw [Ren.add_same] at hi; cases hi
      have : romAt (s.pushed (.rom c)).heap s.next = true := by unfold romAt; rw [get_pushed_new]; rfl
      exact ⟨⟨fun k => (by rw [this] at k; cases k), fun _ => hN⟩, hlt⟩
    · rw [Ren.add_ne ei] at hi
      rw [romAt_pushed ei]
      exact hw.lt hi
  · intro i hi
    rw [Ren.add_ne (by have : s.next + 1 ≤ i := hi; omega)]
    exact hw.fresh (by have : s.next + 1 ≤ i := hi; omega)
  · intro i b' sh' x' o hi ho
    by_cases ei : i = s.next
    · subst ei
      rw [Ren.add_same] at hi; cases hi
      rw [get_pushed_new] at ho; cases ho
      exact ⟨_, hb, .rom rfl hs (h.mono hle)⟩
    · rw [Ren.add_ne ei] at hi
      rw [get_pushed_old _ _ _ ei] at ho
      obtain ⟨O, h1, h2⟩ := hw.real hi ho
      exact ⟨O, h1, h2.mono hle⟩
  · intro i j b' sh1 x1 sh2 x2 o1 o2 hi hj h1 h2 d1 d2 hr
    by_cases ei : i = s.next
    · subst ei
      rw [get_pushed_new] at h1; cases h1; cases hr
    · rw [Ren.add_ne ei] at hi
      rw [get_pushed_old _ _ _ ei] at h1
      by_cases ej : j = s.next
      · subst ej
        rw [Ren.add_same] at hj; cases hj
        have : romAt s.heap i = false := by unfold romAt; rw [h1]; exact hr
        exact absurd ((hw.lt hi).1.1 this) (by omega)
      · rw [Ren.add_ne ej] at hj
        rw [get_pushed_old _ _ _ ej] at h2
        exact hw.inj hi hj h1 h2 d1 d2 hr
/-- A slice of the world gets a read-only block of the calculation. -/
theorem attach {N : Nat} {σ : Ren} {s : St} {w : World} (hw : WRel N σ s w) (hN : N = w.heap.size) {n : Nat} {v : Value} {l : List (List Value)} (h : SlW w n v l) (hl : ∀ x ∈ l, x.length = n) (hc : l.flatten.all closed1 = true) :
    ∃ τ s' v', σ.le τ ∧ WRel N τ s' w ∧ VRel τ v' v ∧ SlAt n s' v' l ∧ Keep s s' := by
  rcases h with ⟨rfl, rfl⟩ | ⟨b, off, cap, C, e, fr, rfl, hb, hf⟩
  · exact ⟨σ, s, .slice none 0 0, σ.le_refl, hw, .sliceNil _ _, .nil 0, Keep.refl _⟩
  have hlt : b < w.heap.size := (Array.getElem?_eq_some_iff.1 hb).1
  by_cases he : l = []
  · subst he
    have hw2 := WRel_rom hw (sh := 0) (c := []) hb (by omega) (by simp) (by simpa using LRel.nil)
    refine ⟨_, _, .slice (some ⟨s.next, off, none⟩) 0 cap, Ren.le_add (hw.fresh (Nat.le_refl _)), hw2, ?_, ?_, (Keep.refl s).pushed _⟩
    · have := VRel.slice (σ := σ.add s.next b 0 none) (i := s.next) (o := off) (o' := off) (b := b) (s := 0) (l := 0) (c := cap) (c' := cap) (x := none) Ren.add_same ⟨rfl, rfl⟩
      rw [Nat.zero_add] at this
      exact this
    · exact SlAt.mk (l := []) (Nat.lt_succ_self _) (get_pushed_new _ _) rfl (fun i e h => by simp at h)
  · obtain ⟨h1, h2⟩ := hf he
    have hw2 := WRel_rom hw (sh := off) (c := l.flatten) hb (by omega) h1 (by rw [h2]; exact closedL_rel hc)
    refine ⟨_, _, .slice (some ⟨s.next, 0, none⟩) l.length cap, Ren.le_add (hw.fresh (Nat.le_refl _)), hw2, ?_, ?_, (Keep.refl s).pushed _⟩
    · exact VRel.slice (σ := σ.add s.next b off none) (i := s.next) (o := 0) (o' := 0) (b := b) (s := off) (l := l.length) (c := cap) (c' := cap) (x := none) Ren.add_same ⟨rfl, rfl⟩
    · exact SlAt.mk (Nat.lt_succ_self _) (get_pushed_new _ _) rfl (fun i e h => by rw [Nat.zero_add]; exact drop_flat hl h)
theorem stubOk : StubOk Try.prog TT :=
  ⟨fun {g} h => by cases h; exact ⟨Try.f13, by kernel_rfl, by kernel_rfl, rfl⟩, fun {g} h w => by cases h; exact works_calls w⟩
/-- What the calculation finds true holds of the call in the world. -/
theorem calls_of_ev {g : FuncId} {args : List Value} {s : St} (h : Ev TT g args s fun r _ => r = .bool true) {N : Nat} {σ : Ren} {w : World} (hw : WRel N σ s w) (hN : N = w.heap.size) {args' : Array Value} (ha : LRel σ args args'.toList) :
    Calls Try.prog g args' w fun e w' => e = .returned (.bool true) ∧ Below w.heap.size w w' := by
  obtain ⟨m, ⟨v, s'⟩, h1, h2⟩ := h
  have h2' : v = .bool true := h2
  subst h2'
  refine ((run_ok tabOk rfl stubOk m).call (h1 m (Nat.le_refl _)) hw ha).mono fun e w' he => ?_
  obtain ⟨τ, v', rfl, hx, _, hv⟩ := he
  rw [hv.of_bool]
  exact ⟨rfl, hN ▸ hx.below⟩
end Go.Proofs.Ytjehpgflhgpalaa
namespace Go.Proofs.Ytjehpgflhgpalaa
open Go Kern RowKit Go.ChangeShapes Go.WideShapes Go.ChangeAt
open Go.ChangeMaps (open_string)
theorem take_eq_of {α : Type} {L cs : List α} {k n : Nat} (hl : cs.length = n) (h : ∀ j, j < n → L[k + j]? = cs[j]?) : (L.drop k).take n = cs := by
  apply List.ext_getElem?
  intro j
  rw [List.getElem?_take, List.getElem?_drop]
  by_cases hj : j < n
  · rw [if_pos hj]; exact h j hj
  · rw [if_neg hj, List.getElem?_eq_none (by omega)]
theorem rows_flat {α : Type} {L : List α} {k n : Nat} (g : Nat → List α) : ∀ {len : Nat}, (∀ i, i < len → (L.drop (k + i * n)).take n = g i) → ((List.range len).map g).flatten = (L.drop k).take (len * n)
  | 0, _ => by simp
  | len + 1, h => by
    rw [List.range_succ, List.map_append, List.flatten_append, rows_flat g (fun i hi => h i (by omega)), List.map_cons, List.map_nil, List.flatten_cons, List.flatten_nil, List.append_nil, ← h len (by omega),
      Nat.add_mul, Nat.one_mul, List.take_add, List.drop_drop]
/-- A slice that the row reads, as a list of its elements' cells. -/
theorem slW_of {H : Type} {enc : TypeId × Value → H} {P : Program} {W : World} {t e : TypeId} {n fuel : Nat} {v : Value} {x : DataW H × List MemPlace} (ht : P.underlying t = some (.slice e)) (hn : P.cellsOf e = n) (hn0 : 0 < n)
    (hok : Cell.ok P W .any 0 t v) (h : DataW.trod enc P W 0 (fun _ => true) true fuel t [v] = some x) :
    ∃ l, SlW W n v l ∧ (∀ y ∈ l, y.length = n) ∧ ∀ y ∈ l, ∃ m z, DataW.trod enc P W 0 (fun _ => true) true m e y = some z := by
  rcases Go.Deep.open_slice ht h with ⟨hcs, _⟩ | ⟨a, len, cap, m, q, D, Pl, hcs, _, hlc, _, hm, _, hel⟩
  · simp at hcs; subst hcs
    exact ⟨[], .inl ⟨rfl, rfl⟩, by simp, by simp⟩
  · simp at hcs; subst hcs
    simp only [Cell.ok, ht] at hok
    obtain ⟨_, _, _, hsp, row, cells, hsh, _⟩ := hok
    obtain ⟨b, off, spot⟩ := a
    simp only at hsp; subst hsp
    obtain ⟨C, E, fr, hb⟩ : ∃ C E fr, W.heap[b]? = some (.cells C E fr) := by
      unfold World.shape? at hsh
      simp only at hsh
      split at hsh
      · rename_i c el fr hh; exact ⟨c, el, fr, hh⟩
      all_goals cases hsh
    rw [hn] at hel
    simp at hm; subst hm
    have hrow : ∀ i, i < len → ∃ cs', cs'.length = n ∧ (∀ j, j < n → C.toList[off + i * n + j]? = cs'[j]?) ∧ ∃ z, DataW.trod enc P W 0 (fun _ => true) true q e cs' = some z := fun i hi => by
      obtain ⟨cs', h1, h2⟩ := hel i (by omega)
      obtain ⟨_, h3, h4⟩ := World.cells?_some h1
      refine ⟨cs', h3, fun j hj => ?_, _, h2⟩
      have := h4 j hj
      rw [addr_add, addr_add] at this
      simp only [World.cell?, hb] at this
      simpa using this
    have hg : ∀ i, i < len → ((C.toList.drop (off + i * n)).take n).length = n ∧ ∃ z, DataW.trod enc P W 0 (fun _ => true) true q e ((C.toList.drop (off + i * n)).take n) = some z := fun i hi => by
      obtain ⟨cs', h1, h2, z, h3⟩ := hrow i hi
      rw [take_eq_of h1 h2]
      exact ⟨h1, z, h3⟩
    have hfl := rows_flat (L := C.toList) (k := off) (n := n) (len := len) (fun i => (C.toList.drop (off + i * n)).take n) fun _ _ => rfl
    refine ⟨(List.range len).map fun i => (C.toList.drop (off + i * n)).take n, .inr ⟨b, off, m, C, E, fr, by simp, hb, fun hne => ?_⟩, fun y hy => ?_, fun y hy => ?_⟩
    · rw [hfl]
      have hlen : 0 < len := by
        rcases Nat.eq_zero_or_pos len with h | h
        · subst h; simp at hne
        · exact h
      obtain ⟨cs', h1, h2, _⟩ := hrow (len - 1) (by omega)
      have h3 := h2 (n - 1) (by omega)
      rw [List.getElem?_eq_getElem (l := cs') (by omega)] at h3
      have h4 := (List.getElem?_eq_some_iff.1 h3).1
      have h5 : len * n = (len - 1) * n + n := by rw [← Nat.succ_mul]; congr 1; omega
      have h6 : off + len * n ≤ C.size := by simp at h4; omega
      have h7 : ((C.toList.drop off).take (len * n)).length = len * n := by simp; omega
      rw [h7]
      exact ⟨h6, rfl⟩
    · obtain ⟨i, hi, rfl⟩ := List.mem_map.1 hy
      exact (hg i (by simpa using hi)).1
    · obtain ⟨i, hi, rfl⟩ := List.mem_map.1 hy
      obtain ⟨z, hz⟩ := (hg i (by simpa using hi)).2
      exact ⟨_, z, hz⟩
theorem list_of {α β : Type} {g : β → α} : ∀ {l : List α}, (∀ y ∈ l, ∃ f, y = g f) → ∃ fs : List β, l = fs.map g
  | [], _ => ⟨[], rfl⟩
  | y :: r, h => by
    obtain ⟨f, rfl⟩ := h y (.head _)
    obtain ⟨fs, rfl⟩ := list_of (l := r) fun z hz => h z (.tail _ hz)
    exact ⟨f :: fs, rfl⟩
section
variable {H : Type} {enc : TypeId × Value → H} {W : World}
end
end Go.Proofs.Ytjehpgflhgpalaa
namespace Go.Proofs.Ytjehpgflhgpalaa
open Go Kern RowKit Go.ChangeShapes Go.WideShapes Go.ChangeAt
/-! A mill by numbers, as the row reads it -/
theorem un5 : Try.prog.underlying 5 = some (.int .u8) := by kernel_rfl
theorem un76 : Try.prog.underlying 76 = some (.int .u16) := by kernel_rfl
theorem un74 : Try.prog.underlying 74 = some (.slice 122) := by kernel_rfl
theorem un75 : Try.prog.underlying 75 = some (.slice 5) := by kernel_rfl
theorem un122 : Try.prog.underlying 122 = some (.array 2 5) := by kernel_rfl
theorem un78 : ∃ f0 f1 f2 f3 : Field, Try.prog.underlying 78 = some (.struct #[f0, f1, f2, f3]) ∧ (f0.type = 5 ∧ f0.offset = 0) ∧ (f1.type = 74 ∧ f1.offset = 1) ∧ (f2.type = 75 ∧ f2.offset = 2) ∧ (f3.type = 76 ∧ f3.offset = 3) := ⟨_, _, _, _, Try.underlying78, ⟨rfl, rfl⟩, ⟨rfl, rfl⟩, ⟨rfl, rfl⟩, rfl, rfl⟩
theorem ce5 : Try.prog.cellsOf 5 = 1 := by kernel_rfl
theorem ce76 : Try.prog.cellsOf 76 = 1 := by kernel_rfl
theorem ce74 : Try.prog.cellsOf 74 = 1 := by kernel_rfl
theorem ce75 : Try.prog.cellsOf 75 = 1 := by kernel_rfl
theorem ce122 : Try.prog.cellsOf 122 = 2 := by kernel_rfl
theorem ce78 : Try.prog.cellsOf 78 = 4 := by kernel_rfl
theorem ct78 : Try.prog.cellTypes Try.prog.depth 78 = some [5, 74, 75, 76] := by kernel_rfl
theorem range8_of_wf {x : Int} (h : (Lit.int .u8 x).wf = true) : 0 ≤ x ∧ x < 256 := by
  simp [Lit.wf, IntKind.min, IntKind.max, IntKind.bits, IntKind.signed] at h
  omega
section
variable {H : Type} {enc : TypeId × Value → H} {W : World}
theorem trod_array2 {P : Program} {base : Nat} {spare : Nat → Bool} {held : Bool} {w : World} {t e : TypeId} {fuel : Nat} {c0 c1 : Value} {x : DataW H × List MemPlace} (ht : P.underlying t = some (.array 2 e)) (hce : P.cellsOf e = 1)
    (h : DataW.trod enc P w base spare held fuel t [c0, c1] = some x) :
    ∃ y0 y1 n, DataW.trod enc P w base spare held n e [c0] = some y0 ∧ DataW.trod enc P w base spare held n e [c1] = some y1 := by
  cases fuel with
  | zero => simp [DataW.trod] at h
  | succ n =>
    unfold DataW.trod at h
    rw [ht] at h
    have r2 : List.range 2 = [0, 1] := rfl
    simp [r2, hce] at h
    obtain ⟨_, h⟩ := h
    cases h0 : DataW.trod enc P w base spare held n e [c0] with
    | none => simp [h0] at h
    | some y0 =>
      cases h1 : DataW.trod enc P w base spare held n e [c1] with
      | none => simp [h0, h1] at h
      | some y1 => exact ⟨y0, y1, n, h0, h1⟩
theorem byte_of {m : Nat} {cs : List Value} {z : DataW H × List MemPlace} (h : DataW.trod enc Try.prog W 0 (fun _ => true) true m 5 cs = some z) : ∃ x : Int, cs = [Value.int .u8 x] ∧ 0 ≤ x ∧ x < 256 := by
  obtain ⟨x, e, _, w⟩ := DataW.trod_int un5 h
  exact ⟨x, e, range8_of_wf w⟩
theorem end_of {m : Nat} {cs : List Value} {z : DataW H × List MemPlace} (hl : cs.length = 2) (h : DataW.trod enc Try.prog W 0 (fun _ => true) true m 122 cs = some z) : ∃ e : { e : Int × Int // (0 ≤ e.1 ∧ e.1 < 256) ∧ (0 ≤ e.2 ∧ e.2 < 256) }, cs = [Value.int .u8 e.1.1, Value.int .u8 e.1.2] := by
  match cs, hl with
  | [c0, c1], _ =>
    obtain ⟨y0, y1, n, h0, h1⟩ := trod_array2 un122 ce5 h
    obtain ⟨x0, e0, r0⟩ := byte_of h0
    obtain ⟨x1, e1, r1⟩ := byte_of h1
    simp at e0 e1
    subst e0 e1
    exact ⟨⟨(x0, x1), r0, r1⟩, rfl⟩
theorem sl_len {P : Program} {t e : TypeId} {n : Nat} {v : Value} {l : List (List Value)} (ht : P.underlying t = some (.slice e)) (hok : Cell.ok P W .any 0 t v) (h : SlW W n v l) : (l.length : Int) ≤ 9223372036854775807 := by
  rcases h with ⟨rfl, _⟩ | ⟨b, off, cap, C, E, fr, rfl, _, _⟩
  · simp
  · simp only [Cell.ok, ht] at hok
    obtain ⟨h1, h2, _⟩ := hok
    have : IntKind.i64.max = 9223372036854775807 := by kernel_rfl
    omega
set_option maxRecDepth 100000 in
theorem bytes_ok {v : Value} {fuel : Nat} {x : DataW H × List MemPlace} (hok : Cell.ok Try.prog W .any 0 75 v) (hf : DataW.trod enc Try.prog W 0 (fun _ => true) true fuel 75 [v] = some x) :
    ∃ xs : List Int, SlW W 1 v (xs.map fun x => [Value.int .u8 x]) ∧ (∀ x ∈ xs, 0 ≤ x ∧ x < 256) ∧ (xs.length : Int) ≤ 9223372036854775807 := by
  obtain ⟨l, g1, g2, g3⟩ := slW_of un75 ce5 (by omega) hok hf
  have hlen := sl_len un75 hok g1
  obtain ⟨xs, rfl⟩ := list_of (g := fun x : { x : Int // 0 ≤ x ∧ x < 256 } => [Value.int .u8 x.1]) fun y hy => by
    obtain ⟨m, z, hz⟩ := g3 y hy
    obtain ⟨x, e, r⟩ := byte_of hz
    exact ⟨⟨x, r⟩, e⟩
  refine ⟨xs.map (·.1), by rw [List.map_map]; exact g1, fun x hx => ?_, by simpa using hlen⟩
  obtain ⟨y, _, rfl⟩ := List.mem_map.1 hx
  exact y.2
set_option maxRecDepth 100000 in
theorem ends_ok {v : Value} {fuel : Nat} {x : DataW H × List MemPlace} (hok : Cell.ok Try.prog W .any 0 74 v) (hf : DataW.trod enc Try.prog W 0 (fun _ => true) true fuel 74 [v] = some x) :
    ∃ es : List (Int × Int), SlW W 2 v (es.map fun e => [Value.int .u8 e.1, Value.int .u8 e.2]) ∧ ∀ e ∈ es, (0 ≤ e.1 ∧ e.1 < 256) ∧ (0 ≤ e.2 ∧ e.2 < 256) := by
  obtain ⟨l, g1, g2, g3⟩ := slW_of un74 ce122 (by omega) hok hf
  obtain ⟨xs, rfl⟩ := list_of (g := fun e : { e : Int × Int // (0 ≤ e.1 ∧ e.1 < 256) ∧ (0 ≤ e.2 ∧ e.2 < 256) } => [Value.int .u8 e.1.1, Value.int .u8 e.1.2]) fun y hy => by
    obtain ⟨m, z, hz⟩ := g3 y hy
    exact end_of (g2 y hy) hz
  refine ⟨xs.map (·.1), by rw [List.map_map]; exact g1, fun x hx => ?_⟩
  obtain ⟨y, _, rfl⟩ := List.mem_map.1 hx
  exact y.2
set_option maxRecDepth 100000 in
theorem mill_of {v : Value} {d : DataW H} {p : List MemPlace} (hv : Value.okWide Try.prog W .any 0 78 v) (h : DataW.Trod enc Try.prog W 0 (fun _ => true) true 78 v d p) :
    ∃ (U K : Int) (ve vm : Value) (es : List (Int × Int)) (ms : List Int), v = .agg #[.int .u8 U, ve, vm, .int .u16 K] ∧ (0 ≤ U ∧ U < 256) ∧ SlW W 2 ve (es.map fun e => [Value.int .u8 e.1, Value.int .u8 e.2]) ∧ SlW W 1 vm (ms.map fun x => [Value.int .u8 x]) ∧
      (∀ e ∈ es, (0 ≤ e.1 ∧ e.1 < 256) ∧ (0 ≤ e.2 ∧ e.2 < 256)) ∧ ∀ x ∈ ms, 0 ≤ x ∧ x < 256 := by
  obtain ⟨f0, f1, f2, f3, hu, ⟨t0, o0⟩, ⟨t1, o1⟩, ⟨t2, o2⟩, t3, o3⟩ := un78
  have hv' := hv
  simp only [Value.okWide, hu] at hv'
  obtain ⟨cs, rfl, hsz, ts, hts, _, hrow⟩ := hv'
  rw [ct78] at hts; cases hts
  rw [ce78] at hsz
  obtain ⟨fuel, hf⟩ := h
  obtain ⟨l⟩ := cs
  match l, hsz with
  | [c0, c1, c2, c3], _ =>
    obtain ⟨y0, y1, y2, y3, n, _, _, h0, h1, h2, h3⟩ := Go.Joins.trod_struct4 hu hf
    rw [t0, o0, ce5] at h0
    rw [t1, o1, ce74] at h1
    rw [t2, o2, ce75] at h2
    rw [t3, o3, ce76] at h3
    obtain ⟨U, e0, rU⟩ := byte_of h0
    obtain ⟨K, e3, _, _⟩ := DataW.trod_int un76 h3
    simp [Value.cells] at e0 e3 h1 h2
    subst e0 e3
    obtain ⟨w1, hw1, hok1⟩ := hrow 1 c1 rfl
    simp at hw1; subst hw1
    obtain ⟨w2, hw2, hok2⟩ := hrow 2 c2 rfl
    simp at hw2; subst hw2
    obtain ⟨a, len, cap, rfl⟩ : ∃ a len cap, c1 = .slice a len cap := by
      simp only [Cell.okWide, un74] at hok1
      cases c1 <;> simp_all [Cell.ok]
    have hok1' : Cell.ok Try.prog W .any 0 74 (.slice a len cap) := by
      simp only [Cell.okWide, un74] at hok1; exact hok1
    obtain ⟨a2, len2, cap2, rfl⟩ : ∃ a len cap, c2 = .slice a len cap := by
      simp only [Cell.okWide, un75] at hok2
      cases c2 <;> simp_all [Cell.ok]
    have hok2' : Cell.ok Try.prog W .any 0 75 (.slice a2 len2 cap2) := by
      simp only [Cell.okWide, un75] at hok2; exact hok2
    obtain ⟨es, g1, g2⟩ := ends_ok hok1' h1
    obtain ⟨ms, g3, g4, _⟩ := bytes_ok hok2' h2
    exact ⟨U, K, _, _, es, ms, rfl, rU, g1, g3, g2, g4⟩
end
/-- A mill of the world in the calculation's memory. -/
theorem attach_mill {W : World} {ve vm : Value} {es : List (Int × Int)} {ms : List Int} {N : Nat} {σ : Ren} {s : St} (hw : WRel N σ s W) (hN : N = W.heap.size) (U K : Int) (he : SlW W 2 ve (es.map fun e => [Value.int .u8 e.1, Value.int .u8 e.2])) (hm : SlW W 1 vm (ms.map fun x => [Value.int .u8 x])) :
    ∃ τ s' ve' vm', σ.le τ ∧ WRel N τ s' W ∧ VRel τ (millV U ve' vm' K) (.agg #[.int .u8 U, ve, vm, .int .u16 K]) ∧ EndsAt s' ve' es ∧ BytesAt s' vm' ms ∧ Keep s s' := by
  obtain ⟨σ1, s1, ve', l1, hw1, hv, hs1, k1⟩ := attach hw hN he (fun x hx => by obtain ⟨f, _, rfl⟩ := List.mem_map.1 hx; rfl) (by
    rw [List.all_eq_true]; intro y hy
    obtain ⟨z, hz, hy⟩ := List.mem_flatten.1 hy
    obtain ⟨f, _, rfl⟩ := List.mem_map.1 hz
    simp at hy
    rcases hy with rfl | rfl <;> rfl)
  obtain ⟨σ2, s2, vm', l2, hw2, hv2, hs2, k2⟩ := attach hw1 hN hm (fun x hx => by obtain ⟨f, _, rfl⟩ := List.mem_map.1 hx; rfl) (by
    rw [List.all_eq_true]; intro y hy
    obtain ⟨z, hz, hy⟩ := List.mem_flatten.1 hy
    obtain ⟨f, _, rfl⟩ := List.mem_map.1 hz
    simp at hy
    subst hy; rfl)
  exact ⟨σ2, s2, ve', vm', fun i r h => l2 i r (l1 i r h), hw2, .agg (.cons (.int _ _) (.cons (hv.mono l2) (.cons hv2 (.cons (.int _ _) .nil)))), hs1.keep k2, hs2, k1.trans k2⟩
theorem Try.own : ownKnob Try.prog.godebug = none := by kernel_rfl
theorem laidB : laidOutB Try.prog = true := by kernel_rfl
theorem again_of {H : Type} {enc : TypeId × Value → H} {t : TypeId} {W W' : World} {v : Value} {d : DataW H} {p : List MemPlace} (hr : Try.prog.readableRec t = true) (ht : t < Try.prog.types.size)
    (h : DataW.Trod enc Try.prog W 0 (fun _ => true) true t v d p) (hb : Below W.heap.size W W') : DataW.Trod enc Try.prog W' 0 (fun b => decide (b < W.heap.size)) true t v d p :=
  Below.trod laidB hr ht h hb (DataW.TrodAll.lt (trodAll_mk1 h))
end Go.Proofs.Ytjehpgflhgpalaa
namespace Go.Proofs.Ytjehpgflhgpalaa
open Go Kern RowKit Go.ChangeShapes Go.WideShapes Go.ChangeAt
theorem un86 : Try.prog.underlying 86 = some (.array 4 5) := by kernel_rfl
theorem ce86 : Try.prog.cellsOf 86 = 4 := by kernel_rfl
section
variable {H : Type} {enc : TypeId × Value → H} {W : World}
set_option maxRecDepth 100000 in
theorem four_of {v : Value} {d : DataW H} {p : List MemPlace} (hv : Value.okWide Try.prog W .any 0 86 v) (h : DataW.Trod enc Try.prog W 0 (fun _ => true) true 86 v d p) : ∃ m : Mass, v = .agg #[.int .u8 m.a, .int .u8 m.b, .int .u8 m.c, .int .u8 m.d] ∧ ∀ q, q < 4 → 0 ≤ m.at q ∧ m.at q < 256 := by
  obtain ⟨fuel, hf⟩ := h
  simp only [Value.okWide, un86] at hv
  obtain ⟨cs, rfl, hsz, _⟩ := hv
  rw [ce86] at hsz
  obtain ⟨l⟩ := cs
  match l, hsz with
  | [c3, c4, c5, c6], _ =>
    obtain ⟨_, _, _, _, n', _, g0, g1, g2, g3⟩ := trod_array4 un86 ce5 hf
    obtain ⟨x3, e3, w3⟩ := byte_of g0
    obtain ⟨x4, e4, w4⟩ := byte_of g1
    obtain ⟨x5, e5, w5⟩ := byte_of g2
    obtain ⟨x6, e6, w6⟩ := byte_of g3
    simp at e3 e4 e5 e6
    subst e3 e4 e5 e6
    refine ⟨⟨x3, x4, x5, x6⟩, rfl, fun q hq => ?_⟩
    match q, hq with
    | 0, _ => exact w3
    | 1, _ => exact w4
    | 2, _ => exact w5
    | 3, _ => exact w6
end
theorem lawM_calls (U K fl : Int) (bm : Mass) (ve vm : Value) (es : List (Int × Int)) (ms : List Int) (W : World) (hU : 0 ≤ U ∧ U < 256) (hfl : 0 ≤ fl ∧ fl < 256) (hbb : ∀ q, q < 4 → 0 ≤ bm.at q ∧ bm.at q < 256) (hes : SlW W 2 ve (es.map fun e => [Value.int .u8 e.1, Value.int .u8 e.2])) (hms : SlW W 1 vm (ms.map fun x => [Value.int .u8 x]))
    (hbe : ∀ e ∈ es, (0 ≤ e.1 ∧ e.1 < 256) ∧ (0 ≤ e.2 ∧ e.2 < 256)) (hbm : ∀ x ∈ ms, 0 ≤ x ∧ x < 256) :
    Calls Try.prog 10 #[.agg #[.int .u8 U, ve, vm, .int .u16 K], .int .u8 fl, .agg #[.int .u8 bm.a, .int .u8 bm.b, .int .u8 bm.c, .int .u8 bm.d]] W fun e w' => e = .returned (.bool true) ∧ Below W.heap.size W w' := by
  have hw0 : WRel W.heap.size (fun _ => none) ⟨.leaf, 0⟩ W := ⟨Nat.le_refl _, (fun h => by cases h), fun _ => rfl, (fun h => by cases h), (fun h => by cases h)⟩
  obtain ⟨σ1, s1, ve', vm', _, hw1, hv, hs1, hs1', k1⟩ := attach_mill hw0 rfl U K hes hms
  refine calls_of_ev (lawM_ev U K fl bm ve' vm' es ms s1 hU hfl hbb hs1 hs1' hbe hbm) hw1 rfl ?_
  exact .cons hv (.cons (.int _ _) (.cons (.agg (.cons (.int _ _) (.cons (.int _ _) (.cons (.int _ _) (.cons (.int _ _) .nil))))) .nil))
set_option maxRecDepth 100000 in
theorem more_lifted (os : Os) (started : os.Started) (H : Type) (enc : TypeId × Value → H) :
    ReturnsInHanded {} Try.checked os 10 .any (Rows.bulkMoreSpec.pre6 enc Try.prog Try.f10 Rows.bulkMoreRow.domain false) (Rows.bulkMoreSpec.post enc Try.prog Try.f10 false true false false) := by
  refine returnsInHanded_of_change (C := Try.checked) Try.own started (by kernel_rfl) Try.func10
    (ChangeSpec.witness6 (enc := enc) (C := Try.checked) false ⟨#[], #[.agg #[.int .u8 0, .slice none 0 0, .slice none 0 0, .int .u16 0], .int .u8 0, .agg #[.int .u8 0, .int .u8 0, .int .u8 0, .int .u8 0]], []⟩ 8 (by kernel_rfl) (by kernel_rfl) (by kernel_rfl) (by kernel_rfl)) ?_
  intro W base args ds gs before hval hW hcnd _
  have hW' := hW
  obtain ⟨p, q, hA0, hV, rfl, hfz, hnd⟩ := hW
  have hA : DataW.TrodAll enc Try.prog W 0 (fun _ => true) true Try.f10.params.toList args.toList ds p := hA0
  rw [Try.params10] at hA
  obtain ⟨v0, v1, v2, d0, d1, d2, p0, p1, p2, rfl, rfl, rfl, h0, h1, h2⟩ := trodAll_three hA
  obtain ⟨rfl, rfl⟩ := trodVars_none hV
  have h1k := h1
  have h2k := h2
  obtain ⟨U, K, ve, vm, es, ms, rfl, hU, hes, hms, hbe, hbm⟩ := mill_of (hval 0 78 v0 rfl rfl) h0
  obtain ⟨un, rfl, rfl, rfl, hu⟩ := open_int un5 (hval 1 5 v1 rfl rfl) h1
  obtain ⟨bm, rfl, hbb⟩ := four_of (hval 2 86 v2 rfl rfl) h2
  refine (lawM_calls U K un bm ve vm es ms W hU (range8_of_wf hu) hbb hes hms hbe hbm).mono fun e W' ⟨he, hbl⟩ => ?_
  subst he
  exact ⟨_, rfl, [_, _, _], [], _, [], _, [], hW', trodAll_mk1 (shut_bool Try.underlying4 _), trodAll_mk3 (again_of (by kernel_rfl) (of_decide_eq_true (by kernel_rfl)) h0 hbl) (again_of (by kernel_rfl) (of_decide_eq_true (by kernel_rfl)) h1k hbl) (again_of (by kernel_rfl) (of_decide_eq_true (by kernel_rfl)) h2k hbl), rfl, hbl.frame _, fun h => by cases h⟩

theorem more_holds : Rows.BulkMoreSaid :=
  OpenClaim.holds_of_wide 10 Try.f10 rfl rfl rfl rfl rfl rfl rfl ⟨rfl, rfl, rfl, rfl, rfl⟩ rfl rfl rfl rfl rfl (by kernel_rfl) Try.func10 (by kernel_rfl)
    (of_decide_eq_true (by kernel_rfl)) (by unfold Func.isWrapper; first | (rw [if_pos (by decide +kernel)]; kernel_rfl) | (rw [if_neg (by decide +kernel)]; exact ⟨rfl, rfl⟩))
    (fun os started H enc _ => more_lifted os started H enc)
end Go.Proofs.Ytjehpgflhgpalaa
