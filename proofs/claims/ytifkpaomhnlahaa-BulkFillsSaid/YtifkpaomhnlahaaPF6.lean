/-
  The reference's plant without a flow is as stated. The reference's excess is as stated also where sums are large. The reference's heads lie in a block of their own. The reference's Fill answers as stated, for every plant, flow and masses. The law BulkFills is calculated true, for every argument. The law's self-check returns true in every world, and leaves what was there as it was: its answer is calculated by the kernel. What is calculated true of slices of the world holds of the call. Arguments that the row reads are slices, plants and numbers of the world. The row BulkFills holds. They hold with no condition but those that are written in each theorem.
-/
import Derived.Test.YtifkpaomhnlahaaProg
import Derived.Test.YtifkpaomhnlahaaRows
import Derived.ProofKit
import Derived.Deep.Slices
import Derived.Lib.SmallJoins
import Derived.Laws.IdiomArrays
import Derived.Carry
import Derived.Test.YtifkpaomhnlahaaPF1
import Derived.Test.YtifkpaomhnlahaaPF2
import Derived.Test.YtifkpaomhnlahaaPF3
import Derived.Test.YtifkpaomhnlahaaPF4
import Derived.Test.YtifkpaomhnlahaaPF5
set_option linter.unusedSimpArgs false
set_option linter.unusedVariables false
namespace Go.Proofs.Ytifkpaomhnlahaa
open Go Kern
/-! Parts of a slice -/
noncomputable def sliceV (n : Nat) (x : Value) (lo hi : Option Value) (H : Tree AObj) : Option Value :=
  ob (sliceOf x) fun q => ob (boundF hi q.2.2 q.2.1) fun h => ob (boundF lo h 0) fun l =>
    gd (Nat.ble l h && (Nat.ble h q.2.2 && growOk H n q.1)) (some (.slice (bt (Nat.blt l q.2.2) (q.1.map (·.add (l * n))) q.1) (h - l) (q.2.2 - l)))
@[simp] theorem vSliceS_def (n : Nat) (x : Operand) (lo hi : Option Operand) (ρ : Env) (H : Tree AObj) : vSliceS n x lo hi ρ H = sliceV n (ρ x) (lo.map ρ) (hi.map ρ) H := rfl
def growB (n : Nat) : Option Nat → Bool
  | none => true
  | some z => Nat.beq z n
theorem growOk_at {H : Tree AObj} {n b off : Nat} {o : AObj} {cs : List Value} {g : Option Nat} (ho : H.get b = some o) (hc : cellsOf o = some (cs, g)) (hg : growB n g = true) : growOk H n (some ⟨b, off, none⟩) = true := by
  show Option.rec (motive := fun _ => Bool) false (fun c : List Value × Option Nat => Option.rec (motive := fun _ => Bool) true (fun z => Nat.beq z n) c.2) (ob (H.get b) cellsOf) = true
  rw [ho]
  show Option.rec (motive := fun _ => Bool) false (fun c : List Value × Option Nat => Option.rec (motive := fun _ => Bool) true (fun z => Nat.beq z n) c.2) (cellsOf o) = true
  rw [hc]
  cases g with
  | none => rfl
  | some z => exact hg
theorem boundF_nat (k c d : Nat) (h : k ≤ c) : boundF (some (.int .i64 (k : Int))) c d = some k := by
  show (match Nat.ble k c with | true => some k | false => none) = _
  rw [show Nat.ble k c = true by simpa using h]
theorem slice_to {H : Tree AObj} {n b off k m c : Nat} (hg : growOk H n (some ⟨b, off, none⟩) = true) (hk : k ≤ c) : sliceV n (.slice (some ⟨b, off, none⟩) m c) none (some (.int .i64 (k : Int))) H = some (.slice (some ⟨b, off, none⟩) k c) := by
  unfold sliceV
  show ob (boundF (some (.int .i64 (k : Int))) c m) (fun h => ob (some 0) fun l => gd (Nat.ble l h && (Nat.ble h c && growOk H n (some ⟨b, off, none⟩))) (some (Value.slice (bt (Nat.blt l c) (some (Addr.add ⟨b, off, none⟩ (l * n))) (some ⟨b, off, none⟩)) (h - l) (c - l)))) = _
  rw [boundF_nat k c m hk]
  show gd (Nat.ble 0 k && (Nat.ble k c && growOk H n (some ⟨b, off, none⟩))) (some (Value.slice (bt (Nat.blt 0 c) (some (Addr.add ⟨b, off, none⟩ (0 * n))) (some ⟨b, off, none⟩)) (k - 0) (c - 0))) = _
  rw [hg, show Nat.ble k c = true by simpa using hk, show Nat.ble 0 k = true by simp, Nat.zero_mul, show Addr.add ⟨b, off, none⟩ 0 = ⟨b, off, none⟩ from rfl]
  show some (Value.slice (bt (Nat.blt 0 c) (some ⟨b, off, none⟩) (some ⟨b, off, none⟩)) (k - 0) (c - 0)) = _
  generalize Nat.blt 0 c = z
  cases z <;> rfl
theorem growOk_eq (H : Tree AObj) (n b off : Nat) : growOk H n (some ⟨b, off, none⟩) = Option.rec (motive := fun _ => Bool) false (fun c : List Value × Option Nat => growB n c.2) (ob (H.get b) cellsOf) := by
  show Option.rec (motive := fun _ => Bool) false (fun c : List Value × Option Nat => Option.rec (motive := fun _ => Bool) true (fun z => Nat.beq z n) c.2) (ob (H.get b) cellsOf) = _
  congr 1
  funext c
  obtain ⟨c1, c2⟩ := c
  cases c2 with
  | none => rfl
  | some z => rfl
theorem sliceV_bad {H : Tree AObj} {n b off m c : Nat} {lo hi : Option Value} (hg : growOk H n (some ⟨b, off, none⟩) = false) : sliceV n (.slice (some ⟨b, off, none⟩) m c) lo hi H = none := by
  unfold sliceV
  show ob (boundF hi c m) (fun h => ob (boundF lo h 0) fun l => gd (Nat.ble l h && (Nat.ble h c && growOk H n (some ⟨b, off, none⟩))) (some (Value.slice (bt (Nat.blt l c) (some (Addr.add ⟨b, off, none⟩ (l * n))) (some ⟨b, off, none⟩)) (h - l) (c - l)))) = _
  rw [hg]
  cases boundF hi c m with
  | none => rfl
  | some h =>
    show ob (boundF lo h 0) (fun l => gd (Nat.ble l h && (Nat.ble h c && false)) _) = none
    cases boundF lo h 0 with
    | none => rfl
    | some l => show gd (Nat.ble l h && (Nat.ble h c && false)) _ = none; rw [Bool.and_false, Bool.and_false]; rfl
theorem slice_toE {H : Tree AObj} {n b off k m c : Nat} (hk : k ≤ c) : sliceV n (.slice (some ⟨b, off, none⟩) m c) none (some (.int .i64 (k : Int))) H = ob (H.get b) fun o => ob (cellsOf o) fun cc => gd (growB n cc.2) (some (.slice (some ⟨b, off, none⟩) k c)) := by
  cases h : growOk H n (some ⟨b, off, none⟩) with
  | true =>
    rw [slice_to h hk]
    rw [growOk_eq] at h
    cases hb : H.get b with
    | none => rw [hb] at h; cases h
    | some o =>
      rw [hb] at h
      change Option.rec (motive := fun _ => Bool) false (fun c : List Value × Option Nat => growB n c.2) (cellsOf o) = true at h
      show _ = ob (cellsOf o) _
      cases hc : cellsOf o with
      | none => rw [hc] at h; cases h
      | some cc => rw [hc] at h; show _ = gd (growB n cc.2) _; rw [show growB n cc.2 = true from h]; rfl
  | false =>
    rw [sliceV_bad h]
    rw [growOk_eq] at h
    cases hb : H.get b with
    | none => rfl
    | some o =>
      rw [hb] at h
      change Option.rec (motive := fun _ => Bool) false (fun c : List Value × Option Nat => growB n c.2) (cellsOf o) = false at h
      show _ = ob (cellsOf o) _
      cases hc : cellsOf o with
      | none => rfl
      | some cc => rw [hc] at h; show _ = gd (growB n cc.2) _; rw [show growB n cc.2 = false from h]; rfl
theorem slice_from {H : Tree AObj} {n b off k m c : Nat} (hg : growOk H n (some ⟨b, off, none⟩) = true) (hk : k + 1 ≤ m) (hm : m ≤ c) : sliceV n (.slice (some ⟨b, off, none⟩) m c) (some (.int .i64 ((k : Int) + 1))) none H = some (.slice (some ⟨b, if k + 1 < c then off + (k + 1) * n else off, none⟩) (m - (k + 1)) (c - (k + 1))) := by
  unfold sliceV
  show ob (boundF (some (.int .i64 ((k + 1 : Nat) : Int))) m 0) (fun l => gd (Nat.ble l m && (Nat.ble m c && growOk H n (some ⟨b, off, none⟩))) (some (Value.slice (bt (Nat.blt l c) (some (Addr.add ⟨b, off, none⟩ (l * n))) (some ⟨b, off, none⟩)) (m - l) (c - l)))) = _
  rw [boundF_nat (k + 1) m 0 hk]
  show gd (Nat.ble (k + 1) m && (Nat.ble m c && growOk H n (some ⟨b, off, none⟩))) (some (Value.slice (bt (Nat.blt (k + 1) c) (some (Addr.add ⟨b, off, none⟩ ((k + 1) * n))) (some ⟨b, off, none⟩)) (m - (k + 1)) (c - (k + 1)))) = _
  rw [hg, show Nat.ble (k + 1) m = true by simpa using hk, show Nat.ble m c = true by simpa using hm]
  by_cases h : k + 1 < c
  · rw [if_pos h, show Nat.blt (k + 1) c = true by simpa [Nat.blt_eq] using h]
    have : Addr.add ⟨b, off, none⟩ ((k + 1) * n) = ⟨b, off + (k + 1) * n, none⟩ := by
      unfold Addr.add
      by_cases e : (k + 1) * n = 0
      · rw [if_pos e, e, Nat.add_zero]
      · rw [if_neg e]
    rw [this]; rfl
  · rw [if_neg h, show Nat.blt (k + 1) c = false by
      cases e : Nat.blt (k + 1) c with
      | false => rfl
      | true => rw [Nat.blt_eq] at e; exact absurd e h]; rfl
theorem slice_fromE {H : Tree AObj} {n b off k m c : Nat} (hk : k + 1 ≤ m) (hm : m ≤ c) : sliceV n (.slice (some ⟨b, off, none⟩) m c) (some (.int .i64 ((k : Int) + 1))) none H = ob (H.get b) fun o => ob (cellsOf o) fun cc => gd (growB n cc.2) (some (.slice (some ⟨b, if k + 1 < c then off + (k + 1) * n else off, none⟩) (m - (k + 1)) (c - (k + 1)))) := by
  cases h : growOk H n (some ⟨b, off, none⟩) with
  | true =>
    rw [slice_from h hk hm]
    rw [growOk_eq] at h
    cases hb : H.get b with
    | none => rw [hb] at h; cases h
    | some o =>
      rw [hb] at h
      change Option.rec (motive := fun _ => Bool) false (fun c : List Value × Option Nat => growB n c.2) (cellsOf o) = true at h
      show _ = ob (cellsOf o) _
      cases hc : cellsOf o with
      | none => rw [hc] at h; cases h
      | some cc => rw [hc] at h; show _ = gd (growB n cc.2) _; rw [show growB n cc.2 = true from h]; rfl
  | false =>
    rw [sliceV_bad h]
    rw [growOk_eq] at h
    cases hb : H.get b with
    | none => rfl
    | some o =>
      rw [hb] at h
      change Option.rec (motive := fun _ => Bool) false (fun c : List Value × Option Nat => growB n c.2) (cellsOf o) = false at h
      show _ = ob (cellsOf o) _
      cases hc : cellsOf o with
      | none => rfl
      | some cc => rw [hc] at h; show _ = gd (growB n cc.2) _; rw [show growB n cc.2 = false from h]; rfl
theorem sl_take {n : Nat} {s : St} {b off m c k c' : Nat} {l : List (List Value)} (h : SlAt n s (.slice (some ⟨b, off, none⟩) m c) l) (hk : k ≤ l.length) : SlAt n s (.slice (some ⟨b, off, none⟩) k c') (l.take k) := by
  cases h with
  | mk hb ho hc he =>
    have hlk : (l.take k).length = k := by rw [List.length_take]; omega
    have := SlAt.mk (n := n) (s := s) (off := off) (c := c') (l := l.take k) hb ho hc fun i e hi => by
      rw [List.getElem?_take] at hi
      split at hi
      · exact he i e hi
      · cases hi
    rw [hlk] at this
    exact this
theorem sl_drop {n : Nat} {s : St} {b off m c k c' c'' : Nat} {l : List (List Value)} (h : SlAt n s (.slice (some ⟨b, off, none⟩) m c) l) (hk : k ≤ l.length) (hc0 : l.length ≤ c'') : SlAt n s (.slice (some ⟨b, if k < c'' then off + k * n else off, none⟩) (l.length - k) c') (l.drop k) := by
  cases h with
  | mk hb ho hc he =>
    rw [← List.length_drop]
    by_cases hkc : k < c''
    · rw [if_pos hkc]
      exact .mk hb ho hc fun i e hi => by
        rw [List.getElem?_drop] at hi
        rw [Nat.add_assoc, ← Nat.add_mul]
        exact he _ e hi
    · rw [if_neg hkc, List.drop_eq_nil_of_le (by omega)]
      exact .mk hb ho hc fun i e hi => by simp at hi
theorem act_slice {T : Tab} {self : Self} {f : Fr} {s : St} (t : TypeId) (x : Operand) (lo hi : Option Operand) {e : TypeId} {n : Nat} (h1 : T.und t = some (.slice e)) (h2 : T.size e = some n) :
    actO T self (.slice t x lo hi none) f s = pureR (vSliceS n x lo hi f.eval s.heap) s := by
  show ob (ob (T.und t) _) _ = _
  rw [h1]
  show ob (ob (T.size e) _) _ = _
  rw [h2]; rfl
@[simp] theorem o_slice_31 {self : Self} {f : Fr} {s : St} {x : Operand} {lo hi : Option Operand} : actO TT self (.slice 31 x lo hi none) f s = pureR (vSliceS 7 x lo hi f.eval s.heap) s := act_slice 31 x lo hi und_31 size_96
@[simp] theorem newObj_31 {f : Fr} {pl0 : Array (Nat × Operand)} : Kern.newObj TT (.buildSlice 31 0 pl0) f = ob (fillL f.eval (placesA 7 pl0.toList) (repeatL [.int .i64 0, .int .i64 0, .bool false, .int .i64 0, .int .i64 0, .int .i64 0, .int .i64 0] 0)) fun c => some (.cells c none) :=
  newObj_buildSlice 31 0 pl0 und_31 size_96 zero_96 rfl
/-- The flows without one. -/
def dropF (gs : List FlowD) (k : Nat) : List FlowD := gs.take k ++ gs.drop (k + 1)
set_option maxRecDepth 100000 in
set_option maxHeartbeats 4000000 in
theorem without_ev (n : Int) (β k c : Nat) (gs : List FlowD) (g : Option Nat) (s : St) (hb : β < s.next) (hcell : s.heap.get β = some (.cells (flatF gs) g)) (hg : growB 7 g = true) (hk : k < gs.length) (hc : gs.length ≤ c) (hl : gs.length ≤ 1000) :
    Ev TT 56 [plantV n (.slice (some ⟨β, 0, none⟩) gs.length c), .int .i64 k] s fun r s' => Keep s s' ∧ ∃ w, r = plantV n w ∧ FlAt s' w (dropF gs k) := by
  unfold plantV
  refine Ev.intro (fn := Try.f56) rfl (by kernel_rfl) rfl rfl ?_
  apply zz
  refine Cd.ra (h := ?_)
  apply Run.by_eq
  · intro self
    conv => lhs; simp -implicitDefEqProofs (maxSteps := 300000) (disch := omega) [-getElem?_pos, -getElem?_neg]
  try (with_reducible refine Run.ret ?_)
  apply zz
  have hf0 : FlAt s (.slice (some ⟨β, 0, none⟩) gs.length c) gs := fl_of_flat hb rfl hcell
  have hlm : (gs.map FlowD.cs).length = gs.length := List.length_map _
  have hT := sl_take (k := k) (c' := c) hf0 (by omega)
  have hD := sl_drop (k := k + 1) (c' := c - (k + 1)) (c'' := c) hf0 (by omega) (by omega)
  rw [← List.map_take] at hT
  rw [← List.map_drop, hlm] at hD
  have hlT : (gs.take k).length = k := by rw [List.length_take]; omega
  have hlD : (gs.drop (k + 1)).length = gs.length - (k + 1) := List.length_drop
  have hflat : flatF (dropF gs k) = flatF (gs.take k) ++ flatF (gs.drop (k + 1)) := by unfold flatF dropF; rw [List.map_append, List.flatten_append]
  have hld : (dropF gs k).length = k + (gs.length - (k + 1)) := by unfold dropF; rw [List.length_append, hlT, hlD]
  generalize gs.take k = ts at hT hlT hflat
  generalize gs.drop (k + 1) = ds at hD hlD hflat
  have hE1 : ∀ H, sliceV 7 (.slice (some ⟨β, 0, none⟩) gs.length c) none (some (.int .i64 (k : Int))) H = ob (H.get β) fun o => ob (cellsOf o) fun cc => gd (growB 7 cc.2) (some (.slice (some ⟨β, 0, none⟩) k c)) := fun H => slice_toE (by omega)
  have hE2 : ∀ H, sliceV 7 (.slice (some ⟨β, 0, none⟩) gs.length c) (some (.int .i64 ((k : Int) + 1))) none H = ob (H.get β) fun o => ob (cellsOf o) fun cc => gd (growB 7 cc.2) (some (.slice (some ⟨β, if k + 1 < c then 0 + (k + 1) * 7 else 0, none⟩) (gs.length - (k + 1)) (c - (k + 1)))) := fun H => slice_fromE (by omega) hc
  generalize (if k + 1 < c then 0 + (k + 1) * 7 else 0) = oo at hD hE2
  obtain ⟨S1, hS1⟩ : ∃ S1, S1 = ((s.pushed (.cells [.int .i64 n, .slice (some ⟨β, 0, none⟩) gs.length c] none)).pushed (.cells [.int .i64 0, .slice none 0 0] none)).pushed (.cells [] none) := ⟨_, rfl⟩
  have hn1 : S1.next = s.next + 1 + 1 + 1 := by rw [hS1]; simp
  have hkS : Keep s S1 := by rw [hS1]; exact ⟨by (try simp only [pushed_next', upded_next']); omega, fun i hi => by simp -implicitDefEqProofs (disch := omega) []⟩
  have hg1 : S1.heap.get (s.next + 1 + 1) = some (.cells [] none) := by rw [hS1]; simp -implicitDefEqProofs (disch := omega)
  have happ1 := app_own (n := 7) (N := s.next) (s := S1) (b := s.next + 1 + 1) (l0 := []) (l := ts.map FlowD.cs) (y := .slice (some ⟨β, 0, none⟩) k c) ⟨s.next + 1 + 1, rfl, by omega, by omega, hg1⟩ (hT.keep hkS) (fun x hx => by cases hx) (flows_ones ts) (by simp; omega)
  simp only [List.length_nil, List.length_map, hlT, Nat.zero_add, List.flatten_nil, List.nil_append, hn1, if_true] at happ1
  by_cases hk0 : k = 0
  · have ht0 : ts = [] := List.eq_nil_of_length_eq_zero (by omega)
    rw [if_pos (by rw [ht0]; rfl)] at happ1
    have happ2 := app_own (n := 7) (N := s.next) (s := S1) (b := s.next + 1 + 1) (l0 := []) (l := ds.map FlowD.cs) ⟨s.next + 1 + 1, rfl, by omega, by omega, hg1⟩ (hD.keep hkS) (fun x hx => by cases hx) (flows_ones ds) (by simp; omega)
    simp only [List.length_nil, List.length_map, hlD, Nat.zero_add, List.flatten_nil, List.nil_append, hn1, if_true] at happ2
    by_cases hd0 : ds = []
    · rw [if_pos (by rw [hd0]; rfl)] at happ2
      rw [hS1] at happ1 happ2
      apply zz
      refine Cd.drawn (pl := [(0, 0, false, false), (1, 1, false, false), (2, 0, false, true), (3, 0, false, false), (4, 8, false, false), (5, 0, false, false), (6, 56, false, false), (8, 0, false, false), (9, 256, false, false), (10, 0, false, false), (11, 1024, false, false), (12, 3840, false, false), (7, 124, true, false), (13, 8188, true, false), (14, 16383, false, false), (15, 32767, true, false)]) (by kernel_rfl) (by conv => lhs; simp only [List.map_cons, List.map_nil]) (by conv => lhs; simp [strip, ordered]) ?_
      apply Run.by_eq
      · intro self
        conv => lhs; simp -implicitDefEqProofs (maxSteps := 300000) (disch := omega) [filter_bt, Nat.testBit_eq_decide_div_mod_eq, -getElem?_pos, -getElem?_neg, hE1, hE2, hcell, hg, happ1, happ2]
      try (with_reducible refine Run.ret ?_)
      apply zz
      apply Leave.mk (by first | exact .inl rfl | exact .inr rfl) (by simp only [Fr.marks_put, fr0_marks])
      · conv => lhs; simp -implicitDefEqProofs (disch := omega) [Try.results56]
      have hfz : flatF (dropF gs k) = [] := by rw [hflat, ht0, hd0]; rfl
      refine ⟨⟨by (try simp only [pushed_next', upded_next']); omega, fun i hi => by simp -implicitDefEqProofs (disch := omega) []⟩, _, rfl, fl_of_flat (o := none) ?_ (by rw [hld]; rw [hd0] at hlD; simp at hlD; omega) ?_⟩
      · (try simp only [pushed_next', upded_next']); omega
      · rw [hfz]; simp -implicitDefEqProofs (disch := omega)
    · rw [if_neg (by simpa using hd0)] at happ2
      rw [hS1] at happ1 happ2
      apply zz
      refine Cd.drawn (pl := [(0, 0, false, false), (1, 1, false, false), (2, 0, false, true), (3, 0, false, false), (4, 8, false, false), (5, 0, false, false), (6, 56, false, false), (8, 0, false, false), (9, 256, false, false), (10, 0, false, false), (11, 1024, false, false), (12, 3840, false, false), (7, 124, true, false), (13, 8188, true, false), (14, 16383, false, false), (15, 32767, true, false)]) (by kernel_rfl) (by conv => lhs; simp only [List.map_cons, List.map_nil]) (by conv => lhs; simp [strip, ordered]) ?_
      apply Run.by_eq
      · intro self
        conv => lhs; simp -implicitDefEqProofs (maxSteps := 300000) (disch := omega) [filter_bt, Nat.testBit_eq_decide_div_mod_eq, -getElem?_pos, -getElem?_neg, hE1, hE2, hcell, hg, happ1, happ2]
      try (with_reducible refine Run.ret ?_)
      apply zz
      apply Leave.mk (by first | exact .inl rfl | exact .inr rfl) (by simp only [Fr.marks_put, fr0_marks])
      · conv => lhs; simp -implicitDefEqProofs (disch := omega) [Try.results56]
      have hfz : flatF (dropF gs k) = (ds.map FlowD.cs).flatten := by rw [hflat, ht0]; rfl
      refine ⟨⟨by (try simp only [pushed_next', upded_next']); omega, fun i hi => by simp -implicitDefEqProofs (disch := omega) []⟩, _, rfl, fl_of_flat (o := some 7) ?_ (by rw [hld, hk0, Nat.zero_add]) ?_⟩
      · (try simp only [pushed_next', upded_next']); omega
      · rw [hfz]; simp -implicitDefEqProofs (disch := omega)
  · have ht0 : ¬ ts = [] := fun e => by rw [e] at hlT; simp at hlT; omega
    rw [if_neg (by simpa using ht0)] at happ1
    obtain ⟨S2, hS2⟩ : ∃ S2, S2 = S1.pushed (.cells (ts.map FlowD.cs).flatten (some 7)) := ⟨_, rfl⟩
    have hn2 : S2.next = s.next + 1 + 1 + 1 + 1 := by rw [hS2]; simp [hn1]
    have hg2 : S2.heap.get (s.next + 1 + 1 + 1) = some (.cells (ts.map FlowD.cs).flatten (some 7)) := by rw [hS2, ← hn1]; simp
    have hkS2 : Keep s S2 := by rw [hS2]; exact ⟨by have := hkS.1; (try simp only [pushed_next', upded_next']); omega, fun i hi => by rw [← hkS.2 i hi]; simp -implicitDefEqProofs (disch := omega)⟩
    have happ2 := app_own (n := 7) (N := s.next) (s := S2) (b := s.next + 1 + 1 + 1) (l0 := ts.map FlowD.cs) (l := ds.map FlowD.cs) ⟨s.next + 1 + 1 + 1, rfl, by omega, by omega, by rw [hg2, if_neg (by simpa using ht0)]⟩ (hD.keep hkS2) (flows_len ts) (flows_ones ds) (by simp; omega)
    simp only [List.length_map, hlD, hlT, hn2] at happ2
    rw [← hS2] at happ1
    by_cases hd0 : ds = []
    · rw [if_pos (by rw [hd0]; rfl)] at happ2
      rw [hS2, hS1] at happ1 happ2
      apply zz
      refine Cd.drawn (pl := [(0, 0, false, false), (1, 1, false, false), (2, 0, false, true), (3, 0, false, false), (4, 8, false, false), (5, 0, false, false), (6, 56, false, false), (8, 0, false, false), (9, 256, false, false), (10, 0, false, false), (11, 1024, false, false), (12, 3840, false, false), (7, 124, true, false), (13, 8188, true, false), (14, 16383, false, false), (15, 32767, true, false)]) (by kernel_rfl) (by conv => lhs; simp only [List.map_cons, List.map_nil]) (by conv => lhs; simp [strip, ordered]) ?_
      apply Run.by_eq
      · intro self
        conv => lhs; simp -implicitDefEqProofs (maxSteps := 300000) (disch := omega) [filter_bt, Nat.testBit_eq_decide_div_mod_eq, -getElem?_pos, -getElem?_neg, hE1, hE2, hcell, hg, happ1, happ2]
      try (with_reducible refine Run.ret ?_)
      apply zz
      apply Leave.mk (by first | exact .inl rfl | exact .inr rfl) (by simp only [Fr.marks_put, fr0_marks])
      · conv => lhs; simp -implicitDefEqProofs (disch := omega) [Try.results56]
      have hfz : flatF (dropF gs k) = (ts.map FlowD.cs).flatten := by rw [hflat, hd0]; unfold flatF; simp
      refine ⟨⟨by (try simp only [pushed_next', upded_next']); omega, fun i hi => by simp -implicitDefEqProofs (disch := omega) []⟩, _, rfl, fl_of_flat (o := some 7) ?_ (by rw [hld, ← hlD, hd0]; simp) ?_⟩
      · (try simp only [pushed_next', upded_next']); omega
      · rw [hfz]; simp -implicitDefEqProofs (disch := omega)
    · rw [if_neg (by simpa using hd0), if_neg (by simpa using ht0)] at happ2
      rw [hS2, hS1] at happ1 happ2
      apply zz
      refine Cd.drawn (pl := [(0, 0, false, false), (1, 1, false, false), (2, 0, false, true), (3, 0, false, false), (4, 8, false, false), (5, 0, false, false), (6, 56, false, false), (8, 0, false, false), (9, 256, false, false), (10, 0, false, false), (11, 1024, false, false), (12, 3840, false, false), (7, 124, true, false), (13, 8188, true, false), (14, 16383, false, false), (15, 32767, true, false)]) (by kernel_rfl) (by conv => lhs; simp only [List.map_cons, List.map_nil]) (by conv => lhs; simp [strip, ordered]) ?_
      apply Run.by_eq
      · intro self
        conv => lhs; simp -implicitDefEqProofs (maxSteps := 300000) (disch := omega) [filter_bt, Nat.testBit_eq_decide_div_mod_eq, -getElem?_pos, -getElem?_neg, hE1, hE2, hcell, hg, happ1, happ2]
      try (with_reducible refine Run.ret ?_)
      apply zz
      apply Leave.mk (by first | exact .inl rfl | exact .inr rfl) (by simp only [Fr.marks_put, fr0_marks])
      · conv => lhs; simp -implicitDefEqProofs (disch := omega) [Try.results56]
      have hfz : flatF (dropF gs k) = (ts.map FlowD.cs).flatten ++ (ds.map FlowD.cs).flatten := hflat
      refine ⟨⟨by (try simp only [pushed_next', upded_next']); omega, fun i hi => by simp -implicitDefEqProofs (disch := omega) []⟩, _, rfl, fl_of_flat (o := some 7) ?_ hld ?_⟩
      · (try simp only [pushed_next', upded_next']); omega
      · rw [hfz]; simp -implicitDefEqProofs (disch := omega)
theorem without_ev' (n : Int) (β k c len : Nat) (gs : List FlowD) (g : Option Nat) (s : St) (hb : β < s.next) (hcell : s.heap.get β = some (.cells (flatF gs) g)) (hg : growB 7 g = true) (hk : k < len) (hc : len ≤ c) (hl : len ≤ 1000) (hlen : gs.length = len) :
    Ev TT 56 [plantV n (.slice (some ⟨β, 0, none⟩) len c), .int .i64 k] s fun r s' => Keep s s' ∧ ∃ w, r = plantV n w ∧ FlAt s' w (dropF gs k) := by
  subst hlen
  exact without_ev n β k c gs g s hb hcell hg hk hc hl
end Go.Proofs.Ytifkpaomhnlahaa
namespace Go.Proofs.Ytifkpaomhnlahaa
open Go Kern
/-! How much is measured in all -/
def amt (m : Mass) : Nat := m.a.natAbs + m.b.natAbs + m.c.natAbs + m.d.natAbs
theorem le_amt (m : Mass) : m.le (amt m : Nat) := by unfold Mass.le amt; omega
theorem sum4_le {x1 x2 x3 x4 y1 y2 y3 y4 z1 z2 z3 z4 : Nat} (h1 : x1 ≤ y1 + z1) (h2 : x2 ≤ y2 + z2) (h3 : x3 ≤ y3 + z3) (h4 : x4 ≤ y4 + z4) : x1 + x2 + x3 + x4 ≤ (y1 + y2 + y3 + y4) + (z1 + z2 + z3 + z4) := by omega
theorem amt_add (m p : Mass) : amt (m.add p) ≤ amt m + amt p := sum4_le (Int.natAbs_add_le _ _) (Int.natAbs_add_le _ _) (Int.natAbs_add_le _ _) (Int.natAbs_add_le _ _)
theorem natAbs_sub_le' (a b : Int) : (a - b).natAbs ≤ a.natAbs + b.natAbs := by omega
theorem amt_sub (m p : Mass) : amt (m.sub p) ≤ amt m + amt p := sum4_le (natAbs_sub_le' _ _) (natAbs_sub_le' _ _) (natAbs_sub_le' _ _) (natAbs_sub_le' _ _)
def tot : List FlowD → Nat
  | [] => 0
  | f :: r => (if f.me = true then amt f.m else 0) + tot r
theorem tot_append : ∀ a b : List FlowD, tot (a ++ b) = tot a + tot b
  | [], b => by simp [tot]
  | f :: a, b => by
    show (if f.me = true then amt f.m else 0) + tot (a ++ b) = ((if f.me = true then amt f.m else 0) + tot a) + tot b
    rw [tot_append a b]; omega
theorem tot_split (fs : List FlowD) (k : Nat) : tot fs = tot (fs.take k) + tot (fs.drop k) := by
  rw [← tot_append, List.take_append_drop]
theorem tot_take (fs : List FlowD) (k : Nat) : tot (fs.take k) ≤ tot fs := by have := tot_split fs k; omega
theorem tot_take1 {fs : List FlowD} {k : Nat} {g : FlowD} (h : fs[k]? = some g) : tot (fs.take (k + 1)) = tot (fs.take k) + (if g.me = true then amt g.m else 0) := by
  rw [List.take_add_one, h, tot_append]; simp [tot]
theorem tot_next {fs : List FlowD} {k : Nat} {g : FlowD} (h : fs[k]? = some g) (hm : g.me = true) : tot (fs.take k) + amt g.m ≤ tot fs := by
  have h1 := tot_take1 h
  have h2 := tot_take fs (k + 1)
  rw [if_pos hm] at h1; omega
theorem amt_step (xs : List Int) (acc : Mass) (f : FlowD) : amt (excStep xs acc f) ≤ amt acc + (if f.me = true then amt f.m else 0) := by
  unfold excStep
  by_cases hm : f.me = true
  · rw [if_pos hm, if_pos hm]
    split
    · split
      · rw [Mass.add_sub]; omega
      · exact amt_sub _ _
    · split
      · exact amt_add _ _
      · omega
  · rw [if_neg hm, if_neg hm]; omega
theorem amt_exc (xs : List Int) (fs : List FlowD) : ∀ k, amt ((fs.take k).foldl (excStep xs) Mass.zero) ≤ tot (fs.take k)
  | 0 => by simp [amt, Mass.zero]
  | k + 1 => by
    cases hk : fs[k]? with
    | none =>
      rw [List.getElem?_eq_none_iff] at hk
      have := amt_exc xs fs k
      rw [List.take_of_length_le hk] at this
      rw [List.take_of_length_le (by omega)]; exact this
    | some f =>
      rw [fold_take _ _ _ hk, tot_take1 hk]
      have h1 := amt_exc xs fs k
      have h2 := amt_step xs ((fs.take k).foldl (excStep xs) Mass.zero) f
      omega
theorem exc_tot {xs : List Int} {fs : List FlowD} (k : Nat) : ((fs.take k).foldl (excStep xs) Mass.zero).le ((tot (fs.take k) : Nat) : Int) :=
  (le_amt _).mono (by have := amt_exc xs fs k; omega)
theorem amt_excM (xs : List Int) (fs : List FlowD) : amt (excM xs fs) ≤ tot fs := by
  have := amt_exc xs fs fs.length
  rw [List.take_length] at this; exact this
theorem tot_drop (fs : List FlowD) (k : Nat) : tot (dropF fs k) ≤ tot fs := by
  unfold dropF
  have h1 := tot_split fs k
  have h2 := tot_split (fs.drop k) 1
  rw [List.drop_drop] at h2
  rw [tot_append]; omega
theorem tot_set (fs : List FlowD) (k : Nat) (f : FlowD) (m : Mass) : tot (fs.set k (meas f m)) ≤ tot fs + amt m := by
  by_cases h : k < fs.length
  · rw [List.set_eq_take_append_cons_drop, if_pos h, tot_append]
    have h1 := tot_split fs k
    have h2 := tot_split (fs.drop k) 1
    rw [List.drop_drop] at h2
    show _ + ((if true = true then amt m else 0) + tot (fs.drop (k + 1))) ≤ _
    rw [if_pos rfl]; omega
  · rw [List.set_eq_of_length_le (by omega)]; omega
theorem tot_le {fs : List FlowD} {B : Nat} (h : ∀ f ∈ fs, f.me = true → f.m.le B) : tot fs ≤ fs.length * (4 * B) := by
  induction fs with
  | nil => simp [tot]
  | cons f r ih =>
    have h1 := ih fun g hg => h g (.tail _ hg)
    unfold tot
    rw [List.length_cons, Nat.add_mul]
    split
    · rename_i hm
      have := h f (.head _) hm
      unfold Mass.le at this
      have : amt f.m ≤ 4 * B := by unfold amt; omega
      omega
    · omega
set_option maxRecDepth 100000 in
set_option maxHeartbeats 4000000 in
theorem refExcessT_ev (u : Int) (v w : Value) (fs : List FlowD) (xs : List Int) (bs : List Bool) (s : St) (hf : FlAt s v fs) (hw : BoolsAt s w bs) (hl : fs.length ≤ 1000)
    (hB : tot fs ≤ 1000000000000000000) (hr : ∀ f ∈ fs, (-1 ≤ f.fr ∧ f.fr + 1 < bs.length) ∧ (-1 ≤ f.to ∧ f.to + 1 < bs.length))
    (hin : ∀ n : Int, -1 ≤ n → n + 1 < bs.length → bs[(n + 1).toNat]? = some (decide (n ∈ xs))) (hlb : bs.length ≤ 1000) :
    Ev TT 43 [plantV u v, w] s fun r s' => r = (excM xs fs).v ∧ Keep s s' := by
  obtain ⟨a, c, rfl⟩ := hf.shape
  obtain ⟨a', c', rfl⟩ := hw.shape
  rw [List.length_map] at hf hw ⊢
  rw [List.length_map]
  unfold plantV
  have hbd := fun k => exc_tot (xs := xs) (fs := fs) k
  refine Ev.intro (fn := Try.f43) rfl (by kernel_rfl) rfl rfl ?_
  apply zz
  refine Cd.ra (h := ?_)
  apply Run.by_eq
  · intro self
    conv => lhs; simp -implicitDefEqProofs (maxSteps := 300000) (disch := omega) [-getElem?_pos, -getElem?_neg]
  try (with_reducible refine Run.ret ?_)
  apply zz
  refine Cd.ra (h := ?_)
  apply Run.by_eq
  · intro self
    conv => lhs; simp -implicitDefEqProofs (maxSteps := 300000) (disch := omega) [-getElem?_pos, -getElem?_neg]
  try (with_reducible refine Run.ret ?_)
  apply zz
  refine Cd.ra (h := ?_)
  apply Run.by_eq
  · intro self
    conv => lhs; simp -implicitDefEqProofs (maxSteps := 300000) (disch := omega) [-getElem?_pos, -getElem?_neg]
  try (with_reducible refine Run.ret ?_)
  apply zz
  refine Cd.inv (fun z f s' => ∃ k : Nat, k ≤ fs.length ∧ z = fs.length - k ∧ f.marks = [] ∧ f.get 6 = .int .i64 k ∧ f.get 2 = .pointer (some ⟨s.next, 0, none⟩) ∧ f.get 1 = .slice a' bs.length c' ∧ f.get 4 = .pointer (some ⟨s.next + 1, 0, none⟩) ∧ f.get 5 = .pointer (some ⟨s.next + 1 + 1, 0, none⟩) ∧ Keep s s' ∧ s.next + 1 + 1 < s'.next ∧ s'.heap.get s.next = some (.cells [.int .i64 u, .slice a fs.length c] none) ∧ s'.heap.get (s.next + 1) = some (.cells Mass.zero.cs none) ∧ s'.heap.get (s.next + 1 + 1) = some (.cells ((fs.take k).foldl (excStep xs) Mass.zero).cs none)) fs.length ?_ ?_
  · refine ⟨0, by omega, rfl, by simp, by simp, by simp, by simp, by simp, by simp, (((Keep.refl _).pushed _).pushed _).pushed _, by simp, ?_, by simp [Mass.zero, Mass.cs], by simp [Mass.zero, Mass.cs]⟩
    simp -implicitDefEqProofs (disch := omega)
  rintro z f s' ⟨k, hk, rfl, hm, h6, h2, h1, h4, h5, hkp, hnx, hg0, hg1, hg2⟩
  have hkpa := hkp.1
  have hkpb := hkp.2
  by_cases hlt : k < fs.length
  · obtain ⟨g, hg⟩ : ∃ g, fs[k]? = some g := ⟨fs[k], by simp [hlt]⟩
    have hnext := fold_take (excStep xs) Mass.zero fs hg
    have hb0 := hbd k
    generalize (fs.take k).foldl (excStep xs) Mass.zero = acc at hnext hb0 hg2
    have hgB : g.me = true → g.m.le (amt g.m : Nat) := fun _ => le_amt g.m
    have hkk : g.me = true → ((tot (fs.take k) : Nat) : Int) + (amt g.m : Nat) ≤ 1000000000000000000 := fun h => by have := tot_next hg h; omega
    have hk0 : ((tot (fs.take k) : Nat) : Int) ≤ 1000000000000000000 := by have := tot_take fs k; omega
    have hA0 : (0 : Int) ≤ ((tot (fs.take k) : Nat) : Int) := by omega
    generalize ((tot (fs.take k) : Nat) : Int) = A at hb0 hkk hk0 hA0
    generalize ((amt g.m : Nat) : Int) = A2 at hgB hkk
    obtain ⟨⟨r1, r2⟩, r3, r4⟩ := hr g (List.mem_of_getElem? hg)
    obtain ⟨b, off, o, cs, gg, rfl, hb, ho, hc, ht⟩ := FlAt.at (hf.keep hkp) hg
    obtain ⟨b', off', o', cs', gg', rfl, hb', ho', hc', hfr⟩ := BoolsAt.at hw (hin g.fr r1 r2)
    obtain ⟨b2, off2, o2, cs2, gg2, e2, hb2, ho2, hc2, hto⟩ := BoolsAt.at hw (hin g.to r3 r4)
    cases e2
    rw [ho'] at ho2; cases ho2
    rw [hc'] at hc2; cases hc2
    rw [← hkpb _ hb'] at ho'
    obtain ⟨g0, g1, gm, m⟩ := g
    rw [FlowD.cs] at ht
    simp only [Mass.cs] at hg1 hg2 hgB hkk ht r1 r2 r3 r4 hfr hto
    have n1 := natOf_pos .i64 (show 0 ≤ g1 + 1 by omega)
    have n0 := natOf_pos .i64 (show 0 ≤ g0 + 1 by omega)
    apply zz
    refine Cd.ra (h := ?_)
    apply Run.by_eq
    · intro self
      conv => lhs; simp -implicitDefEqProofs (maxSteps := 300000) (disch := omega) [-getElem?_pos, -getElem?_neg, h6, h2, hg0]
    try (with_reducible refine Run.ret ?_)
    apply zz
    apply Cd.ite rfl
    · conv => lhs; simp -implicitDefEqProofs (maxSteps := 300000) (disch := omega) [-getElem?_pos, -getElem?_neg]
    all_goals intro c0
    all_goals try (cases c0; done)
    all_goals try simp only [Bool.not_eq_true', Bool.not_eq_false', decide_eq_true_eq, decide_eq_false_iff_not] at c0
    all_goals apply zz
    · apply zz
      refine Cd.ra (h := ?_)
      apply Run.by_eq
      · intro self
        conv => lhs; simp -implicitDefEqProofs (maxSteps := 300000) (disch := omega) [-getElem?_pos, -getElem?_neg, h6, h2, hg0, ho, hc, ht, hlt]
      try (with_reducible refine Run.ret ?_)
      apply zz
      cases gm with
      | false =>
        apply zz
        refine Cd.ra (h := ?_)
        apply Run.by_eq
        · intro self
          conv => lhs; simp -implicitDefEqProofs (maxSteps := 300000) (disch := omega) [-getElem?_pos, -getElem?_neg]
        try (with_reducible refine Run.ret ?_)
        apply zz
        apply Cd.ite rfl
        · conv => lhs; simp -implicitDefEqProofs (maxSteps := 300000) (disch := omega) [-getElem?_pos, -getElem?_neg]
        all_goals intro c1
        all_goals try (cases c1; done)
        all_goals try simp only [Bool.not_eq_true', Bool.not_eq_false', decide_eq_true_eq, decide_eq_false_iff_not] at c1
        all_goals apply zz
        apply zz
        refine Cd.ra (h := ?_)
        apply Run.by_eq
        · intro self
          conv => lhs; simp -implicitDefEqProofs (maxSteps := 300000) (disch := omega) [-getElem?_pos, -getElem?_neg]
        try (with_reducible refine Run.ret ?_)
        apply zz
        apply Cd.ite rfl
        · conv => lhs; simp -implicitDefEqProofs (maxSteps := 300000) (disch := omega) [-getElem?_pos, -getElem?_neg]
        all_goals intro c2
        all_goals try (cases c2; done)
        all_goals try simp only [Bool.not_eq_true', Bool.not_eq_false', decide_eq_true_eq, decide_eq_false_iff_not] at c2
        all_goals apply zz
        apply zz
        refine Cd.ra (h := ?_)
        apply Run.by_eq
        · intro self
          conv => lhs; simp -implicitDefEqProofs (maxSteps := 300000) (disch := omega) [-getElem?_pos, -getElem?_neg, h6]
        try (with_reducible refine Run.ret ?_)
        apply zz
        refine LoopK.nm (fs.length - (k + 1)) (by omega) ⟨k + 1, by omega, rfl, by simp [hm], by simp, by simp [h2], by simp [h1], by simp [h4], by simp [h5], ⟨by (try simp only [pushed_next', upded_next']); omega, fun i hi => by simp -implicitDefEqProofs (disch := omega) [hkpb]⟩, by (try simp only [pushed_next', upded_next']); omega, ?_, ?_, ?_⟩
        · simp -implicitDefEqProofs (disch := omega) [hg0]
        · simp -implicitDefEqProofs (disch := omega) [hg1, Mass.cs]
        · rw [hnext]
          simp -implicitDefEqProofs (disch := omega) [hg2, Mass.cs, excStep]
      | true =>
        by_cases m1 : g1 ∈ xs <;> by_cases m0 : g0 ∈ xs
        · simp only [m1, m0, decide_true] at hfr hto
          apply zz
          refine Cd.ra (h := ?_)
          apply Run.by_eq
          · intro self
            conv => lhs; simp -implicitDefEqProofs (maxSteps := 300000) (disch := omega) [-getElem?_pos, -getElem?_neg, h1, ho', hc', hfr, hto, n1, n0]
          try (with_reducible refine Run.ret ?_)
          apply zz
          apply Cd.ite rfl
          · conv => lhs; simp -implicitDefEqProofs (maxSteps := 300000) (disch := omega) [-getElem?_pos, -getElem?_neg]
          all_goals intro c1
          all_goals try (cases c1; done)
          all_goals try simp only [Bool.not_eq_true', Bool.not_eq_false', decide_eq_true_eq, decide_eq_false_iff_not] at c1
          all_goals apply zz
          apply zz
          refine Cd.ra (h := ?_)
          apply Run.by_eq
          · intro self
            conv => lhs; simp -implicitDefEqProofs (maxSteps := 300000) (disch := omega) [-getElem?_pos, -getElem?_neg, h1, ho', hc', hfr, hto, n1, n0]
          try (with_reducible refine Run.ret ?_)
          apply zz
          apply Cd.ite rfl
          · conv => lhs; simp -implicitDefEqProofs (maxSteps := 300000) (disch := omega) [-getElem?_pos, -getElem?_neg]
          all_goals intro c2
          all_goals try (cases c2; done)
          all_goals try simp only [Bool.not_eq_true', Bool.not_eq_false', decide_eq_true_eq, decide_eq_false_iff_not] at c2
          all_goals apply zz
          apply zz
          refine Cd.ra (h := ?_)
          apply Run.by_eq
          · intro self
            conv => lhs; simp -implicitDefEqProofs (maxSteps := 300000) (disch := omega) [-getElem?_pos, -getElem?_neg, h6]
          try (with_reducible refine Run.ret ?_)
          apply zz
          refine LoopK.nm (fs.length - (k + 1)) (by omega) ⟨k + 1, by omega, rfl, by simp [hm], by simp, by simp [h2], by simp [h1], by simp [h4], by simp [h5], ⟨by (try simp only [pushed_next', upded_next']); omega, fun i hi => by simp -implicitDefEqProofs (disch := omega) [hkpb]⟩, by (try simp only [pushed_next', upded_next']); omega, ?_, ?_, ?_⟩
          · simp -implicitDefEqProofs (disch := omega) [hg0]
          · simp -implicitDefEqProofs (disch := omega) [hg1, Mass.cs]
          · rw [hnext]
            simp -implicitDefEqProofs (disch := omega) [hg2, Mass.cs, excStep, m0, m1, Mass.add_sub]
        · simp only [m1, m0, decide_true, decide_false] at hfr hto
          have hadd := (hb0.add (hgB rfl)).mono (show (_ : Int) ≤ 4611686018427387904 by have := hkk rfl; omega)
          apply zz
          refine Cd.ra (h := ?_)
          apply Run.by_eq
          · intro self
            conv => lhs; simp -implicitDefEqProofs (maxSteps := 300000) (disch := omega) [-getElem?_pos, -getElem?_neg, h1, ho', hc', hfr, hto, n1, n0]
          try (with_reducible refine Run.ret ?_)
          apply zz
          apply Cd.ite rfl
          · conv => lhs; simp -implicitDefEqProofs (maxSteps := 300000) (disch := omega) [-getElem?_pos, -getElem?_neg]
          all_goals intro c1
          all_goals try (cases c1; done)
          all_goals try simp only [Bool.not_eq_true', Bool.not_eq_false', decide_eq_true_eq, decide_eq_false_iff_not] at c1
          all_goals apply zz
          apply zz
          refine Cd.ra (h := ?_)
          apply Run.by_eq
          · intro self
            conv => lhs; simp -implicitDefEqProofs (maxSteps := 300000) (disch := omega) [-getElem?_pos, -getElem?_neg, h5, hg2]
          try (with_reducible refine Run.ret ?_)
          apply zz
          refine Run.call ((addT_ev acc m 1 _ (by rw [Mass.tim_one]; exact (hgB rfl).mono (by have := hkk rfl; have := hk0; have := hA0; omega)) (by rw [Mass.tim_one]; exact hadd)).mono fun v wp hv => ?_)
          obtain ⟨rfl, p⟩ := hv
          have pa := p.1
          have pb := p.2
          try simp only [pushed_next', upded_next'] at pa pb
          rw [Mass.tim_one]
          apply Run.by_eq
          · intro self
            conv => lhs; simp -implicitDefEqProofs (maxSteps := 300000) (disch := omega) [-getElem?_pos, -getElem?_neg, h5, hg2, pb, Mass.v]
          try (with_reducible refine Run.ret ?_)
          apply zz
          refine Cd.ra (h := ?_)
          apply Run.by_eq
          · intro self
            conv => lhs; simp -implicitDefEqProofs (maxSteps := 300000) (disch := omega) [-getElem?_pos, -getElem?_neg, h1, ho', hc', hfr, hto, n1, n0, pb]
          try (with_reducible refine Run.ret ?_)
          apply zz
          apply Cd.ite rfl
          · conv => lhs; simp -implicitDefEqProofs (maxSteps := 300000) (disch := omega) [-getElem?_pos, -getElem?_neg]
          all_goals intro c2
          all_goals try (cases c2; done)
          all_goals try simp only [Bool.not_eq_true', Bool.not_eq_false', decide_eq_true_eq, decide_eq_false_iff_not] at c2
          all_goals apply zz
          apply zz
          refine Cd.ra (h := ?_)
          apply Run.by_eq
          · intro self
            conv => lhs; simp -implicitDefEqProofs (maxSteps := 300000) (disch := omega) [-getElem?_pos, -getElem?_neg, h6]
          try (with_reducible refine Run.ret ?_)
          apply zz
          refine LoopK.nm (fs.length - (k + 1)) (by omega) ⟨k + 1, by omega, rfl, by simp [hm], by simp, by simp [h2], by simp [h1], by simp [h4], by simp [h5], ⟨by (try simp only [pushed_next', upded_next']); omega, fun i hi => by simp -implicitDefEqProofs (disch := omega) [hkpb, pb]⟩, by (try simp only [pushed_next', upded_next']); omega, ?_, ?_, ?_⟩
          · simp -implicitDefEqProofs (disch := omega) [hg0, pb]
          · simp -implicitDefEqProofs (disch := omega) [hg1, Mass.cs, pb]
          · rw [hnext]
            simp -implicitDefEqProofs (disch := omega) [Mass.cs, excStep, m0, m1]
        · simp only [m1, m0, decide_true, decide_false] at hfr hto
          have hsub := (hb0.sub (hgB rfl)).mono (show (_ : Int) ≤ 4611686018427387904 by have := hkk rfl; omega)
          apply zz
          refine Cd.ra (h := ?_)
          apply Run.by_eq
          · intro self
            conv => lhs; simp -implicitDefEqProofs (maxSteps := 300000) (disch := omega) [-getElem?_pos, -getElem?_neg, h1, ho', hc', hfr, hto, n1, n0]
          try (with_reducible refine Run.ret ?_)
          apply zz
          apply Cd.ite rfl
          · conv => lhs; simp -implicitDefEqProofs (maxSteps := 300000) (disch := omega) [-getElem?_pos, -getElem?_neg]
          all_goals intro c1
          all_goals try (cases c1; done)
          all_goals try simp only [Bool.not_eq_true', Bool.not_eq_false', decide_eq_true_eq, decide_eq_false_iff_not] at c1
          all_goals apply zz
          apply zz
          refine Cd.ra (h := ?_)
          apply Run.by_eq
          · intro self
            conv => lhs; simp -implicitDefEqProofs (maxSteps := 300000) (disch := omega) [-getElem?_pos, -getElem?_neg, h1, ho', hc', hfr, hto, n1, n0]
          try (with_reducible refine Run.ret ?_)
          apply zz
          apply Cd.ite rfl
          · conv => lhs; simp -implicitDefEqProofs (maxSteps := 300000) (disch := omega) [-getElem?_pos, -getElem?_neg]
          all_goals intro c2
          all_goals try (cases c2; done)
          all_goals try simp only [Bool.not_eq_true', Bool.not_eq_false', decide_eq_true_eq, decide_eq_false_iff_not] at c2
          all_goals apply zz
          apply zz
          refine Cd.ra (h := ?_)
          apply Run.by_eq
          · intro self
            conv => lhs; simp -implicitDefEqProofs (maxSteps := 300000) (disch := omega) [-getElem?_pos, -getElem?_neg, h5, hg2]
          try (with_reducible refine Run.ret ?_)
          apply zz
          refine Run.call ((addT_ev acc m (-1) _ ((Mass.tim_le (hgB rfl)).mono (by have := hkk rfl; omega)) (by rw [Mass.add_tim]; exact hsub)).mono fun v wp hv => ?_)
          obtain ⟨rfl, p⟩ := hv
          have pa := p.1
          have pb := p.2
          try simp only [pushed_next', upded_next'] at pa pb
          rw [Mass.add_tim]
          apply Run.by_eq
          · intro self
            conv => lhs; simp -implicitDefEqProofs (maxSteps := 300000) (disch := omega) [-getElem?_pos, -getElem?_neg, h5, hg2, pb, Mass.v]
          try (with_reducible refine Run.ret ?_)
          apply zz
          refine Cd.ra (h := ?_)
          apply Run.by_eq
          · intro self
            conv => lhs; simp -implicitDefEqProofs (maxSteps := 300000) (disch := omega) [-getElem?_pos, -getElem?_neg, h6]
          try (with_reducible refine Run.ret ?_)
          apply zz
          refine LoopK.nm (fs.length - (k + 1)) (by omega) ⟨k + 1, by omega, rfl, by simp [hm], by simp, by simp [h2], by simp [h1], by simp [h4], by simp [h5], ⟨by (try simp only [pushed_next', upded_next']); omega, fun i hi => by simp -implicitDefEqProofs (disch := omega) [hkpb, pb]⟩, by (try simp only [pushed_next', upded_next']); omega, ?_, ?_, ?_⟩
          · simp -implicitDefEqProofs (disch := omega) [hg0, pb]
          · simp -implicitDefEqProofs (disch := omega) [hg1, Mass.cs, pb]
          · rw [hnext]
            simp -implicitDefEqProofs (disch := omega) [Mass.cs, excStep, m0, m1]
        · simp only [m1, m0, decide_false] at hfr hto
          apply zz
          refine Cd.ra (h := ?_)
          apply Run.by_eq
          · intro self
            conv => lhs; simp -implicitDefEqProofs (maxSteps := 300000) (disch := omega) [-getElem?_pos, -getElem?_neg, h1, ho', hc', hfr, hto, n1, n0]
          try (with_reducible refine Run.ret ?_)
          apply zz
          apply Cd.ite rfl
          · conv => lhs; simp -implicitDefEqProofs (maxSteps := 300000) (disch := omega) [-getElem?_pos, -getElem?_neg]
          all_goals intro c1
          all_goals try (cases c1; done)
          all_goals try simp only [Bool.not_eq_true', Bool.not_eq_false', decide_eq_true_eq, decide_eq_false_iff_not] at c1
          all_goals apply zz
          apply zz
          refine Cd.ra (h := ?_)
          apply Run.by_eq
          · intro self
            conv => lhs; simp -implicitDefEqProofs (maxSteps := 300000) (disch := omega) [-getElem?_pos, -getElem?_neg, h1, ho', hc', hfr, hto, n1, n0]
          try (with_reducible refine Run.ret ?_)
          apply zz
          apply Cd.ite rfl
          · conv => lhs; simp -implicitDefEqProofs (maxSteps := 300000) (disch := omega) [-getElem?_pos, -getElem?_neg]
          all_goals intro c2
          all_goals try (cases c2; done)
          all_goals try simp only [Bool.not_eq_true', Bool.not_eq_false', decide_eq_true_eq, decide_eq_false_iff_not] at c2
          all_goals apply zz
          apply zz
          refine Cd.ra (h := ?_)
          apply Run.by_eq
          · intro self
            conv => lhs; simp -implicitDefEqProofs (maxSteps := 300000) (disch := omega) [-getElem?_pos, -getElem?_neg, h6]
          try (with_reducible refine Run.ret ?_)
          apply zz
          refine LoopK.nm (fs.length - (k + 1)) (by omega) ⟨k + 1, by omega, rfl, by simp [hm], by simp, by simp [h2], by simp [h1], by simp [h4], by simp [h5], ⟨by (try simp only [pushed_next', upded_next']); omega, fun i hi => by simp -implicitDefEqProofs (disch := omega) [hkpb]⟩, by (try simp only [pushed_next', upded_next']); omega, ?_, ?_, ?_⟩
          · simp -implicitDefEqProofs (disch := omega) [hg0]
          · simp -implicitDefEqProofs (disch := omega) [hg1, Mass.cs]
          · rw [hnext]
            simp -implicitDefEqProofs (disch := omega) [hg2, Mass.cs, excStep, m0, m1]
    · simp at c0; omega
  · obtain rfl : k = fs.length := by omega
    rw [List.take_length] at hg2
    simp only [Mass.cs] at hg1 hg2
    apply zz
    refine Cd.ra (h := ?_)
    apply Run.by_eq
    · intro self
      conv => lhs; simp -implicitDefEqProofs (maxSteps := 300000) (disch := omega) [-getElem?_pos, -getElem?_neg, h6, h2, hg0]
    try (with_reducible refine Run.ret ?_)
    apply zz
    apply Cd.ite rfl
    · conv => lhs; simp -implicitDefEqProofs (maxSteps := 300000) (disch := omega) [-getElem?_pos, -getElem?_neg]
    all_goals intro c0
    all_goals try (cases c0; done)
    all_goals try simp only [Bool.not_eq_true', Bool.not_eq_false', decide_eq_true_eq, decide_eq_false_iff_not] at c0
    all_goals apply zz
    apply zz
    refine Cd.ra (h := ?_)
    apply Run.by_eq
    · intro self
      conv => lhs; simp -implicitDefEqProofs (maxSteps := 300000) (disch := omega) [-getElem?_pos, -getElem?_neg, h4, h5, hg1, hg2]
    try (with_reducible refine Run.ret ?_)
    apply zz
    apply Leave.mk (by first | exact .inl rfl | exact .inr rfl) (by simp only [Fr.marks_put, fr0_marks, hm, h4])
    · conv => lhs; simp -implicitDefEqProofs (disch := omega) [Try.results43, hm, h4]
    refine ⟨rfl, ?_⟩
    exact ⟨by (try simp only [pushed_next', upded_next']); omega, fun i hi => by simp -implicitDefEqProofs (disch := omega) [hkpb]⟩
end Go.Proofs.Ytifkpaomhnlahaa
namespace Go.Proofs.Ytifkpaomhnlahaa
open Go Kern
set_option maxRecDepth 100000 in
set_option maxHeartbeats 4000000 in
theorem refJoinedB_ev (n : Nat) (lo : Int) (v : Value) (fs : List FlowD) (s : St) (hn : n ≤ 8) (hf : FlAt s v fs) (hl : fs.length ≤ 1000) (hr : ∀ f ∈ fs, (-1 ≤ f.fr ∧ f.fr < n) ∧ (-1 ≤ f.to ∧ f.to < n)) :
    Ev TT 39 [plantV n v, .int .i64 lo] s fun r s' => Keep s s' ∧ ∃ b, r = .slice (some ⟨b, 0, none⟩) (n + 1) (n + 1) ∧ s.next ≤ b ∧ b < s'.next ∧ s'.heap.get b = some (.cells (cellsF (n + 1) (labF lo fs 0 fun x => (x : Int))) (some 1)) := by
  obtain ⟨a, c, rfl⟩ := hf.shape
  rw [List.length_map] at hf ⊢
  unfold plantV
  refine Ev.intro (fn := Try.f39) rfl (by kernel_rfl) rfl rfl ?_
  apply zz
  refine Cd.ra (h := ?_)
  apply Run.by_eq
  · intro self
    conv => lhs; simp -implicitDefEqProofs (maxSteps := 300000) (disch := omega) [-getElem?_pos, -getElem?_neg]
  try (with_reducible refine Run.ret ?_)
  apply zz
  refine Cd.ra (h := ?_)
  apply Run.by_eq
  · intro self
    conv => lhs; simp -implicitDefEqProofs (maxSteps := 300000) (disch := omega) [-getElem?_pos, -getElem?_neg]
  try (with_reducible refine Run.ret ?_)
  apply zz
  refine Cd.ra (h := ?_)
  apply Run.by_eq
  · intro self
    conv => lhs; simp -implicitDefEqProofs (maxSteps := 300000) (disch := omega) [-getElem?_pos, -getElem?_neg]
  try (with_reducible refine Run.ret ?_)
  apply zz
  refine Cd.inv (fun z f s' => ∃ k : Nat, k ≤ n + 1 ∧ z = n + 1 - k ∧ f.marks = [] ∧ f.get 6 = .int .i64 k ∧ f.get 1 = .int .i64 lo ∧ f.get 2 = .pointer (some ⟨s.next, 0, none⟩) ∧ Keep s s' ∧ s.next < s'.next ∧ s'.heap.get s.next = some (.cells [.int .i64 n, .slice a fs.length c] none) ∧ OwnU (s.next + 1) s' (f.get 5) ((List.range k).map fun x : Nat => (x : Int))) (n + 1) ?_ ?_
  · exact ⟨0, by omega, rfl, by simp, by simp, by simp, by simp, ⟨by (try simp only [pushed_next', upded_next']); omega, fun i hi => by simp -implicitDefEqProofs (disch := omega) []⟩, by simp, by simp -implicitDefEqProofs (disch := omega), .inl ⟨rfl, by simp⟩⟩
  rintro z f s' ⟨k, hk, rfl, hm, h6, h1, h2, hkp, hnx, hg0, hU⟩
  have hkpa := hkp.1
  have hkpb := hkp.2
  by_cases hlt : k < n + 1
  · have hkn : (k : Int) ≤ n := by omega
    have hrs : (List.range (k + 1)).map (fun x : Nat => (x : Int)) = (List.range k).map (fun x : Nat => (x : Int)) ++ [(k : Int)] := by rw [List.range_succ, List.map_append]; rfl
    apply zz
    refine Cd.ra (h := ?_)
    apply Run.by_eq
    · intro self
      conv => lhs; simp -implicitDefEqProofs (maxSteps := 300000) (disch := omega) [-getElem?_pos, -getElem?_neg, h6, h2, hg0]
    try (with_reducible refine Run.ret ?_)
    apply zz
    apply Cd.ite rfl
    · conv => lhs; simp -implicitDefEqProofs (maxSteps := 300000) (disch := omega) [-getElem?_pos, -getElem?_neg]
    all_goals intro c0
    all_goals try (cases c0; done)
    all_goals try simp only [Bool.not_eq_true', Bool.not_eq_false', decide_eq_true_eq, decide_eq_false_iff_not] at c0
    all_goals apply zz
    · rcases hU with ⟨hce, hw⟩ | ⟨bu, hw, hne, hb1, hb2, hb3⟩
      · apply zz
        refine Cd.ra (h := ?_)
        apply Run.by_eq
        · intro self
          conv => lhs; simp -implicitDefEqProofs (maxSteps := 300000) (disch := omega) [-getElem?_pos, -getElem?_neg, h6, hw]
        try (with_reducible refine Run.ret ?_)
        apply zz
        refine Cd.ra (h := ?_)
        apply Run.by_eq
        · intro self
          conv => lhs; simp -implicitDefEqProofs (maxSteps := 300000) (disch := omega) [-getElem?_pos, -getElem?_neg, h6]
        try (with_reducible refine Run.ret ?_)
        apply zz
        refine LoopK.nm (n + 1 - (k + 1)) (by omega) ⟨k + 1, by omega, rfl, by simp [hm], by simp, by simp [h1], by simp [h2], ⟨by (try simp only [pushed_next', upded_next']); omega, fun i hi => by simp -implicitDefEqProofs (disch := omega) [hkpb]⟩, by (try simp only [pushed_next']); omega, by simp -implicitDefEqProofs (disch := omega) [hg0], ?_⟩
        rw [hrs, hce]
        exact .inr ⟨s'.next + 1, by simp, by simp, by omega, by simp, by simp⟩
      · rw [List.length_map, List.length_range] at hw
        apply zz
        refine Cd.ra (h := ?_)
        apply Run.by_eq
        · intro self
          conv => lhs; simp -implicitDefEqProofs (maxSteps := 300000) (disch := omega) [-getElem?_pos, -getElem?_neg, h6, hw]
        try (with_reducible refine Run.ret ?_)
        apply zz
        apply Run.by_eq
        · intro self
          rw [appV_moreE (size := 1) (n := k) (old := ((List.range k).map fun x : Nat => (x : Int)).map (Value.int .i64)) ?happ1 (by simp) (by omega)]
          simp -implicitDefEqProofs (disch := omega) [hb3]
        apply Run.by_eq
        · intro self
          conv => lhs; simp -implicitDefEqProofs (maxSteps := 300000) (disch := omega) [-getElem?_pos, -getElem?_neg, hb3]
        try (with_reducible refine Run.ret ?_)
        apply zz
        refine Cd.ra (h := ?_)
        apply Run.by_eq
        · intro self
          conv => lhs; simp -implicitDefEqProofs (maxSteps := 300000) (disch := omega) [-getElem?_pos, -getElem?_neg, h6]
        try (with_reducible refine Run.ret ?_)
        apply zz
        refine LoopK.nm (n + 1 - (k + 1)) (by omega) ⟨k + 1, by omega, rfl, by simp [hm], by simp, by simp [h1], by simp [h2], ⟨by (try simp only [pushed_next', upded_next']); omega, fun i hi => by simp -implicitDefEqProofs (disch := omega) [hkpb]⟩, by (try simp only [pushed_next', upded_next']); omega, by simp -implicitDefEqProofs (disch := omega) [hg0], ?_⟩
        rw [hrs]
        exact .inr ⟨s'.next + 1, by simp, by simp, by omega, by simp, by simp⟩
    · simp at c0; omega
  obtain rfl : k = n + 1 := by omega
  rcases hU with ⟨hce, hw⟩ | ⟨bu, hw, hne, hb1, hb2, hb3⟩
  · simp at hce
  rw [List.length_map, List.length_range] at hw
  have hb4 : s'.heap.get bu = some (.cells (cellsF (n + 1) fun x => x) (some 1)) := by rw [hb3]; simp [cellsF, Function.comp_def]
  clear hb3
  have hkn : ¬ ((n : Int) + 1) ≤ n := by omega
  apply zz
  refine Cd.ra (h := ?_)
  apply Run.by_eq
  · intro self
    conv => lhs; simp -implicitDefEqProofs (maxSteps := 300000) (disch := omega) [-getElem?_pos, -getElem?_neg, h6, h2, hg0, hkn]
  try (with_reducible refine Run.ret ?_)
  apply zz
  apply Cd.ite rfl
  · conv => lhs; simp -implicitDefEqProofs (maxSteps := 300000) (disch := omega) [-getElem?_pos, -getElem?_neg]
  all_goals intro c0
  all_goals try (cases c0; done)
  all_goals try simp only [Bool.not_eq_true', Bool.not_eq_false', decide_eq_true_eq, decide_eq_false_iff_not] at c0
  all_goals apply zz
  apply zz
  refine Cd.ra (h := ?_)
  apply Run.by_eq
  · intro self
    conv => lhs; simp -implicitDefEqProofs (maxSteps := 300000) (disch := omega) [-getElem?_pos, -getElem?_neg]
  try (with_reducible refine Run.ret ?_)
  apply zz
  refine Cd.inv (fun z f3 s3 => ∃ j : Nat, j ≤ fs.length ∧ z = fs.length - j ∧ f3.marks = [] ∧ f3.get 7 = .int .i64 j ∧ f3.get 1 = .int .i64 lo ∧ f3.get 2 = .pointer (some ⟨s.next, 0, none⟩) ∧ f3.get 5 = .slice (some ⟨bu, 0, none⟩) (n + 1) (n + 1) ∧ Keep s s3 ∧ bu < s3.next ∧ s3.heap.get s.next = some (.cells [.int .i64 n, .slice a fs.length c] none) ∧ s3.heap.get bu = some (.cells (cellsF (n + 1) (labF lo (fs.take j) 0 fun x => x)) (some 1))) fs.length ?_ ?_
  · exact ⟨0, by omega, rfl, by simp [hm], by simp, by simp [h1], by simp [h2], by simp [hw], hkp, hb2, hg0, hb4⟩
  clear hkp hkpa hkpb hg0 hb4 hnx
  rintro z f3 s3 ⟨j, hj, rfl, gm3, g7, g1, g2, g5, hkp, hnx, hg0, hb4⟩
  have hkpa := hkp.1
  have hkpb := hkp.2
  by_cases hlt : j < fs.length
  · obtain ⟨g, hg⟩ : ∃ g, fs[j]? = some g := ⟨fs[j], by simp [hlt]⟩
    have hstep := labF_take lo fs 0 (fun x => (x : Int)) j g hg
    rw [Nat.zero_add] at hstep
    generalize labF lo (fs.take j) 0 (fun x => (x : Int)) = h at hstep hb4
    obtain ⟨⟨r1, r2⟩, r3, r4⟩ := hr g (List.mem_of_getElem? hg)
    obtain ⟨b, off, o, cs, gg, rfl, hb, ho, hc, ht⟩ := FlAt.at hf hg
    rw [← hkpb _ hb] at ho
    have t0 := takeL_at ht (i := 0) (by omega)
    have t1 := takeL_at ht (i := 1) (by omega)
    have t2 := takeL_at ht (i := 2) (by omega)
    obtain ⟨g0, g1', gm, m⟩ := g
    rw [List.getElem?_drop] at t0 t1 t2
    simp only [FlowD.cs, Nat.add_zero, List.getElem?_cons_zero, List.getElem?_cons_succ] at t0 t1 t2
    simp only [] at r1 r2 r3 r4
    have n0 := natOf_pos .i64 (show 0 ≤ g0 + 1 by omega)
    have n1 := natOf_pos .i64 (show 0 ≤ g1' + 1 by omega)
    apply zz
    refine Cd.ra (h := ?_)
    apply Run.by_eq
    · intro self
      conv => lhs; simp -implicitDefEqProofs (maxSteps := 300000) (disch := omega) [-getElem?_pos, -getElem?_neg, g7, g2, hg0]
    try (with_reducible refine Run.ret ?_)
    apply zz
    apply Cd.ite rfl
    · conv => lhs; simp -implicitDefEqProofs (maxSteps := 300000) (disch := omega) [-getElem?_pos, -getElem?_neg]
    all_goals intro c1
    all_goals try (cases c1; done)
    all_goals try simp only [Bool.not_eq_true', Bool.not_eq_false', decide_eq_true_eq, decide_eq_false_iff_not] at c1
    all_goals apply zz
    · by_cases hcase : gm = true ∨ (j : Int) = lo
      · have hstay : labStep lo h j ⟨g0, g1', gm, m⟩ = h := by unfold labStep; rw [if_pos hcase]
        rw [hstay] at hstep
        have hfin : ∀ f4 : Fr, f4.marks = [] → f4.get 7 = .int .i64 ((j : Int) + 1) → f4.get 1 = .int .i64 lo → f4.get 2 = .pointer (some ⟨s.next, 0, none⟩) → f4.get 5 = .slice (some ⟨bu, 0, none⟩) (n + 1) (n + 1) → True := fun _ _ _ _ _ _ => trivial
        clear hfin
        cases gm with
        | true =>
          apply zz
          refine Cd.ra (h := ?_)
          apply Run.by_eq
          · intro self
            conv => lhs; simp -implicitDefEqProofs (maxSteps := 300000) (disch := omega) [-getElem?_pos, -getElem?_neg, g7, g2, hg0, ho, hc, t2, hlt]
          try (with_reducible refine Run.ret ?_)
          apply zz
          apply Cd.ite rfl
          · conv => lhs; simp -implicitDefEqProofs (maxSteps := 300000) (disch := omega) [-getElem?_pos, -getElem?_neg]
          all_goals intro c2
          all_goals try (cases c2; done)
          all_goals try simp only [Bool.not_eq_true', Bool.not_eq_false', decide_eq_true_eq, decide_eq_false_iff_not] at c2
          all_goals apply zz
          apply zz
          refine Cd.ra (h := ?_)
          apply Run.by_eq
          · intro self
            conv => lhs; simp -implicitDefEqProofs (maxSteps := 300000) (disch := omega) [-getElem?_pos, -getElem?_neg, g7]
          try (with_reducible refine Run.ret ?_)
          apply zz
          exact LoopK.nm (fs.length - (j + 1)) (by omega) ⟨j + 1, by omega, rfl, by simp [gm3], by simp, by simp [g1], by simp [g2], by simp [g5], hkp, hnx, hg0, by rw [hstep]; exact hb4⟩
        | false =>
          have heq : (j : Int) = lo := by simpa using hcase
          subst heq
          apply zz
          refine Cd.ra (h := ?_)
          apply Run.by_eq
          · intro self
            conv => lhs; simp -implicitDefEqProofs (maxSteps := 300000) (disch := omega) [-getElem?_pos, -getElem?_neg, g7, g2, g1, hg0, ho, hc, t2, hlt]
          try (with_reducible refine Run.ret ?_)
          apply zz
          apply Cd.ite rfl
          · conv => lhs; simp -implicitDefEqProofs (maxSteps := 300000) (disch := omega) [-getElem?_pos, -getElem?_neg]
          all_goals intro c2
          all_goals try (cases c2; done)
          all_goals try simp only [Bool.not_eq_true', Bool.not_eq_false', decide_eq_true_eq, decide_eq_false_iff_not] at c2
          all_goals apply zz
          apply zz
          refine Cd.ra (h := ?_)
          apply Run.by_eq
          · intro self
            conv => lhs; simp -implicitDefEqProofs (maxSteps := 300000) (disch := omega) [-getElem?_pos, -getElem?_neg, g7]
          try (with_reducible refine Run.ret ?_)
          apply zz
          exact LoopK.nm (fs.length - (j + 1)) (by omega) ⟨j + 1, by omega, rfl, by simp [gm3], by simp, by simp [g1], by simp [g2], by simp [g5], hkp, hnx, hg0, by rw [hstep]; exact hb4⟩
      · have hgo : labStep lo h j ⟨g0, g1', gm, m⟩ = relab h (h (g0 + 1).toNat) (h (g1' + 1).toNat) := by unfold labStep; rw [if_neg hcase]
        rw [hgo] at hstep
        obtain ⟨rfl, hne⟩ : gm = false ∧ ¬ (j : Int) = lo := by cases gm <;> simp_all
        have ga := cellsF_get h (show (g0 + 1).toNat < n + 1 by omega)
        have gb := cellsF_get h (show (g1' + 1).toNat < n + 1 by omega)
        apply zz
        refine Cd.ra (h := ?_)
        apply Run.by_eq
        · intro self
          conv => lhs; simp -implicitDefEqProofs (maxSteps := 300000) (disch := omega) [-getElem?_pos, -getElem?_neg, g7, g2, g1, hg0, ho, hc, t2, hlt, hne]
        try (with_reducible refine Run.ret ?_)
        apply zz
        apply Cd.ite rfl
        · conv => lhs; simp -implicitDefEqProofs (maxSteps := 300000) (disch := omega) [-getElem?_pos, -getElem?_neg]
        all_goals intro c2
        all_goals try (cases c2; done)
        all_goals try simp only [Bool.not_eq_true', Bool.not_eq_false', decide_eq_true_eq, decide_eq_false_iff_not] at c2
        all_goals apply zz
        apply zz
        refine Cd.drawnG (pl := [(0, 0, false, false), (1, 0, false, false), (2, 2, false, false), (3, 0, false, false), (4, 14, false, false), (5, 30, false, false), (6, 62, false, false), (7, 126, false, false), (8, 255, false, false), (9, 511, false, false), (10, 0, false, false), (11, 0, false, false), (12, 2048, false, false), (13, 0, false, false), (14, 14336, false, false), (15, 30720, false, false), (16, 63488, false, false), (17, 129024, false, false), (18, 261120, false, false), (19, 523264, false, false), (20, 1023, false, false), (21, 2097151, false, false)]) (by kernel_rfl) (by decide) (by conv => lhs; simp only [List.map_cons, List.map_nil]) (by conv => lhs; simp [strip, orderedG]) ?_
        apply Run.by_eq
        · intro self
          conv => lhs; simp -implicitDefEqProofs (maxSteps := 300000) (disch := omega) [-getElem?_pos, -getElem?_neg, g7, g2, g5, hg0, ho, hc, t0, t1, hlt, n0, n1, hb4, ga, gb]
        try (with_reducible refine Run.ret ?_)
        apply zz
        refine Cd.ra (h := ?_)
        apply Run.by_eq
        · intro self
          conv => lhs; simp -implicitDefEqProofs (maxSteps := 300000) (disch := omega) [-getElem?_pos, -getElem?_neg]
        try (with_reducible refine Run.ret ?_)
        apply zz
        generalize h (g0 + 1).toNat = A at hstep
        generalize h (g1' + 1).toNat = B at hstep
        refine Cd.inv (fun z f4 s4 => ∃ i : Nat, i ≤ n + 1 ∧ z = n + 1 - i ∧ f4.marks = [] ∧ f4.get 10 = .int .i64 i ∧ f4.get 8 = .int .i64 A ∧ f4.get 9 = .int .i64 B ∧ f4.get 7 = .int .i64 j ∧ f4.get 1 = .int .i64 lo ∧ f4.get 2 = .pointer (some ⟨s.next, 0, none⟩) ∧ f4.get 5 = .slice (some ⟨bu, 0, none⟩) (n + 1) (n + 1) ∧ Keep s s4 ∧ bu < s4.next ∧ s4.heap.get s.next = some (.cells [.int .i64 n, .slice (some ⟨b, off, none⟩) fs.length c] none) ∧ s4.heap.get bu = some (.cells (cellsF (n + 1) (fun x => if x < i then relab h A B x else h x)) (some 1))) (n + 1) ?_ ?_
        · exact ⟨0, by omega, rfl, by simp [gm3], by simp, by simp, by simp, by simp [g7], by simp [g1], by simp [g2], by simp [g5], hkp, hnx, hg0, by simpa using hb4⟩
        clear hb4 hg0 hkp hkpa hkpb hnx ho
        rintro z f4 s4 ⟨i, hi, rfl, gm4, q10, q8, q9, q7, q1, q2, q5, hkp, hnx, hg0, hb4⟩
        have hkpa := hkp.1
        have hkpb := hkp.2
        by_cases hin : i < n + 1
        · have gi := cellsF_get (fun x => if x < i then relab h A B x else h x) hin
          simp only [Nat.lt_irrefl, if_false] at gi
          have hlen : (cellsF (n + 1) (fun x => if x < i then relab h A B x else h x)).length = n + 1 := cellsF_length _ _
          apply zz
          refine Cd.ra (h := ?_)
          apply Run.by_eq
          · intro self
            conv => lhs; simp -implicitDefEqProofs (maxSteps := 300000) (disch := omega) [-getElem?_pos, -getElem?_neg, q10, q5]
          try (with_reducible refine Run.ret ?_)
          apply zz
          apply Cd.ite rfl
          · conv => lhs; simp -implicitDefEqProofs (maxSteps := 300000) (disch := omega) [-getElem?_pos, -getElem?_neg]
          all_goals intro c3
          all_goals try (cases c3; done)
          all_goals try simp only [Bool.not_eq_true', Bool.not_eq_false', decide_eq_true_eq, decide_eq_false_iff_not] at c3
          all_goals apply zz
          · apply zz
            refine Cd.ra (h := ?_)
            apply Run.by_eq
            · intro self
              conv => lhs; simp -implicitDefEqProofs (maxSteps := 300000) (disch := omega) [-getElem?_pos, -getElem?_neg, q10, q5, q8, q9, hb4, gi, hin]
            try (with_reducible refine Run.ret ?_)
            apply zz
            by_cases hmx : h i = max A B
            · have hput := putL_set (Value.int .i64 (min A B)) i (cellsF (n + 1) (fun x => if x < i then relab h A B x else h x)) (by rw [hlen]; exact hin)
              rw [show (cellsF (n + 1) (fun x => if x < i then relab h A B x else h x)).set i (.int .i64 (min A B)) = cellsF (n + 1) (fun x => if x < i + 1 then relab h A B x else h x) from range_set (h := fun x => if x < i + 1 then relab h A B x else h x) hin (fun x _ hx => by by_cases e : x < i <;> simp [e] <;> omega) (by simp [relab, hmx])] at hput
              apply zz
              apply Cd.ite rfl
              · conv => lhs; simp -implicitDefEqProofs (maxSteps := 300000) (disch := omega) [-getElem?_pos, -getElem?_neg, hmx]
              all_goals intro c4
              all_goals try (cases c4; done)
              all_goals try simp only [Bool.not_eq_true', Bool.not_eq_false', decide_eq_true_eq, decide_eq_false_iff_not] at c4
              all_goals apply zz
              apply zz
              refine Cd.ra (h := ?_)
              apply Run.by_eq
              · intro self
                conv => lhs; simp -implicitDefEqProofs (maxSteps := 300000) (disch := omega) [-getElem?_pos, -getElem?_neg, q10, q5, q8, q9, hb4, hput, hin]
              try (with_reducible refine Run.ret ?_)
              apply zz
              refine Cd.ra (h := ?_)
              apply Run.by_eq
              · intro self
                conv => lhs; simp -implicitDefEqProofs (maxSteps := 300000) (disch := omega) [-getElem?_pos, -getElem?_neg, q10]
              try (with_reducible refine Run.ret ?_)
              apply zz
              refine LoopK.nm (n + 1 - (i + 1)) (by omega) ⟨i + 1, by omega, rfl, by simp [gm4], by simp, by simp [q8], by simp [q9], by simp [q7], by simp [q1], by simp [q2], by simp [q5], ⟨by (try simp only [pushed_next', upded_next']); omega, fun i hi => by simp -implicitDefEqProofs (disch := omega) [hkpb]⟩, by (try simp only [upded_next']); omega, ?_, ?_⟩
              · rw [get_upded_other _ _ _ _ (by omega)]; exact hg0
              · rw [get_upded_same]
            · have hsame : cellsF (n + 1) (fun x => if x < i + 1 then relab h A B x else h x) = cellsF (n + 1) (fun x => if x < i then relab h A B x else h x) := by
                unfold cellsF
                apply List.map_congr_left
                intro x _
                by_cases e : x < i
                · simp [e, show x < i + 1 by omega]
                · by_cases e2 : x = i
                  · subst e2; simp [relab, hmx]
                  · simp [e, show ¬ x < i + 1 by omega]
              apply zz
              apply Cd.ite rfl
              · conv => lhs; simp -implicitDefEqProofs (maxSteps := 300000) (disch := omega) [-getElem?_pos, -getElem?_neg, hmx]
              all_goals intro c4
              all_goals try (cases c4; done)
              all_goals try simp only [Bool.not_eq_true', Bool.not_eq_false', decide_eq_true_eq, decide_eq_false_iff_not] at c4
              all_goals apply zz
              apply zz
              refine Cd.ra (h := ?_)
              apply Run.by_eq
              · intro self
                conv => lhs; simp -implicitDefEqProofs (maxSteps := 300000) (disch := omega) [-getElem?_pos, -getElem?_neg, q10]
              try (with_reducible refine Run.ret ?_)
              apply zz
              exact LoopK.nm (n + 1 - (i + 1)) (by omega) ⟨i + 1, by omega, rfl, by simp [gm4], by simp, by simp [q8], by simp [q9], by simp [q7], by simp [q1], by simp [q2], by simp [q5], hkp, hnx, hg0, by rw [hsame]; exact hb4⟩
          · simp at c3; omega
        · obtain rfl : i = n + 1 := by omega
          have hall : cellsF (n + 1) (fun x => if x < n + 1 then relab h A B x else h x) = cellsF (n + 1) (relab h A B) := by
            unfold cellsF
            apply List.map_congr_left
            intro x hx
            have : x < n + 1 := by simpa using hx
            simp [this]
          rw [hall, ← hstep] at hb4
          apply zz
          refine Cd.ra (h := ?_)
          apply Run.by_eq
          · intro self
            conv => lhs; simp -implicitDefEqProofs (maxSteps := 300000) (disch := omega) [-getElem?_pos, -getElem?_neg, q10, q5]
          try (with_reducible refine Run.ret ?_)
          apply zz
          apply Cd.ite rfl
          · conv => lhs; simp -implicitDefEqProofs (maxSteps := 300000) (disch := omega) [-getElem?_pos, -getElem?_neg]
          all_goals intro c3
          all_goals try (cases c3; done)
          all_goals try simp only [Bool.not_eq_true', Bool.not_eq_false', decide_eq_true_eq, decide_eq_false_iff_not] at c3
          all_goals apply zz
          apply zz
          refine Cd.ra (h := ?_)
          apply Run.by_eq
          · intro self
            conv => lhs; simp -implicitDefEqProofs (maxSteps := 300000) (disch := omega) [-getElem?_pos, -getElem?_neg, q7]
          try (with_reducible refine Run.ret ?_)
          apply zz
          exact LoopK.nm (fs.length - (j + 1)) (by omega) ⟨j + 1, by omega, rfl, by simp [gm4], by simp, by simp [q1], by simp [q2], by simp [q5], hkp, hnx, hg0, hb4⟩
    · simp at c1; omega
  · obtain rfl : j = fs.length := by omega
    rw [List.take_length] at hb4
    apply zz
    refine Cd.ra (h := ?_)
    apply Run.by_eq
    · intro self
      conv => lhs; simp -implicitDefEqProofs (maxSteps := 300000) (disch := omega) [-getElem?_pos, -getElem?_neg, g7, g2, hg0]
    try (with_reducible refine Run.ret ?_)
    apply zz
    apply Cd.ite rfl
    · conv => lhs; simp -implicitDefEqProofs (maxSteps := 300000) (disch := omega) [-getElem?_pos, -getElem?_neg]
    all_goals intro c1
    all_goals try (cases c1; done)
    all_goals try simp only [Bool.not_eq_true', Bool.not_eq_false', decide_eq_true_eq, decide_eq_false_iff_not] at c1
    all_goals apply zz
    apply zz
    refine Cd.ra (h := ?_)
    apply Run.by_eq
    · intro self
      conv => lhs; simp -implicitDefEqProofs (maxSteps := 300000) (disch := omega) [-getElem?_pos, -getElem?_neg, g5]
    try (with_reducible refine Run.ret ?_)
    apply zz
    apply Leave.mk (by first | exact .inl rfl | exact .inr rfl) (by simp only [Fr.marks_put, fr0_marks, gm3])
    · conv => lhs; simp -implicitDefEqProofs (disch := omega) [Try.results39, gm3]
    exact ⟨hkp, bu, rfl, by omega, hnx, hb4⟩
theorem ints_of_cellsF {n : Nat} {s : St} {b : Nat} {L : Nat → Int} {g : Option Nat} (h2 : b < s.next) (h3 : s.heap.get b = some (.cells (cellsF (n + 1) L) g)) : IntsAt s (.slice (some ⟨b, 0, none⟩) (n + 1) (n + 1)) ((List.range (n + 1)).map L) := by
  have := ints_of_cells (s := s) (b := b) (c := n + 1) (xs := (List.range (n + 1)).map L) (g := g) h2 (by rw [h3]; simp [cellsF, Function.comp_def])
  rw [List.length_map, List.length_range] at this
  exact this
end Go.Proofs.Ytifkpaomhnlahaa
namespace Go.Proofs.Ytifkpaomhnlahaa
open Go Kern
theorem newObj_allocB {T : Tab} {f : Fr} (t : TypeId) {z : Value} (h : T.zero t = some z) : Kern.newObj T (.alloc t) f = some (.cells z.cells.toList none) := by
  have hc : compOp T (.alloc t) = some (.new fun _ => some (.cells z.cells.toList none, ptrTo)) := by
    show ob (T.zero t) _ = _
    rw [h]; rfl
  unfold Kern.newObj
  rw [hc]; rfl
@[simp] theorem newObj_a33 {f : Fr} : Kern.newObj TT (.alloc 33) f = some (.cells [.int .i64 0, .slice none 0 0] none) := newObj_allocB 33 zero_33
theorem w64_zero : Mass.zero.w64 := by simp [Mass.w64, Mass.zero]
set_option maxRecDepth 100000 in
set_option maxHeartbeats 4000000 in
theorem refFill_ev (u fl : Int) (m : Mass) (v : Value) (fs : List FlowD) (s : St) (hf : FlAt s v fs) (hl : fs.length ≤ 1000) (hm64 : m.w64) :
    Ev TT 27 [plantV u v, .int .i64 fl, m.v] s fun r s' => Keep s s' ∧ ∃ w, r = .tuple #[w, .int .i64 (fillErr u fs fl m)] := by
  obtain ⟨a, c, rfl⟩ := hf.shape
  rw [List.length_map] at hf ⊢
  unfold plantV Mass.v
  refine Ev.intro (fn := Try.f27) rfl (by kernel_rfl) rfl rfl ?_
  apply zz
  refine Cd.ra (h := ?_)
  apply Run.by_eq
  · intro self
    conv => lhs; simp -implicitDefEqProofs (maxSteps := 300000) (disch := omega) [-getElem?_pos, -getElem?_neg]
  try (with_reducible refine Run.ret ?_)
  apply zz
  refine Cd.ra (h := ?_)
  apply Run.by_eq
  · intro self
    conv => lhs; simp -implicitDefEqProofs (maxSteps := 300000) (disch := omega) [-getElem?_pos, -getElem?_neg]
  try (with_reducible refine Run.ret ?_)
  apply zz
  refine Run.call ((refClose_ev u _ fs _ (hf.keep ⟨by (try simp only [pushed_next', upded_next']); omega, fun i hi => by simp -implicitDefEqProofs (disch := omega) []⟩) (by omega)).mono fun r w1 hv => ?_)
  obtain ⟨k1, kv, rfl, hkn⟩ := hv
  have k1a := k1.1
  have k1b := k1.2
  try simp only [pushed_next', upded_next'] at k1a k1b
  have hp1 : w1.heap.get s.next = some (.cells [.int .i64 u, .slice a fs.length c] none) := by rw [k1b _ (by omega)]; simp -implicitDefEqProofs (disch := omega)
  have hm1 : w1.heap.get (s.next + 1) = some (.cells [.int .i64 m.a, .int .i64 m.b, .int .i64 m.c, .int .i64 m.d] none) := by rw [k1b _ (by omega)]; simp -implicitDefEqProofs (disch := omega)
  have hold1 : ∀ i, i < s.next → w1.heap.get i = s.heap.get i := fun i hi => by rw [k1b i (by omega)]; simp -implicitDefEqProofs (disch := omega)
  have hk1 : Keep s w1 := ⟨by omega, hold1⟩
  by_cases hce : closeErr u fs = 0
  case neg =>
    have hfe : fillErr u fs fl m = closeErr u fs := by unfold fillErr; rw [if_pos hce]
    rw [hfe]
    apply Run.by_eq
    · intro self
      conv => lhs; simp -implicitDefEqProofs (maxSteps := 300000) (disch := omega) [-getElem?_pos, -getElem?_neg]
    try (with_reducible refine Run.ret ?_)
    apply zz
    refine Cd.ra (h := ?_)
    apply Run.by_eq
    · intro self
      conv => lhs; simp -implicitDefEqProofs (maxSteps := 300000) (disch := omega) [-getElem?_pos, -getElem?_neg, hce]
    try (with_reducible refine Run.ret ?_)
    apply zz
    apply Cd.ite rfl
    · conv => lhs; simp -implicitDefEqProofs (maxSteps := 300000) (disch := omega) [-getElem?_pos, -getElem?_neg]
    all_goals intro c0
    all_goals try (cases c0; done)
    all_goals try simp only [Bool.not_eq_true', Bool.not_eq_false', decide_eq_true_eq, decide_eq_false_iff_not] at c0
    all_goals apply zz
    apply zz
    refine Cd.ra (h := ?_)
    apply Run.by_eq
    · intro self
      conv => lhs; simp -implicitDefEqProofs (maxSteps := 300000) (disch := omega) [-getElem?_pos, -getElem?_neg]
    try (with_reducible refine Run.ret ?_)
    apply zz
    apply Leave.mk (by first | exact .inl rfl | exact .inr rfl) (by simp only [Fr.marks_put, fr0_marks])
    · conv => lhs; simp -implicitDefEqProofs (disch := omega) [Try.results27]
    exact ⟨hk1, _, rfl⟩
  have hck := close_none hce
  obtain ⟨hu1, hu2, hl20, _⟩ := checkErr_ok hck
  obtain ⟨n, hn⟩ : ∃ n : Nat, u = n := ⟨u.toNat, by omega⟩
  subst hn
  have h9 := checkErr_le9 hck
  have hks : closeKs n fs = (List.range fs.length).map (closeF fs n) := by unfold closeKs; rw [if_pos hce]; rfl
  rw [hks] at hkn
  obtain ⟨ak, ck, rfl⟩ := hkn.shape
  rw [List.length_map, List.length_map, List.length_range] at hkn
  simp only [List.length_map, List.length_range]
  rw [hce]
  apply Run.by_eq
  · intro self
    conv => lhs; simp -implicitDefEqProofs (maxSteps := 300000) (disch := omega) [-getElem?_pos, -getElem?_neg]
  try (with_reducible refine Run.ret ?_)
  apply zz
  refine Cd.ra (h := ?_)
  apply Run.by_eq
  · intro self
    conv => lhs; simp -implicitDefEqProofs (maxSteps := 300000) (disch := omega) [-getElem?_pos, -getElem?_neg]
  try (with_reducible refine Run.ret ?_)
  apply zz
  apply Cd.ite rfl
  · conv => lhs; simp -implicitDefEqProofs (maxSteps := 300000) (disch := omega) [-getElem?_pos, -getElem?_neg]
  all_goals intro c0
  all_goals try (cases c0; done)
  all_goals try simp only [Bool.not_eq_true', Bool.not_eq_false', decide_eq_true_eq, decide_eq_false_iff_not] at c0
  all_goals apply zz
  apply zz
  refine Cd.ra (h := ?_)
  apply Run.by_eq
  · intro self
    conv => lhs; simp -implicitDefEqProofs (maxSteps := 300000) (disch := omega) [-getElem?_pos, -getElem?_neg, hp1]
  try (with_reducible refine Run.ret ?_)
  apply zz
  refine Run.call ((is_ev fl 0 ((fs.length : Int) - 1) _).mono fun v wx hv => ?_)
  obtain ⟨rfl, x⟩ := hv
  have xa := x.1
  have xb := x.2
  try simp only [pushed_next', upded_next'] at xa xb
  by_cases hfl : fl < 0 ∨ (fs.length : Int) ≤ fl
  · have hfe : fillErr n fs fl m = 5 := by unfold fillErr; rw [if_neg (by simp [hce]), if_pos hfl]
    rw [hfe]
    have hib : isB fl 0 ((fs.length : Int) - 1) = false := by simp only [isB, Bool.and_eq_false_iff, decide_eq_false_iff_not]; omega
    apply Run.by_eq
    · intro self
      conv => lhs; simp -implicitDefEqProofs (maxSteps := 300000) (disch := omega) [-getElem?_pos, -getElem?_neg, hib]
    try (with_reducible refine Run.ret ?_)
    apply zz
    apply Cd.ite rfl
    · conv => lhs; simp -implicitDefEqProofs (maxSteps := 300000) (disch := omega) [-getElem?_pos, -getElem?_neg]
    all_goals intro c1
    all_goals try (cases c1; done)
    all_goals try simp only [Bool.not_eq_true', Bool.not_eq_false', decide_eq_true_eq, decide_eq_false_iff_not] at c1
    all_goals apply zz
    apply zz
    refine Cd.ra (h := ?_)
    apply Run.by_eq
    · intro self
      conv => lhs; simp -implicitDefEqProofs (maxSteps := 300000) (disch := omega) [-getElem?_pos, -getElem?_neg]
    try (with_reducible refine Run.ret ?_)
    apply zz
    apply Leave.mk (by first | exact .inl rfl | exact .inr rfl) (by simp only [Fr.marks_put, fr0_marks])
    · conv => lhs; simp -implicitDefEqProofs (disch := omega) [Try.results27]
    exact ⟨⟨by (try simp only [pushed_next', upded_next']); omega, fun i hi => by simp -implicitDefEqProofs (disch := omega) [xb, hold1]⟩, _, rfl⟩
  obtain ⟨k, rfl⟩ : ∃ k : Nat, fl = k := ⟨fl.toNat, by omega⟩
  have hlt : k < fs.length := by omega
  have hib : isB (k : Int) 0 ((fs.length : Int) - 1) = true := by simp only [isB, Bool.and_eq_true, decide_eq_true_eq]; omega
  apply Run.by_eq
  · intro self
    conv => lhs; simp -implicitDefEqProofs (maxSteps := 300000) (disch := omega) [-getElem?_pos, -getElem?_neg, hib]
  try (with_reducible refine Run.ret ?_)
  apply zz
  apply Cd.ite rfl
  · conv => lhs; simp -implicitDefEqProofs (maxSteps := 300000) (disch := omega) [-getElem?_pos, -getElem?_neg]
  all_goals intro c1
  all_goals try (cases c1; done)
  all_goals try simp only [Bool.not_eq_true', Bool.not_eq_false', decide_eq_true_eq, decide_eq_false_iff_not] at c1
  all_goals apply zz
  obtain ⟨f, hk⟩ : ∃ f, fs[k]? = some f := ⟨fs[k], by simp [hlt]⟩
  have hpx := (xb s.next (by omega)).trans hp1
  have hmx := (xb (s.next + 1) (by omega)).trans hm1
  obtain ⟨bk, ok, obk, csk, ggk, rfl, hbk, hok, hck', htk⟩ := SlAt.at (hkn.keep x) (k := k) (e := (closeF fs n k).cs) (by rw [List.getElem?_map, List.getElem?_map, List.getElem?_range hlt]; rfl)
  have hkl := closeF_le' (n := n) h9 hl20 k
  have hfe : fillErr n fs k m = if ((closeF fs n k).st ≠ 3 ∧ (closeF fs n k).m ≠ m) ∨ eachB m (-1000000000) 1000000000 = false then 22 else 0 := by
    unfold fillErr
    rw [if_neg (by simp [hce]), if_neg (by omega)]
    rfl
  generalize hkd : closeF fs n k = kd at htk hkl hfe
  obtain ⟨st, km⟩ := kd
  simp only [] at hkl hfe
  rw [show KnownD.cs ⟨st, km⟩ = [.int .i64 st, .int .i64 km.a, .int .i64 km.b, .int .i64 km.c, .int .i64 km.d] from rfl] at htk
  obtain ⟨q0, q1⟩ := takeL_cons htk
  have hEq : aggEq TT 39 #[.int .i64 km.a, .int .i64 km.b, .int .i64 km.c, .int .i64 km.d] #[.int .i64 m.a, .int .i64 m.b, .int .i64 m.c, .int .i64 m.d] = some (decide (km = m)) := aggEqW unA39 ceA39 (hkl.w64 (by omega)) hm64
  have vek : veq 5 (Value.slice (some ⟨bk, ok, none⟩) fs.length ck) (Value.slice (some ⟨bk, ok, none⟩) fs.length ck) = true := veq_slice _ _ _ _ _
  apply zz
  refine Cd.drawnH (pl := [(0, 0, false, false), (1, 1, true, false), (2, 3, false, false), (3, 7, false, false), (4, 15, false, false), (5, 15, false, false), (6, 63, false, false), (7, 127, false, false), (8, 255, false, false), (9, 511, false, false), (10, 1023, false, false), (11, 2047, false, false), (12, 2047, false, false), (13, 8191, false, false), (14, 16383, false, false), (15, 32767, false, false), (16, 2047, false, false), (17, 131071, false, false), (18, 262143, false, false), (19, 524287, false, false)]) [false, false, false, false, false, false, false, false, false, false, false, false, false, false, false, false, false, false, false, false] (by kernel_rfl) (by decide) (by decide) (by conv => lhs; simp only [List.map_cons, List.map_nil]) (by conv => lhs; simp [strip, orderedG, flagH]) ?_
  apply Run.by_eq
  · intro self
    conv => lhs; simp -implicitDefEqProofs (maxSteps := 300000) (disch := omega) [-getElem?_pos, -getElem?_neg, hmx]
  try (with_reducible refine Run.ret ?_)
  apply zz
  refine Run.call ((each_ev m (-1000000000) 1000000000 _).mono fun v wy hv => ?_)
  obtain ⟨rfl, y⟩ := hv
  have ya := y.1
  have yb := y.2
  try simp only [pushed_next', upded_next'] at ya yb
  have hpy := (yb s.next (by omega)).trans hpx
  have hmy := (yb (s.next + 1) (by omega)).trans hmx
  have hoky := (yb bk (by omega)).trans hok
  cases hE : eachB m (-1000000000) 1000000000 with
  | false =>
    have hfe' : fillErr n fs k m = 22 := by rw [hfe, if_pos (.inr hE)]
    rw [hfe']
    apply Run.by_eq
    · intro self
      conv => lhs; simp -implicitDefEqProofs (maxSteps := 300000) (disch := omega) [-getElem?_pos, -getElem?_neg, hE]
    try (with_reducible refine Run.ret ?_)
    apply zz
    apply Cd.ite rfl
    · conv => lhs; simp -implicitDefEqProofs (maxSteps := 300000) (disch := omega) [-getElem?_pos, -getElem?_neg]
    all_goals intro c2
    all_goals try (cases c2; done)
    all_goals try simp only [Bool.not_eq_true', Bool.not_eq_false', decide_eq_true_eq, decide_eq_false_iff_not] at c2
    all_goals apply zz
    apply zz
    refine Cd.ra (h := ?_)
    apply Run.by_eq
    · intro self
      conv => lhs; simp -implicitDefEqProofs (maxSteps := 300000) (disch := omega) [-getElem?_pos, -getElem?_neg]
    try (with_reducible refine Run.ret ?_)
    apply zz
    apply Leave.mk (by first | exact .inl rfl | exact .inr rfl) (by simp only [Fr.marks_put, fr0_marks])
    · conv => lhs; simp -implicitDefEqProofs (disch := omega) [Try.results27]
    exact ⟨⟨by (try simp only [pushed_next', upded_next']); omega, fun i hi => by simp -implicitDefEqProofs (disch := omega) [yb, xb, hold1]⟩, _, rfl⟩
  | true =>
  by_cases hdf : st ≠ 3 ∧ km ≠ m
  · rw [decide_eq_false hdf.2] at hEq
    have hfe' : fillErr n fs k m = 22 := by rw [hfe, if_pos (.inl hdf)]
    rw [hfe']
    apply Run.by_eq
    · intro self
      conv => lhs; simp -implicitDefEqProofs (maxSteps := 300000) (disch := omega) [-getElem?_pos, -getElem?_neg, hE, hlt, hoky, hck', q0, q1, hdf.1, vek, hEq, hmy]
    try (with_reducible refine Run.ret ?_)
    apply zz
    apply Cd.ite rfl
    · conv => lhs; simp -implicitDefEqProofs (maxSteps := 300000) (disch := omega) [-getElem?_pos, -getElem?_neg]
    all_goals intro c2
    all_goals try (cases c2; done)
    all_goals try simp only [Bool.not_eq_true', Bool.not_eq_false', decide_eq_true_eq, decide_eq_false_iff_not] at c2
    all_goals apply zz
    apply zz
    refine Cd.ra (h := ?_)
    apply Run.by_eq
    · intro self
      conv => lhs; simp -implicitDefEqProofs (maxSteps := 300000) (disch := omega) [-getElem?_pos, -getElem?_neg]
    try (with_reducible refine Run.ret ?_)
    apply zz
    apply Leave.mk (by first | exact .inl rfl | exact .inr rfl) (by simp only [Fr.marks_put, fr0_marks])
    · conv => lhs; simp -implicitDefEqProofs (disch := omega) [Try.results27]
    exact ⟨⟨by (try simp only [pushed_next', upded_next']); omega, fun i hi => by simp -implicitDefEqProofs (disch := omega) [yb, xb, hold1]⟩, _, rfl⟩
  have hfe' : fillErr n fs k m = 0 := by rw [hfe, if_neg (by rw [hE]; rintro (h | h); exact hdf h; cases h)]
  rw [hfe']
  have hd2 : st = 3 ∨ km = m := by
    by_cases e : st = 3
    · exact .inl e
    · exact .inr (Classical.byContradiction fun h => hdf ⟨e, h⟩)
  have hput1 := set_flat (g := meas f f.m) (off := 2) (vs := [.bool true]) hk rfl
  have hput2 := set_flat (g := meas f m) (off := 3) (vs := [.int .i64 m.a, .int .i64 m.b, .int .i64 m.c, .int .i64 m.d]) (set_at (g := meas f f.m) hk) rfl
  rw [List.set_set] at hput2
  have hky : Keep s wy := ⟨by (try simp only [pushed_next', upded_next']); omega, fun i hi => by simp -implicitDefEqProofs (disch := omega) [yb, xb, hold1]⟩
  obtain ⟨ba, oa, _, _, _, rfl, _⟩ := FlAt.at hf hk
  have vea : veq 5 (Value.slice (some ⟨ba, oa, none⟩) fs.length c) (Value.slice (some ⟨ba, oa, none⟩) fs.length c) = true := veq_slice _ _ _ _ _
  have happ := app_own (n := 7) (N := wy.next) (s := (wy.pushed (.cells [] none)).pushed (.cells [.int .i64 0, .slice none 0 0] none)) (b := wy.next) (l0 := []) (l := fs.map FlowD.cs) (y := .slice (some ⟨ba, oa, none⟩) fs.length c) ⟨wy.next, rfl, Nat.le_refl _, by simp; omega, by simp -implicitDefEqProofs (disch := omega)⟩ (hf.keep ⟨by (try simp only [pushed_next', upded_next']); omega, fun i hi => by simp -implicitDefEqProofs (disch := omega) [hky.2]⟩) (fun x hx => by cases hx) (flows_ones fs) (by simp; omega)
  rw [if_neg (by intro h; have := List.map_eq_nil_iff.1 h; subst this; simp at hlt)] at happ
  simp only [List.length_nil, List.length_map, Nat.zero_add, List.flatten_nil, List.nil_append, pushed_next', if_true] at happ
  change _ = some (_, ((wy.pushed _).pushed _).pushed (.cells (flatF fs) (some 7))) at happ
  have hends := ends_in hck
  have hml := eachB_le9 hE
  have hgE : ∀ g ∈ fs.set k (meas f m), (-1 ≤ g.fr ∧ g.fr < n) ∧ (-1 ≤ g.to ∧ g.to < n) := fun g hg => by
    rcases set_mem hk g hg with rfl | h
    · exact hends f (List.mem_of_getElem? hk)
    · exact hends g h
  have hgT : tot (fs.set k (meas f m)) ≤ 100000000000 := by
    have h1 := tot_set fs k f m
    have h2 := tot_le (B := 1000000000) h9
    have h3 : amt m ≤ 4000000000 := by unfold Mass.le at hml; unfold amt; omega
    omega
  have hgL : (fs.set k (meas f m)).length = fs.length := List.length_set
  by_cases h3 : st = 3
  · apply Run.by_eq
    · intro self
      conv => lhs; simp -implicitDefEqProofs (maxSteps := 300000) (disch := omega) [-getElem?_pos, -getElem?_neg, hE, hlt, hoky, hck', q0, h3, vek, hmy]
    try (with_reducible refine Run.ret ?_)
    apply zz
    apply Cd.ite rfl
    · conv => lhs; simp -implicitDefEqProofs (maxSteps := 300000) (disch := omega) [-getElem?_pos, -getElem?_neg]
    all_goals intro c2
    all_goals try (cases c2; done)
    all_goals try simp only [Bool.not_eq_true', Bool.not_eq_false', decide_eq_true_eq, decide_eq_false_iff_not] at c2
    all_goals apply zz
    apply zz
    refine Cd.drawn (pl := [(0, 0, false, false), (1, 1, false, false), (2, 0, false, true), (3, 0, false, false), (4, 8, false, false), (7, 0, false, true), (5, 28, true, false), (6, 63, false, false), (8, 255, true, false)]) (by kernel_rfl) (by conv => lhs; simp only [List.map_cons, List.map_nil]) (by conv => lhs; simp [strip, ordered]) ?_
    apply Run.by_eq
    · intro self
      conv => lhs; simp -implicitDefEqProofs (maxSteps := 300000) (disch := omega) [filter_bt, Nat.testBit_eq_decide_div_mod_eq, -getElem?_pos, -getElem?_neg, hpy, happ, vea]
    try (with_reducible refine Run.ret ?_)
    apply zz
    refine Cd.drawn (pl := [(0, 0, false, false), (1, 1, false, false), (2, 0, false, false), (3, 0, false, false), (4, 8, false, false), (5, 0, false, false), (6, 0, false, false), (7, 7, false, false), (8, 135, false, false), (9, 391, true, false), (10, 1023, false, false), (11, 2047, false, false), (12, 4095, true, false)]) (by kernel_rfl) (by conv => lhs; simp only [List.map_cons, List.map_nil]) (by conv => lhs; simp [strip, ordered]) ?_
    apply Run.by_eq
    · intro self
      conv => lhs; simp -implicitDefEqProofs (maxSteps := 300000) (disch := omega) [filter_bt, Nat.testBit_eq_decide_div_mod_eq, -getElem?_pos, -getElem?_neg, hmy, hput1, hput2, hlt]
    try (with_reducible refine Run.ret ?_)
    apply zz
    refine Cd.ra (h := ?_)
    apply Run.by_eq
    · intro self
      conv => lhs; simp -implicitDefEqProofs (maxSteps := 300000) (disch := omega) [-getElem?_pos, -getElem?_neg]
    try (with_reducible refine Run.ret ?_)
    apply zz
    refine Cd.inv (fun z f s' => ∃ (i : Nat) (gs : List FlowD), i ≤ fs.length ∧ z = fs.length - i ∧ f.marks = [] ∧ f.get 11 = .int .i64 i ∧ f.get 10 = .pointer (some ⟨wy.next + 1, 0, none⟩) ∧ Keep s s' ∧ wy.next + 1 + 1 < s'.next ∧ s'.heap.get (wy.next + 1) = some (.cells [.int .i64 n, .slice (some ⟨wy.next + 1 + 1, 0, none⟩) fs.length fs.length] none) ∧ s'.heap.get (wy.next + 1 + 1) = some (.cells (flatF gs) (some 7)) ∧ gs.length = fs.length ∧ tot gs ≤ 2 ^ i * 100000000000 ∧ ∀ g ∈ gs, (-1 ≤ g.fr ∧ g.fr < n) ∧ (-1 ≤ g.to ∧ g.to < n)) fs.length ?_ ?_
    · refine ⟨0, fs.set k (meas f m), by omega, rfl, by simp, by simp, by simp, ⟨by (try simp only [pushed_next', upded_next']); omega, fun i hi => by simp -implicitDefEqProofs (disch := omega) [hky.2]⟩, by (try simp only [pushed_next', upded_next']); omega, ?_, ?_, hgL, by rw [Nat.pow_zero, Nat.one_mul]; exact hgT, hgE⟩
      · simp -implicitDefEqProofs (disch := omega)
      · simp -implicitDefEqProofs (disch := omega)
    rintro z f2 s' ⟨i, gs, hi, rfl, hm, h11, h10, hkp, hnx, hπ, hβ, hgl, htot, hgends⟩
    have hkpa := hkp.1
    have hkpb := hkp.2
    have hnyS : s.next ≤ wy.next := hky.1
    by_cases hil : i < fs.length
    · obtain ⟨g, hg⟩ : ∃ g, gs[i]? = some g := ⟨gs[i], by simp [show i < gs.length by omega]⟩
      have hget := flow_get hg
      obtain ⟨hV1, hV2⟩ := hgends g (List.mem_of_getElem? hg)
      have hp2 : 2 ^ i * 100000000000 ≤ 104857600000000000 := by
        have : 2 ^ i ≤ 2 ^ 20 := Nat.pow_le_pow_right (by omega) (by omega)
        omega
      have hps : 2 ^ (i + 1) * 100000000000 = 2 * (2 ^ i * 100000000000) := by rw [Nat.pow_succ]; omega
      have htotN : tot gs ≤ 2 ^ (i + 1) * 100000000000 := by rw [hps]; exact Nat.le_trans htot (Nat.le_mul_of_pos_left _ (by decide))
      have hs1 := set_flat (g := meas g g.m) (off := 2) (vs := [.bool true]) hg rfl
      have hs2 := set_flat (g := meas g Mass.zero) (off := 3) (vs := [.int .i64 0, .int .i64 0, .int .i64 0, .int .i64 0]) (set_at (g := meas g g.m) hg) rfl
      rw [List.set_set] at hs2
      have hs3 := fun mx : Mass => set_flat (g := meas g mx) (off := 3) (vs := [.int .i64 mx.a, .int .i64 mx.b, .int .i64 mx.c, .int .i64 mx.d]) (set_at (g := meas g Mass.zero) hg) rfl
      have hsE : ∀ mx : Mass, ∀ x ∈ gs.set i (meas g mx), (-1 ≤ x.fr ∧ x.fr < n) ∧ (-1 ≤ x.to ∧ x.to < n) := fun mx x hx => by
        rcases set_mem hg x hx with rfl | h
        · exact ⟨hV1, hV2⟩
        · exact hgends x h
      have hT1 : tot (gs.set i (meas g Mass.zero)) ≤ tot gs := by
        have := tot_set gs i g Mass.zero
        simp [amt, Mass.zero] at this; exact this
      have hT2 : ∀ mx : Mass, amt mx ≤ tot gs → tot (gs.set i (meas g mx)) ≤ 2 ^ (i + 1) * 100000000000 := fun mx h => by
        have := tot_set gs i g mx
        omega
      simp only [List.set_set] at hs3
      have hD1 := tot_drop (gs.set i (meas g Mass.zero)) i
      have hDE : ∀ x ∈ dropF (gs.set i (meas g Mass.zero)) i, (-1 ≤ x.fr ∧ x.fr < n) ∧ (-1 ≤ x.to ∧ x.to < n) := fun x hx => by
        unfold dropF at hx
        rcases List.mem_append.1 hx with h | h
        · exact hsE _ x (List.mem_of_mem_take h)
        · exact hsE _ x (List.mem_of_mem_drop h)
      have hDl : (dropF (gs.set i (meas g Mass.zero)) i).length ≤ 1000 := by unfold dropF; simp; omega
      have hsl : (gs.set i (meas g Mass.zero)).length = fs.length := by rw [List.length_set, hgl]
      have hgx : ∀ X : List Int, amt (excM X (dropF (gs.set i (meas g Mass.zero)) i)) ≤ tot gs := fun X => by have := amt_excM X (dropF (gs.set i (meas g Mass.zero)) i); omega
      obtain ⟨g0, g1, gm, mm⟩ := g
      rw [FlowD.cs] at hget
      simp only [] at hV1 hV2
      apply zz
      refine Cd.ra (h := ?_)
      apply Run.by_eq
      · intro self
        conv => lhs; simp -implicitDefEqProofs (maxSteps := 300000) (disch := omega) [-getElem?_pos, -getElem?_neg, h11, h10, hπ]
      try (with_reducible refine Run.ret ?_)
      apply zz
      apply Cd.ite rfl
      · conv => lhs; simp -implicitDefEqProofs (maxSteps := 300000) (disch := omega) [-getElem?_pos, -getElem?_neg]
      all_goals intro c3
      all_goals try (cases c3; done)
      all_goals try simp only [Bool.not_eq_true', Bool.not_eq_false', decide_eq_true_eq, decide_eq_false_iff_not] at c3
      all_goals apply zz
      · apply zz
        refine Cd.ra (h := ?_)
        apply Run.by_eq
        · intro self
          conv => lhs; simp -implicitDefEqProofs (maxSteps := 300000) (disch := omega) [-getElem?_pos, -getElem?_neg, h11, h10, hπ, hβ, hget, hil]
        try (with_reducible refine Run.ret ?_)
        apply zz
        refine Cd.ra (h := ?_)
        apply Run.by_eq
        · intro self
          conv => lhs; simp -implicitDefEqProofs (maxSteps := 300000) (disch := omega) [-getElem?_pos, -getElem?_neg]
        try (with_reducible refine Run.ret ?_)
        apply zz
        cases gm with
        | true =>
          apply zz
          apply Cd.ite rfl
          · conv => lhs; simp -implicitDefEqProofs (maxSteps := 300000) (disch := omega) [-getElem?_pos, -getElem?_neg]
          all_goals intro c4
          all_goals try (cases c4; done)
          all_goals try simp only [Bool.not_eq_true', Bool.not_eq_false', decide_eq_true_eq, decide_eq_false_iff_not] at c4
          all_goals apply zz
          apply zz
          refine Cd.ra (h := ?_)
          apply Run.by_eq
          · intro self
            conv => lhs; simp -implicitDefEqProofs (maxSteps := 300000) (disch := omega) [-getElem?_pos, -getElem?_neg, h11]
          try (with_reducible refine Run.ret ?_)
          apply zz
          refine LoopK.nm (fs.length - (i + 1)) (by omega) ⟨i + 1, gs, by omega, rfl, by simp [hm], by simp, by simp [h10], ⟨by (try simp only [pushed_next', upded_next']); omega, fun i hi => by simp -implicitDefEqProofs (disch := omega) [hkpb]⟩, by (try simp only [pushed_next', upded_next']); omega, ?_, ?_, hgl, htotN, hgends⟩
          · simp -implicitDefEqProofs (disch := omega) [hπ]
          · simp -implicitDefEqProofs (disch := omega) [hβ]
        | false =>
          apply zz
          apply Cd.ite rfl
          · conv => lhs; simp -implicitDefEqProofs (maxSteps := 300000) (disch := omega) [-getElem?_pos, -getElem?_neg]
          all_goals intro c4
          all_goals try (cases c4; done)
          all_goals try simp only [Bool.not_eq_true', Bool.not_eq_false', decide_eq_true_eq, decide_eq_false_iff_not] at c4
          all_goals apply zz
          apply zz
          refine Cd.ra (h := ?_)
          apply Run.by_eq
          · intro self
            conv => lhs; simp -implicitDefEqProofs (maxSteps := 300000) (disch := omega) [-getElem?_pos, -getElem?_neg, h11, h10, hπ]
          try (with_reducible refine Run.ret ?_)
          apply zz
          refine Run.call ((refJoinedB_ev n i _ gs _ (by omega) (fl_of_flat (o := some 7) (b := wy.next + 1 + 1) (c := fs.length) (by (try simp only [pushed_next', upded_next']); omega) hgl (by simp -implicitDefEqProofs (disch := omega) [hβ])) (by omega) hgends).mono fun hs w4 hv => ?_)
          obtain ⟨k4, b4, rfl, hb4a, hb4b, ho4⟩ := hv
          have k4a := k4.1
          have k4b := k4.2
          try simp only [pushed_next', upded_next'] at k4a k4b hb4a
          have ht0 := cellsF_get (m := n + 1) (i := (g0 + 1).toNat) (labF i gs 0 fun x => (x : Int)) (by omega)
          have ht1 := cellsF_get (m := n + 1) (i := (g1 + 1).toNat) (labF i gs 0 fun x => (x : Int)) (by omega)
          have n0 := natOf_pos .i64 (show 0 ≤ g0 + 1 by omega)
          have n1 := natOf_pos .i64 (show 0 ≤ g1 + 1 by omega)
          have hl0 : (g0 + 1).toNat < n + 1 := by omega
          have hl1 : (g1 + 1).toNat < n + 1 := by omega
          have ve4 : veq 5 (Value.slice (some ⟨b4, 0, none⟩) (n + 1) (n + 1)) (Value.slice (some ⟨b4, 0, none⟩) (n + 1) (n + 1)) = true := veq_slice _ _ _ _ _
          have veβ : veq 5 (Value.slice (some ⟨wy.next + 1 + 1, 0, none⟩) fs.length fs.length) (Value.slice (some ⟨wy.next + 1 + 1, 0, none⟩) fs.length fs.length) = true := veq_slice _ _ _ _ _
          have veβ4 : veq 4 (Value.slice (some ⟨wy.next + 1 + 1, 0, none⟩) fs.length fs.length) (Value.slice (some ⟨wy.next + 1 + 1, 0, none⟩) fs.length fs.length) = true := veq_slice _ _ _ _ _
          have hπ4 : w4.heap.get (wy.next + 1) = some (.cells [.int .i64 n, .slice (some ⟨wy.next + 1 + 1, 0, none⟩) fs.length fs.length] none) := by rw [k4b _ (by omega)]; simp -implicitDefEqProofs (disch := omega) [hπ]
          have hβ4 : w4.heap.get (wy.next + 1 + 1) = some (.cells (flatF gs) (some 7)) := by rw [k4b _ (by omega)]; simp -implicitDefEqProofs (disch := omega) [hβ]
          have hold4 : ∀ j, j < s.next → w4.heap.get j = s.heap.get j := fun j hj => by rw [k4b j (by omega)]; simp -implicitDefEqProofs (disch := omega) [hkpb]
          generalize labF i gs 0 (fun x => (x : Int)) = L at ho4 ht0 ht1
          obtain ⟨hA, hAe⟩ : ∃ hA, hA = L (g0 + 1).toNat := ⟨_, rfl⟩
          obtain ⟨hB, hBe⟩ : ∃ hB, hB = L (g1 + 1).toNat := ⟨_, rfl⟩
          rw [← hAe] at ht0
          rw [← hBe] at ht1
          apply Run.by_eq
          · intro self
            conv => lhs; simp -implicitDefEqProofs (maxSteps := 300000) (disch := omega) [-getElem?_pos, -getElem?_neg]
          try (with_reducible refine Run.ret ?_)
          apply zz
          refine Cd.drawnH (pl := [(0, 0, false, false), (1, 0, false, false), (2, 2, false, false), (3, 6, false, false), (4, 15, false, false), (5, 31, false, false), (6, 0, false, false), (7, 0, false, false), (8, 128, false, false), (9, 384, false, false), (10, 960, false, false), (11, 1984, false, false), (12, 63, false, false), (13, 8191, false, false)]) [false, false, false, false, false, false, false, false, false, false, false, false, false, false] (by kernel_rfl) (by decide) (by decide) (by conv => lhs; simp only [List.map_cons, List.map_nil]) (by conv => lhs; simp [strip, orderedG, flagH]) ?_
          apply Run.by_eq
          · intro self
            conv => lhs; simp -implicitDefEqProofs (maxSteps := 300000) (disch := omega) [-getElem?_pos, -getElem?_neg, k4b, ho4, ht0, ht1, n0, n1, hl0, hl1, ve4]
          try (with_reducible refine Run.ret ?_)
          apply zz
          refine Cd.drawn (pl := [(0, 0, false, false), (1, 1, false, false), (2, 0, false, false), (3, 0, false, false), (4, 8, false, false), (5, 0, false, false), (6, 0, false, false), (7, 7, false, false), (8, 135, false, false), (9, 391, true, false), (10, 1023, false, false), (11, 2047, false, false), (12, 4095, true, false)]) (by kernel_rfl) (by conv => lhs; simp only [List.map_cons, List.map_nil]) (by conv => lhs; simp [strip, ordered]) ?_
          apply Run.by_eq
          · intro self
            conv => lhs; simp -implicitDefEqProofs (maxSteps := 300000) (disch := omega) [filter_bt, Nat.testBit_eq_decide_div_mod_eq, -getElem?_pos, -getElem?_neg, hπ4, hβ4, hs1, hs2, hil, h10, h11, veβ, veβ4]
          try (with_reducible refine Run.ret ?_)
          apply zz
          have hl4 : i < fs.length := hil
          have ve44 : veq 4 (Value.slice (some ⟨b4, 0, none⟩) (n + 1) (n + 1)) (Value.slice (some ⟨b4, 0, none⟩) (n + 1) (n + 1)) = true := veq_slice _ _ _ _ _
          by_cases hAB : hA = hB
          · apply zz
            refine Cd.ra (h := ?_)
            apply Run.by_eq
            · intro self
              conv => lhs; simp -implicitDefEqProofs (maxSteps := 300000) (disch := omega) [-getElem?_pos, -getElem?_neg, hAB]
            try (with_reducible refine Run.ret ?_)
            apply zz
            apply Cd.ite rfl
            · conv => lhs; simp -implicitDefEqProofs (maxSteps := 300000) (disch := omega) [-getElem?_pos, -getElem?_neg]
            all_goals intro c5
            all_goals try (cases c5; done)
            all_goals try simp only [Bool.not_eq_true', Bool.not_eq_false', decide_eq_true_eq, decide_eq_false_iff_not] at c5
            all_goals apply zz
            apply zz
            refine Cd.ra (h := ?_)
            apply Run.by_eq
            · intro self
              conv => lhs; simp -implicitDefEqProofs (maxSteps := 300000) (disch := omega) [-getElem?_pos, -getElem?_neg, hAB]
            try (with_reducible refine Run.ret ?_)
            apply zz
            apply Cd.ite rfl
            · conv => lhs; simp -implicitDefEqProofs (maxSteps := 300000) (disch := omega) [-getElem?_pos, -getElem?_neg]
            all_goals intro c6
            all_goals try (cases c6; done)
            all_goals try simp only [Bool.not_eq_true', Bool.not_eq_false', decide_eq_true_eq, decide_eq_false_iff_not] at c6
            all_goals apply zz
            apply zz
            refine Cd.ra (h := ?_)
            apply Run.by_eq
            · intro self
              conv => lhs; simp -implicitDefEqProofs (maxSteps := 300000) (disch := omega) [-getElem?_pos, -getElem?_neg, h11]
            try (with_reducible refine Run.ret ?_)
            apply zz
            refine LoopK.nm (fs.length - (i + 1)) (by omega) ⟨i + 1, gs.set i (meas ⟨g0, g1, false, mm⟩ Mass.zero), by omega, rfl, by simp [hm], by simp, by simp [h10], ⟨by (try simp only [pushed_next', upded_next']); omega, fun i hi => by simp -implicitDefEqProofs (disch := omega) [hold4]⟩, by (try simp only [pushed_next', upded_next']); omega, ?_, ?_, by rw [List.length_set, hgl], Nat.le_trans hT1 htotN, hsE _⟩
            · simp -implicitDefEqProofs (disch := omega) [hπ4]
            · simp -implicitDefEqProofs (disch := omega) [hβ4]
          by_cases hA0 : hA = 0
          · have hAB' : ¬ (0 = hB) := fun e => hAB (hA0.trans e)
            apply zz
            refine Cd.ra (h := ?_)
            apply Run.by_eq
            · intro self
              conv => lhs; simp -implicitDefEqProofs (maxSteps := 300000) (disch := omega) [-getElem?_pos, -getElem?_neg, hAB', hA0]
            try (with_reducible refine Run.ret ?_)
            apply zz
            apply Cd.ite rfl
            · conv => lhs; simp -implicitDefEqProofs (maxSteps := 300000) (disch := omega) [-getElem?_pos, -getElem?_neg]
            all_goals intro c5
            all_goals try (cases c5; done)
            all_goals try simp only [Bool.not_eq_true', Bool.not_eq_false', decide_eq_true_eq, decide_eq_false_iff_not] at c5
            all_goals apply zz
            apply zz
            refine Cd.ra (h := ?_)
            apply Run.by_eq
            · intro self
              conv => lhs; simp -implicitDefEqProofs (maxSteps := 300000) (disch := omega) [-getElem?_pos, -getElem?_neg, hAB', hA0]
            try (with_reducible refine Run.ret ?_)
            apply zz
            apply Cd.ite rfl
            · conv => lhs; simp -implicitDefEqProofs (maxSteps := 300000) (disch := omega) [-getElem?_pos, -getElem?_neg]
            all_goals intro c6
            all_goals try (cases c6; done)
            all_goals try simp only [Bool.not_eq_true', Bool.not_eq_false', decide_eq_true_eq, decide_eq_false_iff_not] at c6
            all_goals apply zz
            apply zz
            refine Cd.drawn (pl := [(0, 0, false, false), (1, 1, false, false), (2, 0, false, false), (3, 0, false, false), (4, 0, false, false), (5, 0, false, false), (7, 0, false, false), (8, 0, false, false), (6, 48, true, false), (9, 496, true, false), (10, 1008, true, false), (11, 2040, true, false), (12, 4095, false, false), (13, 8191, false, false), (14, 16383, true, false)]) (by kernel_rfl) (by conv => lhs; simp only [List.map_cons, List.map_nil]) (by conv => lhs; simp [strip, ordered]) ?_
            apply Run.by_eq
            · intro self
              conv => lhs; simp -implicitDefEqProofs (maxSteps := 300000) (disch := omega) [filter_bt, Nat.testBit_eq_decide_div_mod_eq, -getElem?_pos, -getElem?_neg, h10, h11, hπ4, hl4, ve4, ve44, veβ, veβ4]
            try (with_reducible refine Run.ret ?_)
            apply zz
            refine Run.call ((without_ev' n (wy.next + 1 + 1) i fs.length fs.length (gs.set i (meas ⟨g0, g1, false, mm⟩ Mass.zero)) (some 7) _ (by (try simp only [pushed_next', upded_next']); omega) (by simp -implicitDefEqProofs (disch := omega)) rfl hil (Nat.le_refl _) (by omega) hsl).mono fun r5 w5 hv => ?_)
            obtain ⟨k5, wd, rfl, hFd⟩ := hv
            have k5a := k5.1
            have k5b := k5.2
            try simp only [pushed_next', upded_next'] at k5a k5b
            unfold plantV
            apply Run.by_eq
            · intro self
              conv => lhs; simp -implicitDefEqProofs (maxSteps := 300000) (disch := omega) [-getElem?_pos, -getElem?_neg, k5b, hπ4, hl4, ve4, ve44, veβ, veβ4]
            try (with_reducible refine Run.ret ?_)
            apply zz
            have hI5 : IntsAt w5 (.slice (some ⟨b4, 0, none⟩) (n + 1) (n + 1)) ((List.range (n + 1)).map L) := ints_of_cellsF (g := some 1) (by omega) (by rw [k5b _ (by omega)]; simp -implicitDefEqProofs (disch := omega) [ho4])
            refine Run.call ((side_ev _ _ hB _ hI5 (by simp; omega)).mono fun sv w6 hv => ?_)
            obtain ⟨k6, hB6⟩ := hv
            have k6a := k6.1
            have k6b := k6.2
            apply Run.by_eq
            · intro self
              conv => lhs; simp -implicitDefEqProofs (maxSteps := 300000) (disch := omega) [-getElem?_pos, -getElem?_neg, k6b, k5b, hπ4, hl4, ve4, ve44, veβ, veβ4]
            try (with_reducible refine Run.ret ?_)
            apply zz
            have hxx := hgx (sideL L n hB)
            refine Run.call ((refExcessT_ev n wd sv (dropF (gs.set i (meas ⟨g0, g1, false, mm⟩ Mass.zero)) i) (sideL L n hB) _ _ (hFd.keep k6) hB6 hDl (by omega) (fun x hx => by have := hDE x hx; simp; omega) (fun x h1 h2 => side_get h1 (by simp at h2; omega)) (by simp; omega)).mono fun r7 w7 hv => ?_)
            obtain ⟨rfl, k7⟩ := hv
            have k7a := k7.1
            have k7b := k7.2
            generalize excM (sideL L n hB) (dropF (gs.set i (meas ⟨g0, g1, false, mm⟩ Mass.zero)) i) = mx at hxx ⊢
            apply Run.by_eq
            · intro self
              conv => lhs; simp -implicitDefEqProofs (maxSteps := 300000) (disch := omega) [-getElem?_pos, -getElem?_neg, Mass.v, k7b, k6b, k5b, hπ4, hl4, ve4, ve44, veβ, veβ4]
            try (with_reducible refine Run.ret ?_)
            apply zz
            have hmxl : mx.le 1000000000000000000 := (le_amt mx).mono (by omega)
            refine Run.call ((addT_ev Mass.zero mx (-1) _ ((Mass.tim_le hmxl).mono (by omega)) (by rw [Mass.add_tim]; exact (Mass.le_neg hmxl).mono (by omega))).mono fun r8 w8 hv => ?_)
            obtain ⟨rfl, k8⟩ := hv
            have k8a := k8.1
            have k8b := k8.2
            rw [Mass.add_tim]
            have hs3' := hs3 (Mass.zero.sub mx)
            have hamt : amt (Mass.zero.sub mx) ≤ tot gs := by have := amt_sub Mass.zero mx; simp [amt, Mass.zero] at this; simp [amt, Mass.zero] at hxx ⊢; omega
            generalize Mass.zero.sub mx = mz at hs3' hamt ⊢
            apply Run.by_eq
            · intro self
              conv => lhs; simp -implicitDefEqProofs (maxSteps := 300000) (disch := omega) [-getElem?_pos, -getElem?_neg, Mass.v, k8b, k7b, k6b, k5b, hπ4, hl4, ve4, ve44, veβ, veβ4, hs3']
            try (with_reducible refine Run.ret ?_)
            apply zz
            refine Cd.ra (h := ?_)
            apply Run.by_eq
            · intro self
              conv => lhs; simp -implicitDefEqProofs (maxSteps := 300000) (disch := omega) [-getElem?_pos, -getElem?_neg, h11]
            try (with_reducible refine Run.ret ?_)
            apply zz
            refine LoopK.nm (fs.length - (i + 1)) (by omega) ⟨i + 1, gs.set i (meas ⟨g0, g1, false, mm⟩ mz), by omega, rfl, by simp [hm], by simp, by simp [h10], ⟨by (try simp only [pushed_next', upded_next']); omega, fun i hi => by simp -implicitDefEqProofs (disch := omega) [k8b, k7b, k6b, k5b, hold4]⟩, by (try simp only [pushed_next', upded_next']); omega, ?_, ?_, by rw [List.length_set, hgl], hT2 _ hamt, hsE _⟩
            · simp -implicitDefEqProofs (disch := omega) [k8b, k7b, k6b, k5b, hπ4]
            · simp -implicitDefEqProofs (disch := omega) [k8b, k7b, k6b, k5b, hβ4]
          · apply zz
            refine Cd.ra (h := ?_)
            apply Run.by_eq
            · intro self
              conv => lhs; simp -implicitDefEqProofs (maxSteps := 300000) (disch := omega) [-getElem?_pos, -getElem?_neg, hAB, hA0]
            try (with_reducible refine Run.ret ?_)
            apply zz
            apply Cd.ite rfl
            · conv => lhs; simp -implicitDefEqProofs (maxSteps := 300000) (disch := omega) [-getElem?_pos, -getElem?_neg]
            all_goals intro c5
            all_goals try (cases c5; done)
            all_goals try simp only [Bool.not_eq_true', Bool.not_eq_false', decide_eq_true_eq, decide_eq_false_iff_not] at c5
            all_goals apply zz
            apply zz
            refine Cd.drawn (pl := [(0, 0, false, false), (1, 1, false, false), (2, 0, false, false), (3, 0, false, false), (4, 0, false, false), (6, 0, false, false), (7, 0, false, false), (5, 24, true, false), (8, 248, true, false), (9, 504, true, false), (10, 1023, false, false), (11, 2047, false, false), (12, 4095, true, false)]) (by kernel_rfl) (by conv => lhs; simp only [List.map_cons, List.map_nil]) (by conv => lhs; simp [strip, ordered]) ?_
            apply Run.by_eq
            · intro self
              conv => lhs; simp -implicitDefEqProofs (maxSteps := 300000) (disch := omega) [filter_bt, Nat.testBit_eq_decide_div_mod_eq, -getElem?_pos, -getElem?_neg, h10, h11, hπ4, hl4, ve4, ve44, veβ, veβ4]
            try (with_reducible refine Run.ret ?_)
            apply zz
            refine Run.call ((without_ev' n (wy.next + 1 + 1) i fs.length fs.length (gs.set i (meas ⟨g0, g1, false, mm⟩ Mass.zero)) (some 7) _ (by (try simp only [pushed_next', upded_next']); omega) (by simp -implicitDefEqProofs (disch := omega)) rfl hil (Nat.le_refl _) (by omega) hsl).mono fun r5 w5 hv => ?_)
            obtain ⟨k5, wd, rfl, hFd⟩ := hv
            have k5a := k5.1
            have k5b := k5.2
            try simp only [pushed_next', upded_next'] at k5a k5b
            unfold plantV
            apply Run.by_eq
            · intro self
              conv => lhs; simp -implicitDefEqProofs (maxSteps := 300000) (disch := omega) [-getElem?_pos, -getElem?_neg, k5b, hπ4, hl4, ve4, ve44, veβ, veβ4]
            try (with_reducible refine Run.ret ?_)
            apply zz
            have hI5 : IntsAt w5 (.slice (some ⟨b4, 0, none⟩) (n + 1) (n + 1)) ((List.range (n + 1)).map L) := ints_of_cellsF (g := some 1) (by omega) (by rw [k5b _ (by omega)]; simp -implicitDefEqProofs (disch := omega) [ho4])
            refine Run.call ((side_ev _ _ hA _ hI5 (by simp; omega)).mono fun sv w6 hv => ?_)
            obtain ⟨k6, hB6⟩ := hv
            have k6a := k6.1
            have k6b := k6.2
            apply Run.by_eq
            · intro self
              conv => lhs; simp -implicitDefEqProofs (maxSteps := 300000) (disch := omega) [-getElem?_pos, -getElem?_neg, k6b, k5b, hπ4, hl4, ve4, ve44, veβ, veβ4]
            try (with_reducible refine Run.ret ?_)
            apply zz
            have hxx := hgx (sideL L n hA)
            refine Run.call ((refExcessT_ev n wd sv (dropF (gs.set i (meas ⟨g0, g1, false, mm⟩ Mass.zero)) i) (sideL L n hA) _ _ (hFd.keep k6) hB6 hDl (by omega) (fun x hx => by have := hDE x hx; simp; omega) (fun x h1 h2 => side_get h1 (by simp at h2; omega)) (by simp; omega)).mono fun r7 w7 hv => ?_)
            obtain ⟨rfl, k7⟩ := hv
            have k7a := k7.1
            have k7b := k7.2
            generalize excM (sideL L n hA) (dropF (gs.set i (meas ⟨g0, g1, false, mm⟩ Mass.zero)) i) = mx at hxx ⊢
            have hs3' := hs3 mx
            apply Run.by_eq
            · intro self
              conv => lhs; simp -implicitDefEqProofs (maxSteps := 300000) (disch := omega) [-getElem?_pos, -getElem?_neg, Mass.v, k7b, k6b, k5b, hπ4, hl4, ve4, ve44, veβ, veβ4, hs3']
            try (with_reducible refine Run.ret ?_)
            apply zz
            refine Cd.ra (h := ?_)
            apply Run.by_eq
            · intro self
              conv => lhs; simp -implicitDefEqProofs (maxSteps := 300000) (disch := omega) [-getElem?_pos, -getElem?_neg, hAB, hA0]
            try (with_reducible refine Run.ret ?_)
            apply zz
            apply Cd.ite rfl
            · conv => lhs; simp -implicitDefEqProofs (maxSteps := 300000) (disch := omega) [-getElem?_pos, -getElem?_neg]
            all_goals intro c6
            all_goals try (cases c6; done)
            all_goals try simp only [Bool.not_eq_true', Bool.not_eq_false', decide_eq_true_eq, decide_eq_false_iff_not] at c6
            all_goals apply zz
            apply zz
            refine Cd.ra (h := ?_)
            apply Run.by_eq
            · intro self
              conv => lhs; simp -implicitDefEqProofs (maxSteps := 300000) (disch := omega) [-getElem?_pos, -getElem?_neg, h11]
            try (with_reducible refine Run.ret ?_)
            apply zz
            refine LoopK.nm (fs.length - (i + 1)) (by omega) ⟨i + 1, gs.set i (meas ⟨g0, g1, false, mm⟩ mx), by omega, rfl, by simp [hm], by simp, by simp [h10], ⟨by (try simp only [pushed_next', upded_next']); omega, fun i hi => by simp -implicitDefEqProofs (disch := omega) [k7b, k6b, k5b, hold4]⟩, by (try simp only [pushed_next', upded_next']); omega, ?_, ?_, by rw [List.length_set, hgl], hT2 _ hxx, hsE _⟩
            · simp -implicitDefEqProofs (disch := omega) [k7b, k6b, k5b, hπ4]
            · simp -implicitDefEqProofs (disch := omega) [k7b, k6b, k5b, hβ4]
      · simp at c3; omega
    obtain rfl : i = fs.length := by omega
    apply zz
    refine Cd.ra (h := ?_)
    apply Run.by_eq
    · intro self
      conv => lhs; simp -implicitDefEqProofs (maxSteps := 300000) (disch := omega) [-getElem?_pos, -getElem?_neg, h11, h10, hπ]
    try (with_reducible refine Run.ret ?_)
    apply zz
    apply Cd.ite rfl
    · conv => lhs; simp -implicitDefEqProofs (maxSteps := 300000) (disch := omega) [-getElem?_pos, -getElem?_neg]
    all_goals intro c3
    all_goals try (cases c3; done)
    all_goals try simp only [Bool.not_eq_true', Bool.not_eq_false', decide_eq_true_eq, decide_eq_false_iff_not] at c3
    all_goals apply zz
    apply zz
    refine Cd.ra (h := ?_)
    apply Run.by_eq
    · intro self
      conv => lhs; simp -implicitDefEqProofs (maxSteps := 300000) (disch := omega) [-getElem?_pos, -getElem?_neg]
    try (with_reducible refine Run.ret ?_)
    apply zz
    refine Cd.ra (h := ?_)
    apply Run.by_eq
    · intro self
      conv => lhs; simp -implicitDefEqProofs (maxSteps := 300000) (disch := omega) [-getElem?_pos, -getElem?_neg]
    try (with_reducible refine Run.ret ?_)
    apply zz
    refine Cd.inv (fun z f s5 => ∃ (i : Nat) (l : List (List Value)), i ≤ fs.length ∧ z = fs.length - i ∧ f.marks = [] ∧ f.get 17 = .int .i64 i ∧ f.get 10 = .pointer (some ⟨wy.next + 1, 0, none⟩) ∧ Keep s' s5 ∧ l.length = i ∧ l.flatten.length = i * 4 ∧ OwnG 4 s'.next s5 (f.get 16) l) fs.length ?_ ?_
    · exact ⟨0, [], by omega, rfl, by simp [hm], by simp, by simp [h10], Keep.refl _, rfl, rfl, .inl ⟨rfl, by simp⟩⟩
    clear hm h11 h10
    rintro z f3 s5 ⟨i, l, hi, rfl, hm, h17, h10, hkp5, hll, hfl, hU⟩
    have hkp5a := hkp5.1
    have hkp5b := hkp5.2
    have hπ5 := (hkp5b (wy.next + 1) (by omega)).trans hπ
    have hβ5 := (hkp5b (wy.next + 1 + 1) (by omega)).trans hβ
    by_cases hil : i < fs.length
    · obtain ⟨g, hg⟩ : ∃ g, gs[i]? = some g := ⟨gs[i], by simp [show i < gs.length by omega]⟩
      obtain ⟨_, _, _, p3⟩ := flow_parts (flow_get hg)
      apply zz
      refine Cd.ra (h := ?_)
      apply Run.by_eq
      · intro self
        conv => lhs; simp -implicitDefEqProofs (maxSteps := 300000) (disch := omega) [-getElem?_pos, -getElem?_neg, h17, h10, hπ5]
      try (with_reducible refine Run.ret ?_)
      apply zz
      apply Cd.ite rfl
      · conv => lhs; simp -implicitDefEqProofs (maxSteps := 300000) (disch := omega) [-getElem?_pos, -getElem?_neg]
      all_goals intro c4
      all_goals try (cases c4; done)
      all_goals try simp only [Bool.not_eq_true', Bool.not_eq_false', decide_eq_true_eq, decide_eq_false_iff_not] at c4
      all_goals apply zz
      · rcases hU with ⟨hl0, hw0⟩ | ⟨bu, hw0, hne0, hb1, hb2, hb3⟩
        · have hi0 : i = 0 := by rw [← hll, hl0]; rfl
          subst hi0
          apply zz
          refine Cd.ra (h := ?_)
          apply Run.by_eq
          · intro self
            conv => lhs; simp -implicitDefEqProofs (maxSteps := 300000) (disch := omega) [-getElem?_pos, -getElem?_neg, h17, h10, hπ5, hβ5, p3, hil, hw0]
          try (with_reducible refine Run.ret ?_)
          apply zz
          refine Cd.ra (h := ?_)
          apply Run.by_eq
          · intro self
            conv => lhs; simp -implicitDefEqProofs (maxSteps := 300000) (disch := omega) [-getElem?_pos, -getElem?_neg, h17]
          try (with_reducible refine Run.ret ?_)
          apply zz
          refine LoopK.nm (fs.length - (0 + 1)) (by omega) ⟨0 + 1, [g.m.cs], by omega, rfl, by simp [hm], by simp, by simp [h10], ⟨by (try simp only [pushed_next', upded_next']); omega, fun i hi => by simp -implicitDefEqProofs (disch := omega) [hkp5b]⟩, rfl, rfl, .inr ⟨s5.next + 1, by simp, by simp, by omega, by simp, ?_⟩⟩
          simp -implicitDefEqProofs (disch := omega) [Mass.cs]
        · rw [hll] at hw0
          apply zz
          refine Cd.ra (h := ?_)
          apply Run.by_eq
          · intro self
            conv => lhs; simp -implicitDefEqProofs (maxSteps := 300000) (disch := omega) [-getElem?_pos, -getElem?_neg, h17, h10, hπ5, hβ5, p3, hil, hw0]
          try (with_reducible refine Run.ret ?_)
          apply zz
          apply Run.by_eq
          · intro self
            rw [appV_moreE (size := 4) (n := i) (old := l.flatten) ?happ1 hfl (by omega)]
            simp -implicitDefEqProofs (disch := omega) [hb3]
          apply Run.by_eq
          · intro self
            conv => lhs; simp -implicitDefEqProofs (maxSteps := 300000) (disch := omega) [-getElem?_pos, -getElem?_neg, hb3]
          try (with_reducible refine Run.ret ?_)
          apply zz
          refine Cd.ra (h := ?_)
          apply Run.by_eq
          · intro self
            conv => lhs; simp -implicitDefEqProofs (maxSteps := 300000) (disch := omega) [-getElem?_pos, -getElem?_neg, h17]
          try (with_reducible refine Run.ret ?_)
          apply zz
          refine LoopK.nm (fs.length - (i + 1)) (by omega) ⟨i + 1, l ++ [g.m.cs], by omega, rfl, by simp [hm], by simp, by simp [h10], ⟨by (try simp only [pushed_next', upded_next']); omega, fun i hi => by simp -implicitDefEqProofs (disch := omega) [hkp5b]⟩, by simp [hll], by rw [List.flatten_append, List.length_append, hfl]; simp [Mass.cs]; omega, .inr ⟨s5.next + 1, by simp [hll], by simp, by omega, by simp, ?_⟩⟩
          simp -implicitDefEqProofs (disch := omega) [Mass.cs]
      · simp at c4; omega
    obtain rfl : i = fs.length := by omega
    apply zz
    refine Cd.ra (h := ?_)
    apply Run.by_eq
    · intro self
      conv => lhs; simp -implicitDefEqProofs (maxSteps := 300000) (disch := omega) [-getElem?_pos, -getElem?_neg, h17, h10, hπ5]
    try (with_reducible refine Run.ret ?_)
    apply zz
    apply Cd.ite rfl
    · conv => lhs; simp -implicitDefEqProofs (maxSteps := 300000) (disch := omega) [-getElem?_pos, -getElem?_neg]
    all_goals intro c4
    all_goals try (cases c4; done)
    all_goals try simp only [Bool.not_eq_true', Bool.not_eq_false', decide_eq_true_eq, decide_eq_false_iff_not] at c4
    all_goals apply zz
    apply zz
    refine Cd.ra (h := ?_)
    apply Run.by_eq
    · intro self
      conv => lhs; simp -implicitDefEqProofs (maxSteps := 300000) (disch := omega) [-getElem?_pos, -getElem?_neg]
    try (with_reducible refine Run.ret ?_)
    apply zz
    apply Leave.mk (by first | exact .inl rfl | exact .inr rfl) (by simp only [Fr.marks_put, fr0_marks, hm])
    · conv => lhs; simp -implicitDefEqProofs (disch := omega) [Try.results27, hm]
    exact ⟨⟨by (try simp only [pushed_next', upded_next']); omega, fun i hi => by simp -implicitDefEqProofs (disch := omega) [hkp5b, hkpb]⟩, _, rfl⟩
  · rw [decide_eq_true (hd2.resolve_left h3)] at hEq
    apply Run.by_eq
    · intro self
      conv => lhs; simp -implicitDefEqProofs (maxSteps := 300000) (disch := omega) [-getElem?_pos, -getElem?_neg, hE, hlt, hoky, hck', q0, q1, h3, vek, hEq, hmy]
    try (with_reducible refine Run.ret ?_)
    apply zz
    apply Cd.ite rfl
    · conv => lhs; simp -implicitDefEqProofs (maxSteps := 300000) (disch := omega) [-getElem?_pos, -getElem?_neg]
    all_goals intro c2
    all_goals try (cases c2; done)
    all_goals try simp only [Bool.not_eq_true', Bool.not_eq_false', decide_eq_true_eq, decide_eq_false_iff_not] at c2
    all_goals apply zz
    apply zz
    refine Cd.drawn (pl := [(0, 0, false, false), (1, 1, false, false), (2, 0, false, true), (3, 0, false, false), (4, 8, false, false), (7, 0, false, true), (5, 28, true, false), (6, 63, false, false), (8, 255, true, false)]) (by kernel_rfl) (by conv => lhs; simp only [List.map_cons, List.map_nil]) (by conv => lhs; simp [strip, ordered]) ?_
    apply Run.by_eq
    · intro self
      conv => lhs; simp -implicitDefEqProofs (maxSteps := 300000) (disch := omega) [filter_bt, Nat.testBit_eq_decide_div_mod_eq, -getElem?_pos, -getElem?_neg, hpy, happ, vea]
    try (with_reducible refine Run.ret ?_)
    apply zz
    refine Cd.drawn (pl := [(0, 0, false, false), (1, 1, false, false), (2, 0, false, false), (3, 0, false, false), (4, 8, false, false), (5, 0, false, false), (6, 0, false, false), (7, 7, false, false), (8, 135, false, false), (9, 391, true, false), (10, 1023, false, false), (11, 2047, false, false), (12, 4095, true, false)]) (by kernel_rfl) (by conv => lhs; simp only [List.map_cons, List.map_nil]) (by conv => lhs; simp [strip, ordered]) ?_
    apply Run.by_eq
    · intro self
      conv => lhs; simp -implicitDefEqProofs (maxSteps := 300000) (disch := omega) [filter_bt, Nat.testBit_eq_decide_div_mod_eq, -getElem?_pos, -getElem?_neg, hmy, hput1, hput2, hlt]
    try (with_reducible refine Run.ret ?_)
    apply zz
    refine Cd.ra (h := ?_)
    apply Run.by_eq
    · intro self
      conv => lhs; simp -implicitDefEqProofs (maxSteps := 300000) (disch := omega) [-getElem?_pos, -getElem?_neg]
    try (with_reducible refine Run.ret ?_)
    apply zz
    refine Cd.inv (fun z f s' => ∃ (i : Nat) (gs : List FlowD), i ≤ fs.length ∧ z = fs.length - i ∧ f.marks = [] ∧ f.get 11 = .int .i64 i ∧ f.get 10 = .pointer (some ⟨wy.next + 1, 0, none⟩) ∧ Keep s s' ∧ wy.next + 1 + 1 < s'.next ∧ s'.heap.get (wy.next + 1) = some (.cells [.int .i64 n, .slice (some ⟨wy.next + 1 + 1, 0, none⟩) fs.length fs.length] none) ∧ s'.heap.get (wy.next + 1 + 1) = some (.cells (flatF gs) (some 7)) ∧ gs.length = fs.length ∧ tot gs ≤ 2 ^ i * 100000000000 ∧ ∀ g ∈ gs, (-1 ≤ g.fr ∧ g.fr < n) ∧ (-1 ≤ g.to ∧ g.to < n)) fs.length ?_ ?_
    · refine ⟨0, fs.set k (meas f m), by omega, rfl, by simp, by simp, by simp, ⟨by (try simp only [pushed_next', upded_next']); omega, fun i hi => by simp -implicitDefEqProofs (disch := omega) [hky.2]⟩, by (try simp only [pushed_next', upded_next']); omega, ?_, ?_, hgL, by rw [Nat.pow_zero, Nat.one_mul]; exact hgT, hgE⟩
      · simp -implicitDefEqProofs (disch := omega)
      · simp -implicitDefEqProofs (disch := omega)
    rintro z f2 s' ⟨i, gs, hi, rfl, hm, h11, h10, hkp, hnx, hπ, hβ, hgl, htot, hgends⟩
    have hkpa := hkp.1
    have hkpb := hkp.2
    have hnyS : s.next ≤ wy.next := hky.1
    by_cases hil : i < fs.length
    · obtain ⟨g, hg⟩ : ∃ g, gs[i]? = some g := ⟨gs[i], by simp [show i < gs.length by omega]⟩
      have hget := flow_get hg
      obtain ⟨hV1, hV2⟩ := hgends g (List.mem_of_getElem? hg)
      have hp2 : 2 ^ i * 100000000000 ≤ 104857600000000000 := by
        have : 2 ^ i ≤ 2 ^ 20 := Nat.pow_le_pow_right (by omega) (by omega)
        omega
      have hps : 2 ^ (i + 1) * 100000000000 = 2 * (2 ^ i * 100000000000) := by rw [Nat.pow_succ]; omega
      have htotN : tot gs ≤ 2 ^ (i + 1) * 100000000000 := by rw [hps]; exact Nat.le_trans htot (Nat.le_mul_of_pos_left _ (by decide))
      have hs1 := set_flat (g := meas g g.m) (off := 2) (vs := [.bool true]) hg rfl
      have hs2 := set_flat (g := meas g Mass.zero) (off := 3) (vs := [.int .i64 0, .int .i64 0, .int .i64 0, .int .i64 0]) (set_at (g := meas g g.m) hg) rfl
      rw [List.set_set] at hs2
      have hs3 := fun mx : Mass => set_flat (g := meas g mx) (off := 3) (vs := [.int .i64 mx.a, .int .i64 mx.b, .int .i64 mx.c, .int .i64 mx.d]) (set_at (g := meas g Mass.zero) hg) rfl
      have hsE : ∀ mx : Mass, ∀ x ∈ gs.set i (meas g mx), (-1 ≤ x.fr ∧ x.fr < n) ∧ (-1 ≤ x.to ∧ x.to < n) := fun mx x hx => by
        rcases set_mem hg x hx with rfl | h
        · exact ⟨hV1, hV2⟩
        · exact hgends x h
      have hT1 : tot (gs.set i (meas g Mass.zero)) ≤ tot gs := by
        have := tot_set gs i g Mass.zero
        simp [amt, Mass.zero] at this; exact this
      have hT2 : ∀ mx : Mass, amt mx ≤ tot gs → tot (gs.set i (meas g mx)) ≤ 2 ^ (i + 1) * 100000000000 := fun mx h => by
        have := tot_set gs i g mx
        omega
      simp only [List.set_set] at hs3
      have hD1 := tot_drop (gs.set i (meas g Mass.zero)) i
      have hDE : ∀ x ∈ dropF (gs.set i (meas g Mass.zero)) i, (-1 ≤ x.fr ∧ x.fr < n) ∧ (-1 ≤ x.to ∧ x.to < n) := fun x hx => by
        unfold dropF at hx
        rcases List.mem_append.1 hx with h | h
        · exact hsE _ x (List.mem_of_mem_take h)
        · exact hsE _ x (List.mem_of_mem_drop h)
      have hDl : (dropF (gs.set i (meas g Mass.zero)) i).length ≤ 1000 := by unfold dropF; simp; omega
      have hsl : (gs.set i (meas g Mass.zero)).length = fs.length := by rw [List.length_set, hgl]
      have hgx : ∀ X : List Int, amt (excM X (dropF (gs.set i (meas g Mass.zero)) i)) ≤ tot gs := fun X => by have := amt_excM X (dropF (gs.set i (meas g Mass.zero)) i); omega
      obtain ⟨g0, g1, gm, mm⟩ := g
      rw [FlowD.cs] at hget
      simp only [] at hV1 hV2
      apply zz
      refine Cd.ra (h := ?_)
      apply Run.by_eq
      · intro self
        conv => lhs; simp -implicitDefEqProofs (maxSteps := 300000) (disch := omega) [-getElem?_pos, -getElem?_neg, h11, h10, hπ]
      try (with_reducible refine Run.ret ?_)
      apply zz
      apply Cd.ite rfl
      · conv => lhs; simp -implicitDefEqProofs (maxSteps := 300000) (disch := omega) [-getElem?_pos, -getElem?_neg]
      all_goals intro c3
      all_goals try (cases c3; done)
      all_goals try simp only [Bool.not_eq_true', Bool.not_eq_false', decide_eq_true_eq, decide_eq_false_iff_not] at c3
      all_goals apply zz
      · apply zz
        refine Cd.ra (h := ?_)
        apply Run.by_eq
        · intro self
          conv => lhs; simp -implicitDefEqProofs (maxSteps := 300000) (disch := omega) [-getElem?_pos, -getElem?_neg, h11, h10, hπ, hβ, hget, hil]
        try (with_reducible refine Run.ret ?_)
        apply zz
        refine Cd.ra (h := ?_)
        apply Run.by_eq
        · intro self
          conv => lhs; simp -implicitDefEqProofs (maxSteps := 300000) (disch := omega) [-getElem?_pos, -getElem?_neg]
        try (with_reducible refine Run.ret ?_)
        apply zz
        cases gm with
        | true =>
          apply zz
          apply Cd.ite rfl
          · conv => lhs; simp -implicitDefEqProofs (maxSteps := 300000) (disch := omega) [-getElem?_pos, -getElem?_neg]
          all_goals intro c4
          all_goals try (cases c4; done)
          all_goals try simp only [Bool.not_eq_true', Bool.not_eq_false', decide_eq_true_eq, decide_eq_false_iff_not] at c4
          all_goals apply zz
          apply zz
          refine Cd.ra (h := ?_)
          apply Run.by_eq
          · intro self
            conv => lhs; simp -implicitDefEqProofs (maxSteps := 300000) (disch := omega) [-getElem?_pos, -getElem?_neg, h11]
          try (with_reducible refine Run.ret ?_)
          apply zz
          refine LoopK.nm (fs.length - (i + 1)) (by omega) ⟨i + 1, gs, by omega, rfl, by simp [hm], by simp, by simp [h10], ⟨by (try simp only [pushed_next', upded_next']); omega, fun i hi => by simp -implicitDefEqProofs (disch := omega) [hkpb]⟩, by (try simp only [pushed_next', upded_next']); omega, ?_, ?_, hgl, htotN, hgends⟩
          · simp -implicitDefEqProofs (disch := omega) [hπ]
          · simp -implicitDefEqProofs (disch := omega) [hβ]
        | false =>
          apply zz
          apply Cd.ite rfl
          · conv => lhs; simp -implicitDefEqProofs (maxSteps := 300000) (disch := omega) [-getElem?_pos, -getElem?_neg]
          all_goals intro c4
          all_goals try (cases c4; done)
          all_goals try simp only [Bool.not_eq_true', Bool.not_eq_false', decide_eq_true_eq, decide_eq_false_iff_not] at c4
          all_goals apply zz
          apply zz
          refine Cd.ra (h := ?_)
          apply Run.by_eq
          · intro self
            conv => lhs; simp -implicitDefEqProofs (maxSteps := 300000) (disch := omega) [-getElem?_pos, -getElem?_neg, h11, h10, hπ]
          try (with_reducible refine Run.ret ?_)
          apply zz
          refine Run.call ((refJoinedB_ev n i _ gs _ (by omega) (fl_of_flat (o := some 7) (b := wy.next + 1 + 1) (c := fs.length) (by (try simp only [pushed_next', upded_next']); omega) hgl (by simp -implicitDefEqProofs (disch := omega) [hβ])) (by omega) hgends).mono fun hs w4 hv => ?_)
          obtain ⟨k4, b4, rfl, hb4a, hb4b, ho4⟩ := hv
          have k4a := k4.1
          have k4b := k4.2
          try simp only [pushed_next', upded_next'] at k4a k4b hb4a
          have ht0 := cellsF_get (m := n + 1) (i := (g0 + 1).toNat) (labF i gs 0 fun x => (x : Int)) (by omega)
          have ht1 := cellsF_get (m := n + 1) (i := (g1 + 1).toNat) (labF i gs 0 fun x => (x : Int)) (by omega)
          have n0 := natOf_pos .i64 (show 0 ≤ g0 + 1 by omega)
          have n1 := natOf_pos .i64 (show 0 ≤ g1 + 1 by omega)
          have hl0 : (g0 + 1).toNat < n + 1 := by omega
          have hl1 : (g1 + 1).toNat < n + 1 := by omega
          have ve4 : veq 5 (Value.slice (some ⟨b4, 0, none⟩) (n + 1) (n + 1)) (Value.slice (some ⟨b4, 0, none⟩) (n + 1) (n + 1)) = true := veq_slice _ _ _ _ _
          have veβ : veq 5 (Value.slice (some ⟨wy.next + 1 + 1, 0, none⟩) fs.length fs.length) (Value.slice (some ⟨wy.next + 1 + 1, 0, none⟩) fs.length fs.length) = true := veq_slice _ _ _ _ _
          have veβ4 : veq 4 (Value.slice (some ⟨wy.next + 1 + 1, 0, none⟩) fs.length fs.length) (Value.slice (some ⟨wy.next + 1 + 1, 0, none⟩) fs.length fs.length) = true := veq_slice _ _ _ _ _
          have hπ4 : w4.heap.get (wy.next + 1) = some (.cells [.int .i64 n, .slice (some ⟨wy.next + 1 + 1, 0, none⟩) fs.length fs.length] none) := by rw [k4b _ (by omega)]; simp -implicitDefEqProofs (disch := omega) [hπ]
          have hβ4 : w4.heap.get (wy.next + 1 + 1) = some (.cells (flatF gs) (some 7)) := by rw [k4b _ (by omega)]; simp -implicitDefEqProofs (disch := omega) [hβ]
          have hold4 : ∀ j, j < s.next → w4.heap.get j = s.heap.get j := fun j hj => by rw [k4b j (by omega)]; simp -implicitDefEqProofs (disch := omega) [hkpb]
          generalize labF i gs 0 (fun x => (x : Int)) = L at ho4 ht0 ht1
          obtain ⟨hA, hAe⟩ : ∃ hA, hA = L (g0 + 1).toNat := ⟨_, rfl⟩
          obtain ⟨hB, hBe⟩ : ∃ hB, hB = L (g1 + 1).toNat := ⟨_, rfl⟩
          rw [← hAe] at ht0
          rw [← hBe] at ht1
          apply Run.by_eq
          · intro self
            conv => lhs; simp -implicitDefEqProofs (maxSteps := 300000) (disch := omega) [-getElem?_pos, -getElem?_neg]
          try (with_reducible refine Run.ret ?_)
          apply zz
          refine Cd.drawnH (pl := [(0, 0, false, false), (1, 0, false, false), (2, 2, false, false), (3, 6, false, false), (4, 15, false, false), (5, 31, false, false), (6, 0, false, false), (7, 0, false, false), (8, 128, false, false), (9, 384, false, false), (10, 960, false, false), (11, 1984, false, false), (12, 63, false, false), (13, 8191, false, false)]) [false, false, false, false, false, false, false, false, false, false, false, false, false, false] (by kernel_rfl) (by decide) (by decide) (by conv => lhs; simp only [List.map_cons, List.map_nil]) (by conv => lhs; simp [strip, orderedG, flagH]) ?_
          apply Run.by_eq
          · intro self
            conv => lhs; simp -implicitDefEqProofs (maxSteps := 300000) (disch := omega) [-getElem?_pos, -getElem?_neg, k4b, ho4, ht0, ht1, n0, n1, hl0, hl1, ve4]
          try (with_reducible refine Run.ret ?_)
          apply zz
          refine Cd.drawn (pl := [(0, 0, false, false), (1, 1, false, false), (2, 0, false, false), (3, 0, false, false), (4, 8, false, false), (5, 0, false, false), (6, 0, false, false), (7, 7, false, false), (8, 135, false, false), (9, 391, true, false), (10, 1023, false, false), (11, 2047, false, false), (12, 4095, true, false)]) (by kernel_rfl) (by conv => lhs; simp only [List.map_cons, List.map_nil]) (by conv => lhs; simp [strip, ordered]) ?_
          apply Run.by_eq
          · intro self
            conv => lhs; simp -implicitDefEqProofs (maxSteps := 300000) (disch := omega) [filter_bt, Nat.testBit_eq_decide_div_mod_eq, -getElem?_pos, -getElem?_neg, hπ4, hβ4, hs1, hs2, hil, h10, h11, veβ, veβ4]
          try (with_reducible refine Run.ret ?_)
          apply zz
          have hl4 : i < fs.length := hil
          have ve44 : veq 4 (Value.slice (some ⟨b4, 0, none⟩) (n + 1) (n + 1)) (Value.slice (some ⟨b4, 0, none⟩) (n + 1) (n + 1)) = true := veq_slice _ _ _ _ _
          by_cases hAB : hA = hB
          · apply zz
            refine Cd.ra (h := ?_)
            apply Run.by_eq
            · intro self
              conv => lhs; simp -implicitDefEqProofs (maxSteps := 300000) (disch := omega) [-getElem?_pos, -getElem?_neg, hAB]
            try (with_reducible refine Run.ret ?_)
            apply zz
            apply Cd.ite rfl
            · conv => lhs; simp -implicitDefEqProofs (maxSteps := 300000) (disch := omega) [-getElem?_pos, -getElem?_neg]
            all_goals intro c5
            all_goals try (cases c5; done)
            all_goals try simp only [Bool.not_eq_true', Bool.not_eq_false', decide_eq_true_eq, decide_eq_false_iff_not] at c5
            all_goals apply zz
            apply zz
            refine Cd.ra (h := ?_)
            apply Run.by_eq
            · intro self
              conv => lhs; simp -implicitDefEqProofs (maxSteps := 300000) (disch := omega) [-getElem?_pos, -getElem?_neg, hAB]
            try (with_reducible refine Run.ret ?_)
            apply zz
            apply Cd.ite rfl
            · conv => lhs; simp -implicitDefEqProofs (maxSteps := 300000) (disch := omega) [-getElem?_pos, -getElem?_neg]
            all_goals intro c6
            all_goals try (cases c6; done)
            all_goals try simp only [Bool.not_eq_true', Bool.not_eq_false', decide_eq_true_eq, decide_eq_false_iff_not] at c6
            all_goals apply zz
            apply zz
            refine Cd.ra (h := ?_)
            apply Run.by_eq
            · intro self
              conv => lhs; simp -implicitDefEqProofs (maxSteps := 300000) (disch := omega) [-getElem?_pos, -getElem?_neg, h11]
            try (with_reducible refine Run.ret ?_)
            apply zz
            refine LoopK.nm (fs.length - (i + 1)) (by omega) ⟨i + 1, gs.set i (meas ⟨g0, g1, false, mm⟩ Mass.zero), by omega, rfl, by simp [hm], by simp, by simp [h10], ⟨by (try simp only [pushed_next', upded_next']); omega, fun i hi => by simp -implicitDefEqProofs (disch := omega) [hold4]⟩, by (try simp only [pushed_next', upded_next']); omega, ?_, ?_, by rw [List.length_set, hgl], Nat.le_trans hT1 htotN, hsE _⟩
            · simp -implicitDefEqProofs (disch := omega) [hπ4]
            · simp -implicitDefEqProofs (disch := omega) [hβ4]
          by_cases hA0 : hA = 0
          · have hAB' : ¬ (0 = hB) := fun e => hAB (hA0.trans e)
            apply zz
            refine Cd.ra (h := ?_)
            apply Run.by_eq
            · intro self
              conv => lhs; simp -implicitDefEqProofs (maxSteps := 300000) (disch := omega) [-getElem?_pos, -getElem?_neg, hAB', hA0]
            try (with_reducible refine Run.ret ?_)
            apply zz
            apply Cd.ite rfl
            · conv => lhs; simp -implicitDefEqProofs (maxSteps := 300000) (disch := omega) [-getElem?_pos, -getElem?_neg]
            all_goals intro c5
            all_goals try (cases c5; done)
            all_goals try simp only [Bool.not_eq_true', Bool.not_eq_false', decide_eq_true_eq, decide_eq_false_iff_not] at c5
            all_goals apply zz
            apply zz
            refine Cd.ra (h := ?_)
            apply Run.by_eq
            · intro self
              conv => lhs; simp -implicitDefEqProofs (maxSteps := 300000) (disch := omega) [-getElem?_pos, -getElem?_neg, hAB', hA0]
            try (with_reducible refine Run.ret ?_)
            apply zz
            apply Cd.ite rfl
            · conv => lhs; simp -implicitDefEqProofs (maxSteps := 300000) (disch := omega) [-getElem?_pos, -getElem?_neg]
            all_goals intro c6
            all_goals try (cases c6; done)
            all_goals try simp only [Bool.not_eq_true', Bool.not_eq_false', decide_eq_true_eq, decide_eq_false_iff_not] at c6
            all_goals apply zz
            apply zz
            refine Cd.drawn (pl := [(0, 0, false, false), (1, 1, false, false), (2, 0, false, false), (3, 0, false, false), (4, 0, false, false), (5, 0, false, false), (7, 0, false, false), (8, 0, false, false), (6, 48, true, false), (9, 496, true, false), (10, 1008, true, false), (11, 2040, true, false), (12, 4095, false, false), (13, 8191, false, false), (14, 16383, true, false)]) (by kernel_rfl) (by conv => lhs; simp only [List.map_cons, List.map_nil]) (by conv => lhs; simp [strip, ordered]) ?_
            apply Run.by_eq
            · intro self
              conv => lhs; simp -implicitDefEqProofs (maxSteps := 300000) (disch := omega) [filter_bt, Nat.testBit_eq_decide_div_mod_eq, -getElem?_pos, -getElem?_neg, h10, h11, hπ4, hl4, ve4, ve44, veβ, veβ4]
            try (with_reducible refine Run.ret ?_)
            apply zz
            refine Run.call ((without_ev' n (wy.next + 1 + 1) i fs.length fs.length (gs.set i (meas ⟨g0, g1, false, mm⟩ Mass.zero)) (some 7) _ (by (try simp only [pushed_next', upded_next']); omega) (by simp -implicitDefEqProofs (disch := omega)) rfl hil (Nat.le_refl _) (by omega) hsl).mono fun r5 w5 hv => ?_)
            obtain ⟨k5, wd, rfl, hFd⟩ := hv
            have k5a := k5.1
            have k5b := k5.2
            try simp only [pushed_next', upded_next'] at k5a k5b
            unfold plantV
            apply Run.by_eq
            · intro self
              conv => lhs; simp -implicitDefEqProofs (maxSteps := 300000) (disch := omega) [-getElem?_pos, -getElem?_neg, k5b, hπ4, hl4, ve4, ve44, veβ, veβ4]
            try (with_reducible refine Run.ret ?_)
            apply zz
            have hI5 : IntsAt w5 (.slice (some ⟨b4, 0, none⟩) (n + 1) (n + 1)) ((List.range (n + 1)).map L) := ints_of_cellsF (g := some 1) (by omega) (by rw [k5b _ (by omega)]; simp -implicitDefEqProofs (disch := omega) [ho4])
            refine Run.call ((side_ev _ _ hB _ hI5 (by simp; omega)).mono fun sv w6 hv => ?_)
            obtain ⟨k6, hB6⟩ := hv
            have k6a := k6.1
            have k6b := k6.2
            apply Run.by_eq
            · intro self
              conv => lhs; simp -implicitDefEqProofs (maxSteps := 300000) (disch := omega) [-getElem?_pos, -getElem?_neg, k6b, k5b, hπ4, hl4, ve4, ve44, veβ, veβ4]
            try (with_reducible refine Run.ret ?_)
            apply zz
            have hxx := hgx (sideL L n hB)
            refine Run.call ((refExcessT_ev n wd sv (dropF (gs.set i (meas ⟨g0, g1, false, mm⟩ Mass.zero)) i) (sideL L n hB) _ _ (hFd.keep k6) hB6 hDl (by omega) (fun x hx => by have := hDE x hx; simp; omega) (fun x h1 h2 => side_get h1 (by simp at h2; omega)) (by simp; omega)).mono fun r7 w7 hv => ?_)
            obtain ⟨rfl, k7⟩ := hv
            have k7a := k7.1
            have k7b := k7.2
            generalize excM (sideL L n hB) (dropF (gs.set i (meas ⟨g0, g1, false, mm⟩ Mass.zero)) i) = mx at hxx ⊢
            apply Run.by_eq
            · intro self
              conv => lhs; simp -implicitDefEqProofs (maxSteps := 300000) (disch := omega) [-getElem?_pos, -getElem?_neg, Mass.v, k7b, k6b, k5b, hπ4, hl4, ve4, ve44, veβ, veβ4]
            try (with_reducible refine Run.ret ?_)
            apply zz
            have hmxl : mx.le 1000000000000000000 := (le_amt mx).mono (by omega)
            refine Run.call ((addT_ev Mass.zero mx (-1) _ ((Mass.tim_le hmxl).mono (by omega)) (by rw [Mass.add_tim]; exact (Mass.le_neg hmxl).mono (by omega))).mono fun r8 w8 hv => ?_)
            obtain ⟨rfl, k8⟩ := hv
            have k8a := k8.1
            have k8b := k8.2
            rw [Mass.add_tim]
            have hs3' := hs3 (Mass.zero.sub mx)
            have hamt : amt (Mass.zero.sub mx) ≤ tot gs := by have := amt_sub Mass.zero mx; simp [amt, Mass.zero] at this; simp [amt, Mass.zero] at hxx ⊢; omega
            generalize Mass.zero.sub mx = mz at hs3' hamt ⊢
            apply Run.by_eq
            · intro self
              conv => lhs; simp -implicitDefEqProofs (maxSteps := 300000) (disch := omega) [-getElem?_pos, -getElem?_neg, Mass.v, k8b, k7b, k6b, k5b, hπ4, hl4, ve4, ve44, veβ, veβ4, hs3']
            try (with_reducible refine Run.ret ?_)
            apply zz
            refine Cd.ra (h := ?_)
            apply Run.by_eq
            · intro self
              conv => lhs; simp -implicitDefEqProofs (maxSteps := 300000) (disch := omega) [-getElem?_pos, -getElem?_neg, h11]
            try (with_reducible refine Run.ret ?_)
            apply zz
            refine LoopK.nm (fs.length - (i + 1)) (by omega) ⟨i + 1, gs.set i (meas ⟨g0, g1, false, mm⟩ mz), by omega, rfl, by simp [hm], by simp, by simp [h10], ⟨by (try simp only [pushed_next', upded_next']); omega, fun i hi => by simp -implicitDefEqProofs (disch := omega) [k8b, k7b, k6b, k5b, hold4]⟩, by (try simp only [pushed_next', upded_next']); omega, ?_, ?_, by rw [List.length_set, hgl], hT2 _ hamt, hsE _⟩
            · simp -implicitDefEqProofs (disch := omega) [k8b, k7b, k6b, k5b, hπ4]
            · simp -implicitDefEqProofs (disch := omega) [k8b, k7b, k6b, k5b, hβ4]
          · apply zz
            refine Cd.ra (h := ?_)
            apply Run.by_eq
            · intro self
              conv => lhs; simp -implicitDefEqProofs (maxSteps := 300000) (disch := omega) [-getElem?_pos, -getElem?_neg, hAB, hA0]
            try (with_reducible refine Run.ret ?_)
            apply zz
            apply Cd.ite rfl
            · conv => lhs; simp -implicitDefEqProofs (maxSteps := 300000) (disch := omega) [-getElem?_pos, -getElem?_neg]
            all_goals intro c5
            all_goals try (cases c5; done)
            all_goals try simp only [Bool.not_eq_true', Bool.not_eq_false', decide_eq_true_eq, decide_eq_false_iff_not] at c5
            all_goals apply zz
            apply zz
            refine Cd.drawn (pl := [(0, 0, false, false), (1, 1, false, false), (2, 0, false, false), (3, 0, false, false), (4, 0, false, false), (6, 0, false, false), (7, 0, false, false), (5, 24, true, false), (8, 248, true, false), (9, 504, true, false), (10, 1023, false, false), (11, 2047, false, false), (12, 4095, true, false)]) (by kernel_rfl) (by conv => lhs; simp only [List.map_cons, List.map_nil]) (by conv => lhs; simp [strip, ordered]) ?_
            apply Run.by_eq
            · intro self
              conv => lhs; simp -implicitDefEqProofs (maxSteps := 300000) (disch := omega) [filter_bt, Nat.testBit_eq_decide_div_mod_eq, -getElem?_pos, -getElem?_neg, h10, h11, hπ4, hl4, ve4, ve44, veβ, veβ4]
            try (with_reducible refine Run.ret ?_)
            apply zz
            refine Run.call ((without_ev' n (wy.next + 1 + 1) i fs.length fs.length (gs.set i (meas ⟨g0, g1, false, mm⟩ Mass.zero)) (some 7) _ (by (try simp only [pushed_next', upded_next']); omega) (by simp -implicitDefEqProofs (disch := omega)) rfl hil (Nat.le_refl _) (by omega) hsl).mono fun r5 w5 hv => ?_)
            obtain ⟨k5, wd, rfl, hFd⟩ := hv
            have k5a := k5.1
            have k5b := k5.2
            try simp only [pushed_next', upded_next'] at k5a k5b
            unfold plantV
            apply Run.by_eq
            · intro self
              conv => lhs; simp -implicitDefEqProofs (maxSteps := 300000) (disch := omega) [-getElem?_pos, -getElem?_neg, k5b, hπ4, hl4, ve4, ve44, veβ, veβ4]
            try (with_reducible refine Run.ret ?_)
            apply zz
            have hI5 : IntsAt w5 (.slice (some ⟨b4, 0, none⟩) (n + 1) (n + 1)) ((List.range (n + 1)).map L) := ints_of_cellsF (g := some 1) (by omega) (by rw [k5b _ (by omega)]; simp -implicitDefEqProofs (disch := omega) [ho4])
            refine Run.call ((side_ev _ _ hA _ hI5 (by simp; omega)).mono fun sv w6 hv => ?_)
            obtain ⟨k6, hB6⟩ := hv
            have k6a := k6.1
            have k6b := k6.2
            apply Run.by_eq
            · intro self
              conv => lhs; simp -implicitDefEqProofs (maxSteps := 300000) (disch := omega) [-getElem?_pos, -getElem?_neg, k6b, k5b, hπ4, hl4, ve4, ve44, veβ, veβ4]
            try (with_reducible refine Run.ret ?_)
            apply zz
            have hxx := hgx (sideL L n hA)
            refine Run.call ((refExcessT_ev n wd sv (dropF (gs.set i (meas ⟨g0, g1, false, mm⟩ Mass.zero)) i) (sideL L n hA) _ _ (hFd.keep k6) hB6 hDl (by omega) (fun x hx => by have := hDE x hx; simp; omega) (fun x h1 h2 => side_get h1 (by simp at h2; omega)) (by simp; omega)).mono fun r7 w7 hv => ?_)
            obtain ⟨rfl, k7⟩ := hv
            have k7a := k7.1
            have k7b := k7.2
            generalize excM (sideL L n hA) (dropF (gs.set i (meas ⟨g0, g1, false, mm⟩ Mass.zero)) i) = mx at hxx ⊢
            have hs3' := hs3 mx
            apply Run.by_eq
            · intro self
              conv => lhs; simp -implicitDefEqProofs (maxSteps := 300000) (disch := omega) [-getElem?_pos, -getElem?_neg, Mass.v, k7b, k6b, k5b, hπ4, hl4, ve4, ve44, veβ, veβ4, hs3']
            try (with_reducible refine Run.ret ?_)
            apply zz
            refine Cd.ra (h := ?_)
            apply Run.by_eq
            · intro self
              conv => lhs; simp -implicitDefEqProofs (maxSteps := 300000) (disch := omega) [-getElem?_pos, -getElem?_neg, hAB, hA0]
            try (with_reducible refine Run.ret ?_)
            apply zz
            apply Cd.ite rfl
            · conv => lhs; simp -implicitDefEqProofs (maxSteps := 300000) (disch := omega) [-getElem?_pos, -getElem?_neg]
            all_goals intro c6
            all_goals try (cases c6; done)
            all_goals try simp only [Bool.not_eq_true', Bool.not_eq_false', decide_eq_true_eq, decide_eq_false_iff_not] at c6
            all_goals apply zz
            apply zz
            refine Cd.ra (h := ?_)
            apply Run.by_eq
            · intro self
              conv => lhs; simp -implicitDefEqProofs (maxSteps := 300000) (disch := omega) [-getElem?_pos, -getElem?_neg, h11]
            try (with_reducible refine Run.ret ?_)
            apply zz
            refine LoopK.nm (fs.length - (i + 1)) (by omega) ⟨i + 1, gs.set i (meas ⟨g0, g1, false, mm⟩ mx), by omega, rfl, by simp [hm], by simp, by simp [h10], ⟨by (try simp only [pushed_next', upded_next']); omega, fun i hi => by simp -implicitDefEqProofs (disch := omega) [k7b, k6b, k5b, hold4]⟩, by (try simp only [pushed_next', upded_next']); omega, ?_, ?_, by rw [List.length_set, hgl], hT2 _ hxx, hsE _⟩
            · simp -implicitDefEqProofs (disch := omega) [k7b, k6b, k5b, hπ4]
            · simp -implicitDefEqProofs (disch := omega) [k7b, k6b, k5b, hβ4]
      · simp at c3; omega
    obtain rfl : i = fs.length := by omega
    apply zz
    refine Cd.ra (h := ?_)
    apply Run.by_eq
    · intro self
      conv => lhs; simp -implicitDefEqProofs (maxSteps := 300000) (disch := omega) [-getElem?_pos, -getElem?_neg, h11, h10, hπ]
    try (with_reducible refine Run.ret ?_)
    apply zz
    apply Cd.ite rfl
    · conv => lhs; simp -implicitDefEqProofs (maxSteps := 300000) (disch := omega) [-getElem?_pos, -getElem?_neg]
    all_goals intro c3
    all_goals try (cases c3; done)
    all_goals try simp only [Bool.not_eq_true', Bool.not_eq_false', decide_eq_true_eq, decide_eq_false_iff_not] at c3
    all_goals apply zz
    apply zz
    refine Cd.ra (h := ?_)
    apply Run.by_eq
    · intro self
      conv => lhs; simp -implicitDefEqProofs (maxSteps := 300000) (disch := omega) [-getElem?_pos, -getElem?_neg]
    try (with_reducible refine Run.ret ?_)
    apply zz
    refine Cd.ra (h := ?_)
    apply Run.by_eq
    · intro self
      conv => lhs; simp -implicitDefEqProofs (maxSteps := 300000) (disch := omega) [-getElem?_pos, -getElem?_neg]
    try (with_reducible refine Run.ret ?_)
    apply zz
    refine Cd.inv (fun z f s5 => ∃ (i : Nat) (l : List (List Value)), i ≤ fs.length ∧ z = fs.length - i ∧ f.marks = [] ∧ f.get 17 = .int .i64 i ∧ f.get 10 = .pointer (some ⟨wy.next + 1, 0, none⟩) ∧ Keep s' s5 ∧ l.length = i ∧ l.flatten.length = i * 4 ∧ OwnG 4 s'.next s5 (f.get 16) l) fs.length ?_ ?_
    · exact ⟨0, [], by omega, rfl, by simp [hm], by simp, by simp [h10], Keep.refl _, rfl, rfl, .inl ⟨rfl, by simp⟩⟩
    clear hm h11 h10
    rintro z f3 s5 ⟨i, l, hi, rfl, hm, h17, h10, hkp5, hll, hfl, hU⟩
    have hkp5a := hkp5.1
    have hkp5b := hkp5.2
    have hπ5 := (hkp5b (wy.next + 1) (by omega)).trans hπ
    have hβ5 := (hkp5b (wy.next + 1 + 1) (by omega)).trans hβ
    by_cases hil : i < fs.length
    · obtain ⟨g, hg⟩ : ∃ g, gs[i]? = some g := ⟨gs[i], by simp [show i < gs.length by omega]⟩
      obtain ⟨_, _, _, p3⟩ := flow_parts (flow_get hg)
      apply zz
      refine Cd.ra (h := ?_)
      apply Run.by_eq
      · intro self
        conv => lhs; simp -implicitDefEqProofs (maxSteps := 300000) (disch := omega) [-getElem?_pos, -getElem?_neg, h17, h10, hπ5]
      try (with_reducible refine Run.ret ?_)
      apply zz
      apply Cd.ite rfl
      · conv => lhs; simp -implicitDefEqProofs (maxSteps := 300000) (disch := omega) [-getElem?_pos, -getElem?_neg]
      all_goals intro c4
      all_goals try (cases c4; done)
      all_goals try simp only [Bool.not_eq_true', Bool.not_eq_false', decide_eq_true_eq, decide_eq_false_iff_not] at c4
      all_goals apply zz
      · rcases hU with ⟨hl0, hw0⟩ | ⟨bu, hw0, hne0, hb1, hb2, hb3⟩
        · have hi0 : i = 0 := by rw [← hll, hl0]; rfl
          subst hi0
          apply zz
          refine Cd.ra (h := ?_)
          apply Run.by_eq
          · intro self
            conv => lhs; simp -implicitDefEqProofs (maxSteps := 300000) (disch := omega) [-getElem?_pos, -getElem?_neg, h17, h10, hπ5, hβ5, p3, hil, hw0]
          try (with_reducible refine Run.ret ?_)
          apply zz
          refine Cd.ra (h := ?_)
          apply Run.by_eq
          · intro self
            conv => lhs; simp -implicitDefEqProofs (maxSteps := 300000) (disch := omega) [-getElem?_pos, -getElem?_neg, h17]
          try (with_reducible refine Run.ret ?_)
          apply zz
          refine LoopK.nm (fs.length - (0 + 1)) (by omega) ⟨0 + 1, [g.m.cs], by omega, rfl, by simp [hm], by simp, by simp [h10], ⟨by (try simp only [pushed_next', upded_next']); omega, fun i hi => by simp -implicitDefEqProofs (disch := omega) [hkp5b]⟩, rfl, rfl, .inr ⟨s5.next + 1, by simp, by simp, by omega, by simp, ?_⟩⟩
          simp -implicitDefEqProofs (disch := omega) [Mass.cs]
        · rw [hll] at hw0
          apply zz
          refine Cd.ra (h := ?_)
          apply Run.by_eq
          · intro self
            conv => lhs; simp -implicitDefEqProofs (maxSteps := 300000) (disch := omega) [-getElem?_pos, -getElem?_neg, h17, h10, hπ5, hβ5, p3, hil, hw0]
          try (with_reducible refine Run.ret ?_)
          apply zz
          apply Run.by_eq
          · intro self
            rw [appV_moreE (size := 4) (n := i) (old := l.flatten) ?happ2 hfl (by omega)]
            simp -implicitDefEqProofs (disch := omega) [hb3]
          apply Run.by_eq
          · intro self
            conv => lhs; simp -implicitDefEqProofs (maxSteps := 300000) (disch := omega) [-getElem?_pos, -getElem?_neg, hb3]
          try (with_reducible refine Run.ret ?_)
          apply zz
          refine Cd.ra (h := ?_)
          apply Run.by_eq
          · intro self
            conv => lhs; simp -implicitDefEqProofs (maxSteps := 300000) (disch := omega) [-getElem?_pos, -getElem?_neg, h17]
          try (with_reducible refine Run.ret ?_)
          apply zz
          refine LoopK.nm (fs.length - (i + 1)) (by omega) ⟨i + 1, l ++ [g.m.cs], by omega, rfl, by simp [hm], by simp, by simp [h10], ⟨by (try simp only [pushed_next', upded_next']); omega, fun i hi => by simp -implicitDefEqProofs (disch := omega) [hkp5b]⟩, by simp [hll], by rw [List.flatten_append, List.length_append, hfl]; simp [Mass.cs]; omega, .inr ⟨s5.next + 1, by simp [hll], by simp, by omega, by simp, ?_⟩⟩
          simp -implicitDefEqProofs (disch := omega) [Mass.cs]
      · simp at c4; omega
    obtain rfl : i = fs.length := by omega
    apply zz
    refine Cd.ra (h := ?_)
    apply Run.by_eq
    · intro self
      conv => lhs; simp -implicitDefEqProofs (maxSteps := 300000) (disch := omega) [-getElem?_pos, -getElem?_neg, h17, h10, hπ5]
    try (with_reducible refine Run.ret ?_)
    apply zz
    apply Cd.ite rfl
    · conv => lhs; simp -implicitDefEqProofs (maxSteps := 300000) (disch := omega) [-getElem?_pos, -getElem?_neg]
    all_goals intro c4
    all_goals try (cases c4; done)
    all_goals try simp only [Bool.not_eq_true', Bool.not_eq_false', decide_eq_true_eq, decide_eq_false_iff_not] at c4
    all_goals apply zz
    apply zz
    refine Cd.ra (h := ?_)
    apply Run.by_eq
    · intro self
      conv => lhs; simp -implicitDefEqProofs (maxSteps := 300000) (disch := omega) [-getElem?_pos, -getElem?_neg]
    try (with_reducible refine Run.ret ?_)
    apply zz
    apply Leave.mk (by first | exact .inl rfl | exact .inr rfl) (by simp only [Fr.marks_put, fr0_marks, hm])
    · conv => lhs; simp -implicitDefEqProofs (disch := omega) [Try.results27, hm]
    exact ⟨⟨by (try simp only [pushed_next', upded_next']); omega, fun i hi => by simp -implicitDefEqProofs (disch := omega) [hkp5b, hkpb]⟩, _, rfl⟩
end Go.Proofs.Ytifkpaomhnlahaa
namespace Go.Proofs.Ytifkpaomhnlahaa
open Go Kern
theorem bal_flat (bs : List Mass) (i : Nat) (hi : i ≤ bs.length) : ((bs.take i).map Mass.cs).flatten.length = i * 4 := by
  have : ∀ l : List Mass, (l.map Mass.cs).flatten.length = l.length * 4 := fun l => by
    induction l with
    | nil => rfl
    | cons x r ih => rw [List.map_cons, List.flatten_cons, List.length_append, ih, List.length_cons, Nat.add_mul]; simp [Mass.cs]; omega
  rw [this, List.length_take]; congr 1; omega
theorem OwnG.bal {N : Nat} {s : St} {w : Value} {bs : List Mass} (h : OwnG 4 N s w (bs.map Mass.cs)) : BalAt s w bs :=
  h.sl fun x hx => by obtain ⟨m, _, rfl⟩ := List.mem_map.1 hx; rfl
theorem OwnG.held {n N : Nat} {s s' : St} {w : Value} {l : List (List Value)} (h : OwnG n N s w l) (h1 : s.next ≤ s'.next) (h2 : ∀ i, N ≤ i → i < s.next → s'.heap.get i = s.heap.get i) : OwnG n N s' w l := by
  rcases h with ⟨h, h'⟩ | ⟨b, h, h', hb1, hb2, hb3⟩
  · exact .inl ⟨h, h'⟩
  · exact .inr ⟨b, h, h', hb1, by omega, by rw [h2 b hb1 hb2]; exact hb3⟩
set_option maxRecDepth 100000 in
set_option maxHeartbeats 4000000 in
theorem lawF_ev (u fl : Int) (m : Mass) (v vb : Value) (fs : List FlowD) (bs : List Mass) (s : St) (hf : FlAt s v fs) (hb : BalAt s vb bs) (hm64 : m.w64) :
    Ev TT 5 [plantV u v, .int .i64 fl, m.v, vb] s fun r _ => r = .bool true := by
  obtain ⟨a, c, rfl⟩ := hf.shape
  obtain ⟨ab, cb, rfl⟩ := hb.shape
  rw [List.length_map] at hf hb ⊢
  rw [List.length_map]
  unfold plantV Mass.v
  refine Ev.intro (fn := Try.f5) rfl (by kernel_rfl) rfl rfl ?_
  apply zz
  refine Cd.ra (h := ?_)
  apply Run.by_eq
  · intro self
    conv => lhs; simp -implicitDefEqProofs (maxSteps := 300000) (disch := omega) [-getElem?_pos, -getElem?_neg]
  try (with_reducible refine Run.ret ?_)
  apply zz
  by_cases e2 : 40 < (fs.length : Int)
  · apply zz
    refine Cd.ra (h := ?_)
    apply Run.by_eq
    · intro self
      conv => lhs; simp -implicitDefEqProofs (maxSteps := 300000) (disch := omega) [-getElem?_pos, -getElem?_neg, e2]
    try (with_reducible refine Run.ret ?_)
    apply zz
    apply Cd.ite rfl
    · conv => lhs; simp -implicitDefEqProofs (maxSteps := 300000) (disch := omega) [-getElem?_pos, -getElem?_neg]
    all_goals intro c0
    all_goals try (cases c0; done)
    all_goals try simp only [Bool.not_eq_true', Bool.not_eq_false', decide_eq_true_eq, decide_eq_false_iff_not] at c0
    all_goals apply zz
    apply zz
    refine Cd.ra (h := ?_)
    apply Run.by_eq
    · intro self
      conv => lhs; simp -implicitDefEqProofs (maxSteps := 300000) (disch := omega) [-getElem?_pos, -getElem?_neg]
    try (with_reducible refine Run.ret ?_)
    apply zz
    refine Run.call (Ev.stub rfl ?_)
    apply Run.by_eq
    · intro self
      conv => lhs; simp -implicitDefEqProofs (maxSteps := 300000) (disch := omega) [-getElem?_pos, -getElem?_neg]
    try (with_reducible refine Run.ret ?_)
    apply zz
    apply Leave.mk (by first | exact .inl rfl | exact .inr rfl) (by simp only [Fr.marks_put, fr0_marks])
    · conv => lhs; simp -implicitDefEqProofs (disch := omega) [Try.results5]
    rfl
  by_cases e3 : 40 < (bs.length : Int)
  · apply zz
    refine Cd.ra (h := ?_)
    apply Run.by_eq
    · intro self
      conv => lhs; simp -implicitDefEqProofs (maxSteps := 300000) (disch := omega) [-getElem?_pos, -getElem?_neg, e2, e3]
    try (with_reducible refine Run.ret ?_)
    apply zz
    apply Cd.ite rfl
    · conv => lhs; simp -implicitDefEqProofs (maxSteps := 300000) (disch := omega) [-getElem?_pos, -getElem?_neg]
    all_goals intro c0
    all_goals try (cases c0; done)
    all_goals try simp only [Bool.not_eq_true', Bool.not_eq_false', decide_eq_true_eq, decide_eq_false_iff_not] at c0
    all_goals apply zz
    apply zz
    refine Cd.ra (h := ?_)
    apply Run.by_eq
    · intro self
      conv => lhs; simp -implicitDefEqProofs (maxSteps := 300000) (disch := omega) [-getElem?_pos, -getElem?_neg]
    try (with_reducible refine Run.ret ?_)
    apply zz
    refine Run.call (Ev.stub rfl ?_)
    apply Run.by_eq
    · intro self
      conv => lhs; simp -implicitDefEqProofs (maxSteps := 300000) (disch := omega) [-getElem?_pos, -getElem?_neg]
    try (with_reducible refine Run.ret ?_)
    apply zz
    apply Leave.mk (by first | exact .inl rfl | exact .inr rfl) (by simp only [Fr.marks_put, fr0_marks])
    · conv => lhs; simp -implicitDefEqProofs (disch := omega) [Try.results5]
    rfl
  apply zz
  refine Cd.ra (h := ?_)
  apply Run.by_eq
  · intro self
    conv => lhs; simp -implicitDefEqProofs (maxSteps := 300000) (disch := omega) [-getElem?_pos, -getElem?_neg, e2, e3]
  try (with_reducible refine Run.ret ?_)
  apply zz
  apply Cd.ite rfl
  · conv => lhs; simp -implicitDefEqProofs (maxSteps := 300000) (disch := omega) [-getElem?_pos, -getElem?_neg]
  all_goals intro c0
  all_goals try (cases c0; done)
  all_goals try simp only [Bool.not_eq_true', Bool.not_eq_false', decide_eq_true_eq, decide_eq_false_iff_not] at c0
  all_goals apply zz
  have hl : fs.length ≤ 1000 := by omega
  have hlb : bs.length ≤ 1000 := by omega
  apply zz
  refine Cd.ra (h := ?_)
  apply Run.by_eq
  · intro self
    conv => lhs; simp -implicitDefEqProofs (maxSteps := 300000) (disch := omega) [-getElem?_pos, -getElem?_neg]
  try (with_reducible refine Run.ret ?_)
  apply zz
  refine Run.call ((given_ev u _ fs _ (hf.keep ⟨by (try simp only [pushed_next', upded_next']); omega, fun i hi => by simp -implicitDefEqProofs (disch := omega) []⟩) hl).mono fun r2 t2 hv => ?_)
  obtain ⟨k2, w2, rfl, hw2⟩ := hv
  have k2a := k2.1
  have k2b := k2.2
  try simp only [pushed_next', upded_next'] at k2a k2b
  obtain ⟨aw, cw, rfl⟩ := hw2.shape
  rw [List.length_map] at hw2 ⊢
  unfold plantV
  apply Run.by_eq
  · intro self
    conv => lhs; simp -implicitDefEqProofs (maxSteps := 300000) (disch := omega) [-getElem?_pos, -getElem?_neg]
  try (with_reducible refine Run.ret ?_)
  apply zz
  refine Cd.ra (h := ?_)
  apply Run.by_eq
  · intro self
    conv => lhs; simp -implicitDefEqProofs (maxSteps := 300000) (disch := omega) [-getElem?_pos, -getElem?_neg, k2b]
  try (with_reducible refine Run.ret ?_)
  apply zz
  refine Run.call ((fill_ev u fl m _ fs _ (hf.keep ⟨by (try simp only [pushed_next', upded_next']); omega, fun i hi => by simp -implicitDefEqProofs (disch := omega) [k2b]⟩) hl hm64).mono fun r1 t1 hv => ?_)
  obtain ⟨k1, w1, rfl, hne, heq⟩ := hv
  have k1a := k1.1
  have k1b := k1.2
  try simp only [pushed_next', upded_next'] at k1a k1b
  obtain ⟨L, hL, hL0, hL1, hLl⟩ : ∃ L : List Mass, BalAt t1 w1 L ∧ (fillErr u fs fl m ≠ 0 → L = []) ∧ (fillErr u fs fl m = 0 → ∃ k : Nat, fl = k ∧ k < L.length ∧ L[k]? = some m ∧ verE u fs L = (0, 0)) ∧ L.length ≤ 1000 := by
    by_cases h : fillErr u fs fl m = 0
    · obtain ⟨n, k, f, B, rfl, rfl, hk, hce, hst, hS, hB⟩ := heq h
      have hok := fill_ok hce hk hst hS (by omega)
      have hlt := (List.getElem?_eq_some_iff.1 hk).1
      exact ⟨_, hB, fun h' => absurd h h', fun _ => ⟨k, rfl, by simpa using hlt, by rw [List.getElem?_map, List.getElem?_range hlt, ← hok.2]; rfl, hok.1⟩, by simpa using hl⟩
    · refine ⟨[], ?_, fun _ => rfl, fun h' => absurd h' h, by simp⟩
      rw [hne h]; exact .nil 0
  clear hne heq
  obtain ⟨aL, cL, rfl⟩ := hL.shape
  rw [List.length_map] at hL ⊢
  apply Run.by_eq
  · intro self
    conv => lhs; simp -implicitDefEqProofs (maxSteps := 300000) (disch := omega) [-getElem?_pos, -getElem?_neg]
  try (with_reducible refine Run.ret ?_)
  apply zz
  refine Cd.ra (h := ?_)
  apply Run.by_eq
  · intro self
    conv => lhs; simp -implicitDefEqProofs (maxSteps := 300000) (disch := omega) [-getElem?_pos, -getElem?_neg, k1b, k2b]
  try (with_reducible refine Run.ret ?_)
  apply zz
  refine Run.call ((refFill_ev u fl m _ fs _ ((hw2.keep ⟨by (try simp only [pushed_next', upded_next']); omega, fun i hi => by simp -implicitDefEqProofs (disch := omega) []⟩).keep k1) hl hm64).mono fun r3 t3 hv => ?_)
  obtain ⟨k3, w3, rfl⟩ := hv
  have k3a := k3.1
  have k3b := k3.2
  try simp only [pushed_next', upded_next'] at k3a k3b
  generalize fillErr u fs fl m = E at hL0 hL1
  have hp3 : t3.heap.get s.next = some (.cells [.int .i64 u, .slice a fs.length c] none) := by rw [k3b _ (by omega), k1b _ (by omega)]; simp -implicitDefEqProofs (disch := omega) [k2b]
  have hm3 : t3.heap.get (s.next + 1) = some (.cells [.int .i64 m.a, .int .i64 m.b, .int .i64 m.c, .int .i64 m.d] none) := by rw [k3b _ (by omega), k1b _ (by omega)]; simp -implicitDefEqProofs (disch := omega) [k2b]
  have hx3 : t3.heap.get t2.next = some (.cells [.int .i64 u, .slice aw fs.length cw] none) := by rw [k3b _ (by omega), k1b _ (by omega)]; simp -implicitDefEqProofs (disch := omega)
  have hks : Keep s t3 := ⟨by omega, fun i hi => by rw [k3b _ (by omega), k1b _ (by omega)]; simp -implicitDefEqProofs (disch := omega) [k2b]⟩
  have hf3 := hf.keep hks
  have hb3 := hb.keep hks
  have hL3 := hL.keep k3
  have hw3 : FlAt t3 (.slice aw fs.length cw) fs := ((hw2.keep ⟨by (try simp only [pushed_next', upded_next']); omega, fun i hi => by simp -implicitDefEqProofs (disch := omega) []⟩).keep k1).keep k3
  have hn3 : t2.next < t3.next := by omega
  have hn3s : s.next + 1 + 1 ≤ t2.next := by omega
  clear k1 k2 k3 k1a k1b k2a k2b k3a k3b hf hb hL hw2
  apply Run.by_eq
  · intro self
    conv => lhs; simp -implicitDefEqProofs (maxSteps := 300000) (disch := omega) [-getElem?_pos, -getElem?_neg]
  try (with_reducible refine Run.ret ?_)
  apply zz
  refine Cd.ra (h := ?_)
  apply Run.by_eq
  · intro self
    conv => lhs; simp -implicitDefEqProofs (maxSteps := 300000) (disch := omega) [-getElem?_pos, -getElem?_neg]
  try (with_reducible refine Run.ret ?_)
  apply zz
  apply Cd.ite rfl
  · conv => lhs; simp -implicitDefEqProofs (maxSteps := 300000) (disch := omega) [-getElem?_pos, -getElem?_neg]
  all_goals intro c1
  all_goals try (cases c1; done)
  all_goals try simp only [Bool.not_eq_true', Bool.not_eq_false', decide_eq_true_eq, decide_eq_false_iff_not] at c1
  all_goals apply zz
  have hlen0 : E = 0 ∨ L.length = 0 := by
    by_cases h : E = 0
    · exact .inl h
    · exact .inr (by rw [hL0 h]; rfl)
  have hstep8 : E ≠ 0 → (L.length : Int) = 0 := fun h => by rw [hL0 h]; rfl
  by_cases hE0 : E = 0
  case pos =>
    obtain ⟨k, rfl, hkl, hkm, hvL⟩ := hL1 hE0
    subst hE0
    apply zz
    refine Cd.ra (h := ?_)
    apply Run.by_eq
    · intro self
      conv => lhs; simp -implicitDefEqProofs (maxSteps := 300000) (disch := omega) [-getElem?_pos, -getElem?_neg]
    try (with_reducible refine Run.ret ?_)
    apply zz
    apply Cd.ite rfl
    · conv => lhs; simp -implicitDefEqProofs (maxSteps := 300000) (disch := omega) [-getElem?_pos, -getElem?_neg]
    all_goals intro c2
    all_goals try (cases c2; done)
    all_goals try simp only [Bool.not_eq_true', Bool.not_eq_false', decide_eq_true_eq, decide_eq_false_iff_not] at c2
    all_goals apply zz
    apply zz
    refine Cd.ra (h := ?_)
    apply Run.by_eq
    · intro self
      conv => lhs; simp -implicitDefEqProofs (maxSteps := 300000) (disch := omega) [-getElem?_pos, -getElem?_neg]
    try (with_reducible refine Run.ret ?_)
    apply zz
    refine Cd.ra (h := ?_)
    apply Run.by_eq
    · intro self
      conv => lhs; simp -implicitDefEqProofs (maxSteps := 300000) (disch := omega) [-getElem?_pos, -getElem?_neg]
    try (with_reducible refine Run.ret ?_)
    apply zz
    refine Cd.inv (fun z f s' => ∃ i : Nat, i ≤ L.length ∧ z = L.length - i ∧ f.marks = [] ∧ f.get 16 = .int .i64 i ∧ f.get 1 = .int .i64 (k : Int) ∧ f.get 3 = .slice ab bs.length cb ∧ f.get 4 = .pointer (some ⟨s.next, 0, none⟩) ∧ f.get 6 = .pointer (some ⟨s.next + 1, 0, none⟩) ∧ f.get 9 = .pointer (some ⟨t2.next, 0, none⟩) ∧ f.get 10 = .slice aL L.length cL ∧ f.get 11 = .int .i64 0 ∧ f.get 15 = .slice none 0 0 ∧ Keep t3 s' ∧ OwnG 4 t3.next s' (f.get 14) ((L.take i).map Mass.cs)) L.length ?_ ?_
    · exact ⟨0, by omega, rfl, by simp, by simp, by simp, by simp, by simp, by simp, by simp, by simp, by simp, by simp, Keep.refl _, .inl ⟨rfl, by simp⟩⟩
    rintro z f4 t4 ⟨i, hi, rfl, hm, g16, g1, g3, g4, g6, g9, g10, g11, g15, hk4, hO⟩
    have hk4a := hk4.1
    have hk4b := hk4.2
    by_cases hil : i < L.length
    · obtain ⟨x, hx⟩ : ∃ x, L[i]? = some x := ⟨L[i], by simp [hil]⟩
      have hfl := bal_flat L i hi
      have htk : (L.take (i + 1)).map Mass.cs = (L.take i).map Mass.cs ++ [x.cs] := by rw [List.take_add_one, hx]; simp
      have hli : ((L.take i).map Mass.cs).length = i := by simp; omega
      obtain ⟨b, off, o, cs, gg, rfl, hbb, ho, hc, ht⟩ := BalAt.at (hL3.keep hk4) hx
      unfold Mass.cs at ht
      apply zz
      refine Cd.ra (h := ?_)
      apply Run.by_eq
      · intro self
        conv => lhs; simp -implicitDefEqProofs (maxSteps := 300000) (disch := omega) [-getElem?_pos, -getElem?_neg, g16, g10]
      try (with_reducible refine Run.ret ?_)
      apply zz
      apply Cd.ite rfl
      · conv => lhs; simp -implicitDefEqProofs (maxSteps := 300000) (disch := omega) [-getElem?_pos, -getElem?_neg]
      all_goals intro c3
      all_goals try (cases c3; done)
      all_goals try simp only [Bool.not_eq_true', Bool.not_eq_false', decide_eq_true_eq, decide_eq_false_iff_not] at c3
      all_goals apply zz
      · rcases hO with ⟨hl0, hw0⟩ | ⟨bu, hw0, hne0, hb1, hb2, hb3'⟩
        · have hi0 : i = 0 := by rw [← hli, hl0]; rfl
          subst hi0
          simp only [Nat.zero_mul, Nat.add_zero] at ht
          apply zz
          refine Cd.ra (h := ?_)
          apply Run.by_eq
          · intro self
            conv => lhs; simp -implicitDefEqProofs (maxSteps := 300000) (disch := omega) [-getElem?_pos, -getElem?_neg, g16, g10, ho, hc, ht, hil, hw0]
          try (with_reducible refine Run.ret ?_)
          apply zz
          refine Cd.ra (h := ?_)
          apply Run.by_eq
          · intro self
            conv => lhs; simp -implicitDefEqProofs (maxSteps := 300000) (disch := omega) [-getElem?_pos, -getElem?_neg, g16]
          try (with_reducible refine Run.ret ?_)
          apply zz
          refine LoopK.nm (L.length - (0 + 1)) (by omega) ⟨0 + 1, by omega, rfl, by simp [hm], by simp, by simp [g1], by simp [g3], by simp [g4], by simp [g6], by simp [g9], by simp [g10], by simp [g11], by simp [g15], ⟨by (try simp only [pushed_next', upded_next']); omega, fun i hi => by simp -implicitDefEqProofs (disch := omega) [hk4b]⟩, ?_⟩
          rw [htk, hl0]
          exact .inr ⟨t4.next + 1, by simp, by simp, by omega, by simp, by simp -implicitDefEqProofs (disch := omega) [Mass.cs]⟩
        · rw [hli] at hw0
          apply zz
          refine Cd.ra (h := ?_)
          apply Run.by_eq
          · intro self
            conv => lhs; simp -implicitDefEqProofs (maxSteps := 300000) (disch := omega) [-getElem?_pos, -getElem?_neg, g16, g10, ho, hc, ht, hil, hw0]
          try (with_reducible refine Run.ret ?_)
          apply zz
          apply Run.by_eq
          · intro self
            rw [appV_moreE (size := 4) (n := i) (old := ((L.take i).map Mass.cs).flatten) ?happ1 hfl (by omega)]
            simp -implicitDefEqProofs (disch := omega) [hb3']
          apply Run.by_eq
          · intro self
            conv => lhs; simp -implicitDefEqProofs (maxSteps := 300000) (disch := omega) [-getElem?_pos, -getElem?_neg, hb3']
          try (with_reducible refine Run.ret ?_)
          apply zz
          refine Cd.ra (h := ?_)
          apply Run.by_eq
          · intro self
            conv => lhs; simp -implicitDefEqProofs (maxSteps := 300000) (disch := omega) [-getElem?_pos, -getElem?_neg, g16]
          try (with_reducible refine Run.ret ?_)
          apply zz
          refine LoopK.nm (L.length - (i + 1)) (by omega) ⟨i + 1, by omega, rfl, by simp [hm], by simp, by simp [g1], by simp [g3], by simp [g4], by simp [g6], by simp [g9], by simp [g10], by simp [g11], by simp [g15], ⟨by (try simp only [pushed_next', upded_next']); omega, fun i hi => by simp -implicitDefEqProofs (disch := omega) [hk4b]⟩, ?_⟩
          rw [htk]
          refine .inr ⟨t4.next + 1, ?_, by simp, by omega, by simp, by simp -implicitDefEqProofs (disch := omega) [Mass.cs]⟩
          rw [List.length_append, hli]; simp
      · simp at c3; omega
    obtain rfl : i = L.length := by omega
    rw [List.take_length] at hO
    obtain ⟨w14, g14⟩ : ∃ w14, f4.get 14 = w14 := ⟨_, rfl⟩
    rw [g14] at hO
    apply zz
    refine Cd.ra (h := ?_)
    apply Run.by_eq
    · intro self
      conv => lhs; simp -implicitDefEqProofs (maxSteps := 300000) (disch := omega) [-getElem?_pos, -getElem?_neg, g16, g10]
    try (with_reducible refine Run.ret ?_)
    apply zz
    apply Cd.ite rfl
    · conv => lhs; simp -implicitDefEqProofs (maxSteps := 300000) (disch := omega) [-getElem?_pos, -getElem?_neg]
    all_goals intro c3
    all_goals try (cases c3; done)
    all_goals try simp only [Bool.not_eq_true', Bool.not_eq_false', decide_eq_true_eq, decide_eq_false_iff_not] at c3
    all_goals apply zz
    apply zz
    refine Cd.ra (h := ?_)
    apply Run.by_eq
    · intro self
      conv => lhs; simp -implicitDefEqProofs (maxSteps := 300000) (disch := omega) [-getElem?_pos, -getElem?_neg]
    try (with_reducible refine Run.ret ?_)
    apply zz
    refine Cd.inv (fun z f s' => ∃ i : Nat, i ≤ bs.length ∧ z = bs.length - i ∧ f.marks = [] ∧ f.get 17 = .int .i64 i ∧ f.get 1 = .int .i64 (k : Int) ∧ f.get 3 = .slice ab bs.length cb ∧ f.get 4 = .pointer (some ⟨s.next, 0, none⟩) ∧ f.get 6 = .pointer (some ⟨s.next + 1, 0, none⟩) ∧ f.get 9 = .pointer (some ⟨t2.next, 0, none⟩) ∧ f.get 10 = .slice aL L.length cL ∧ f.get 11 = .int .i64 0 ∧ f.get 14 = w14 ∧ Keep t4 s' ∧ OwnG 4 t4.next s' (f.get 15) ((bs.take i).map Mass.cs)) bs.length ?_ ?_
    · exact ⟨0, by omega, rfl, by simp [hm], by simp, by simp [g1], by simp [g3], by simp [g4], by simp [g6], by simp [g9], by simp [g10], by simp [g11], by simp [g14], Keep.refl _, .inl ⟨rfl, by simp [g15]⟩⟩
    clear hm g16 g1 g3 g4 g6 g9 g10 g11 g15 g14
    rintro z f5 t5 ⟨i, hi, rfl, hm, g17, g1, g3, g4, g6, g9, g10, g11, g14, hk5', hO2⟩
    have hk5a' := hk5'.1
    have hk5b' := hk5'.2
    by_cases hil : i < bs.length
    · obtain ⟨x, hx⟩ : ∃ x, bs[i]? = some x := ⟨bs[i], by simp [hil]⟩
      have hfl := bal_flat bs i hi
      have htk : (bs.take (i + 1)).map Mass.cs = (bs.take i).map Mass.cs ++ [x.cs] := by rw [List.take_add_one, hx]; simp
      have hli : ((bs.take i).map Mass.cs).length = i := by simp; omega
      obtain ⟨b, off, o, cs, gg, rfl, hbb, ho, hc, ht⟩ := BalAt.at ((hb3.keep hk4).keep hk5') hx
      unfold Mass.cs at ht
      apply zz
      refine Cd.ra (h := ?_)
      apply Run.by_eq
      · intro self
        conv => lhs; simp -implicitDefEqProofs (maxSteps := 300000) (disch := omega) [-getElem?_pos, -getElem?_neg, g17, g3]
      try (with_reducible refine Run.ret ?_)
      apply zz
      apply Cd.ite rfl
      · conv => lhs; simp -implicitDefEqProofs (maxSteps := 300000) (disch := omega) [-getElem?_pos, -getElem?_neg]
      all_goals intro c4
      all_goals try (cases c4; done)
      all_goals try simp only [Bool.not_eq_true', Bool.not_eq_false', decide_eq_true_eq, decide_eq_false_iff_not] at c4
      all_goals apply zz
      · rcases hO2 with ⟨hl0, hw0⟩ | ⟨bu, hw0, hne0, hb1, hb2, hb3'⟩
        · have hi0 : i = 0 := by rw [← hli, hl0]; rfl
          subst hi0
          simp only [Nat.zero_mul, Nat.add_zero] at ht
          apply zz
          refine Cd.ra (h := ?_)
          apply Run.by_eq
          · intro self
            conv => lhs; simp -implicitDefEqProofs (maxSteps := 300000) (disch := omega) [-getElem?_pos, -getElem?_neg, g17, g3, ho, hc, ht, hil, hw0]
          try (with_reducible refine Run.ret ?_)
          apply zz
          refine Cd.ra (h := ?_)
          apply Run.by_eq
          · intro self
            conv => lhs; simp -implicitDefEqProofs (maxSteps := 300000) (disch := omega) [-getElem?_pos, -getElem?_neg, g17]
          try (with_reducible refine Run.ret ?_)
          apply zz
          refine LoopK.nm (bs.length - (0 + 1)) (by omega) ⟨0 + 1, by omega, rfl, by simp [hm], by simp, by simp [g1], by simp [g3], by simp [g4], by simp [g6], by simp [g9], by simp [g10], by simp [g11], by simp [g14], ⟨by (try simp only [pushed_next', upded_next']); omega, fun i hi => by simp -implicitDefEqProofs (disch := omega) [hk5b']⟩, ?_⟩
          rw [htk, hl0]
          exact .inr ⟨t5.next + 1, by simp, by simp, by omega, by simp, by simp -implicitDefEqProofs (disch := omega) [Mass.cs]⟩
        · rw [hli] at hw0
          apply zz
          refine Cd.ra (h := ?_)
          apply Run.by_eq
          · intro self
            conv => lhs; simp -implicitDefEqProofs (maxSteps := 300000) (disch := omega) [-getElem?_pos, -getElem?_neg, g17, g3, ho, hc, ht, hil, hw0]
          try (with_reducible refine Run.ret ?_)
          apply zz
          apply Run.by_eq
          · intro self
            rw [appV_moreE (size := 4) (n := i) (old := ((bs.take i).map Mass.cs).flatten) ?happ2 hfl (by omega)]
            simp -implicitDefEqProofs (disch := omega) [hb3']
          apply Run.by_eq
          · intro self
            conv => lhs; simp -implicitDefEqProofs (maxSteps := 300000) (disch := omega) [-getElem?_pos, -getElem?_neg, hb3']
          try (with_reducible refine Run.ret ?_)
          apply zz
          refine Cd.ra (h := ?_)
          apply Run.by_eq
          · intro self
            conv => lhs; simp -implicitDefEqProofs (maxSteps := 300000) (disch := omega) [-getElem?_pos, -getElem?_neg, g17]
          try (with_reducible refine Run.ret ?_)
          apply zz
          refine LoopK.nm (bs.length - (i + 1)) (by omega) ⟨i + 1, by omega, rfl, by simp [hm], by simp, by simp [g1], by simp [g3], by simp [g4], by simp [g6], by simp [g9], by simp [g10], by simp [g11], by simp [g14], ⟨by (try simp only [pushed_next', upded_next']); omega, fun i hi => by simp -implicitDefEqProofs (disch := omega) [hk5b']⟩, ?_⟩
          rw [htk]
          refine .inr ⟨t5.next + 1, ?_, by simp, by omega, by simp, by simp -implicitDefEqProofs (disch := omega) [Mass.cs]⟩
          rw [List.length_append, hli]; simp
      · simp at c4; omega
    obtain rfl : i = bs.length := by omega
    rw [List.take_length] at hO2
    obtain ⟨w15, g15⟩ : ∃ w15, f5.get 15 = w15 := ⟨_, rfl⟩
    rw [g15] at hO2
    have hk5 : Keep t3 t5 := hk4.trans hk5'
    have hO5 := hO.held hk5'.1 (fun j _ h2 => hk5'.2 j h2)
    have hp5 := (hk5.2 _ (by omega)).trans hp3
    have hm5 := (hk5.2 _ (by omega)).trans hm3
    have hx5 := (hk5.2 _ hn3).trans hx3
    have hn5 : t3.next ≤ t5.next := hk5.1
    apply zz
    refine Cd.ra (h := ?_)
    apply Run.by_eq
    · intro self
      conv => lhs; simp -implicitDefEqProofs (maxSteps := 300000) (disch := omega) [-getElem?_pos, -getElem?_neg, g17, g3]
    try (with_reducible refine Run.ret ?_)
    apply zz
    apply Cd.ite rfl
    · conv => lhs; simp -implicitDefEqProofs (maxSteps := 300000) (disch := omega) [-getElem?_pos, -getElem?_neg]
    all_goals intro c4
    all_goals try (cases c4; done)
    all_goals try simp only [Bool.not_eq_true', Bool.not_eq_false', decide_eq_true_eq, decide_eq_false_iff_not] at c4
    all_goals apply zz
    apply zz
    refine Cd.ra (h := ?_)
    apply Run.by_eq
    · intro self
      conv => lhs; simp -implicitDefEqProofs (maxSteps := 300000) (disch := omega) [-getElem?_pos, -getElem?_neg, g11]
    try (with_reducible refine Run.ret ?_)
    apply zz
    apply Cd.ite rfl
    · conv => lhs; simp -implicitDefEqProofs (maxSteps := 300000) (disch := omega) [-getElem?_pos, -getElem?_neg]
    all_goals intro c7
    all_goals try (cases c7; done)
    all_goals try simp only [Bool.not_eq_true', Bool.not_eq_false', decide_eq_true_eq, decide_eq_false_iff_not] at c7
    all_goals apply zz
    apply zz
    refine Cd.ra (h := ?_)
    apply Run.by_eq
    · intro self
      conv => lhs; simp -implicitDefEqProofs (maxSteps := 300000) (disch := omega) [-getElem?_pos, -getElem?_neg, g9, g14, hx5]
    try (with_reducible refine Run.ret ?_)
    apply zz
    refine Run.call ((refVerify_ev u _ _ fs L _ (hw3.keep hk5) hO5.bal hl (by omega)).mono fun r6 t6 hv => ?_)
    obtain ⟨rfl, k6⟩ := hv
    have k6a := k6.1
    have k6b := k6.2
    rw [hvL]
    obtain ⟨bL, oL, obL, csL, ggL, rfl, hbL, hoL, hcL, htL⟩ := BalAt.at ((hL3.keep hk5).keep k6) hkm
    unfold Mass.cs at htL
    have hEq : aggEq TT 36 #[.int .i64 m.a, .int .i64 m.b, .int .i64 m.c, .int .i64 m.d] #[.int .i64 m.a, .int .i64 m.b, .int .i64 m.c, .int .i64 m.d] = some (decide (m = m)) := aggEqW unA36 ceA36 hm64 hm64
    rw [decide_eq_true rfl] at hEq
    have veL : veq 5 (Value.slice (some ⟨bL, oL, none⟩) L.length cL) (Value.slice (some ⟨bL, oL, none⟩) L.length cL) = true := veq_slice _ _ _ _ _
    have hm6 := (k6b _ (by omega)).trans hm5
    have hk0 : ¬ ((k : Int) < 0) := by omega
    have hkL : ¬ ((L.length : Int) ≤ k) := by omega
    apply Run.by_eq
    · intro self
      conv => lhs; simp -implicitDefEqProofs (maxSteps := 300000) (disch := omega) [-getElem?_pos, -getElem?_neg]
    try (with_reducible refine Run.ret ?_)
    apply zz
    refine Cd.drawnH (pl := [(0, 0, false, false), (1, 1, false, false), (2, 3, false, false), (3, 7, false, false), (4, 15, false, false), (5, 31, false, false), (6, 63, false, false), (7, 127, false, false), (8, 127, false, false), (9, 383, false, false), (10, 1023, false, false), (11, 2047, false, false), (12, 4095, false, false), (13, 8191, false, false), (14, 8191, false, false), (15, 32767, false, false), (16, 65535, false, false), (17, 8191, false, false), (18, 262143, false, false), (19, 524287, false, false)]) [false, false, false, false, false, false, false, false, false, false, false, false, false, false, false, false, false, false, false, false] (by kernel_rfl) (by decide) (by decide) (by conv => lhs; simp only [List.map_cons, List.map_nil]) (by conv => lhs; simp [strip, orderedG, flagH]) ?_
    apply Run.by_eq
    · intro self
      conv => lhs; simp -implicitDefEqProofs (maxSteps := 300000) (disch := omega) [-getElem?_pos, -getElem?_neg, g1, g6, g10, hk0, hkL, hkl, hoL, hcL, htL, hm6, veL, hEq]
    try (with_reducible refine Run.ret ?_)
    apply zz
    apply Cd.ite rfl
    · conv => lhs; simp -implicitDefEqProofs (maxSteps := 300000) (disch := omega) [-getElem?_pos, -getElem?_neg]
    all_goals intro c8
    all_goals try (cases c8; done)
    all_goals try simp only [Bool.not_eq_true', Bool.not_eq_false', decide_eq_true_eq, decide_eq_false_iff_not] at c8
    all_goals apply zz
    have hp7 := (k6b _ (by omega)).trans hp5
    have hx7 := (k6b _ (by omega)).trans hx5
    apply zz
    refine Cd.ra (h := ?_)
    apply Run.by_eq
    · intro self
      conv => lhs; simp -implicitDefEqProofs (maxSteps := 300000) (disch := omega) [-getElem?_pos, -getElem?_neg, g4, g3, hp7]
    try (with_reducible refine Run.ret ?_)
    apply zz
    refine Run.call ((verify_ev u _ _ fs bs _ ((hf3.keep hk5).keep k6) ((hb3.keep hk5).keep k6) hl hlb).mono fun r8 t8 hv => ?_)
    obtain ⟨rfl, k8⟩ := hv
    have k8a := k8.1
    have k8b := k8.2
    have hx8 := (k8b _ (by omega)).trans hx7
    apply Run.by_eq
    · intro self
      conv => lhs; simp -implicitDefEqProofs (maxSteps := 300000) (disch := omega) [-getElem?_pos, -getElem?_neg]
    try (with_reducible refine Run.ret ?_)
    apply zz
    refine Cd.ra (h := ?_)
    apply Run.by_eq
    · intro self
      conv => lhs; simp -implicitDefEqProofs (maxSteps := 300000) (disch := omega) [-getElem?_pos, -getElem?_neg, g9, g15, hx8]
    try (with_reducible refine Run.ret ?_)
    apply zz
    refine Run.call ((refVerify_ev u _ _ fs bs _ (((hw3.keep hk5).keep k6).keep k8) ((hO2.bal.keep k6).keep k8) hl hlb).mono fun r9 t9 hv => ?_)
    obtain ⟨rfl, k9⟩ := hv
    generalize verE u fs bs = ve
    obtain ⟨va, ve⟩ := ve
    apply Run.by_eq
    · intro self
      conv => lhs; simp -implicitDefEqProofs (maxSteps := 300000) (disch := omega) [-getElem?_pos, -getElem?_neg]
    try (with_reducible refine Run.ret ?_)
    apply zz
    refine Cd.ra (h := ?_)
    apply Run.by_eq
    · intro self
      conv => lhs; simp -implicitDefEqProofs (maxSteps := 300000) (disch := omega) [-getElem?_pos, -getElem?_neg]
    try (with_reducible refine Run.ret ?_)
    apply zz
    refine Run.call (Ev.stub rfl ?_)
    apply Run.by_eq
    · intro self
      conv => lhs; simp -implicitDefEqProofs (maxSteps := 300000) (disch := omega) [-getElem?_pos, -getElem?_neg]
    try (with_reducible refine Run.ret ?_)
    apply zz
    apply Leave.mk (by first | exact .inl rfl | exact .inr rfl) (by simp only [Fr.marks_put, fr0_marks, hm])
    · conv => lhs; simp -implicitDefEqProofs (disch := omega) [Try.results5, hm]
    rfl
  case neg =>
    have hL00 : ¬ (0 < (L.length : Int)) := by rw [hL0 hE0]; simp
    apply zz
    refine Cd.ra (h := ?_)
    apply Run.by_eq
    · intro self
      conv => lhs; simp -implicitDefEqProofs (maxSteps := 300000) (disch := omega) [-getElem?_pos, -getElem?_neg, hE0]
    try (with_reducible refine Run.ret ?_)
    apply zz
    apply Cd.ite rfl
    · conv => lhs; simp -implicitDefEqProofs (maxSteps := 300000) (disch := omega) [-getElem?_pos, -getElem?_neg]
    all_goals intro c2
    all_goals try (cases c2; done)
    all_goals try simp only [Bool.not_eq_true', Bool.not_eq_false', decide_eq_true_eq, decide_eq_false_iff_not] at c2
    all_goals apply zz
    · exact absurd c2 (by simp [hL0 hE0])
    apply zz
    refine Cd.ra (h := ?_)
    apply Run.by_eq
    · intro self
      conv => lhs; simp -implicitDefEqProofs (maxSteps := 300000) (disch := omega) [-getElem?_pos, -getElem?_neg]
    try (with_reducible refine Run.ret ?_)
    apply zz
    refine Cd.ra (h := ?_)
    apply Run.by_eq
    · intro self
      conv => lhs; simp -implicitDefEqProofs (maxSteps := 300000) (disch := omega) [-getElem?_pos, -getElem?_neg]
    try (with_reducible refine Run.ret ?_)
    apply zz
    refine Cd.inv (fun z f s' => ∃ i : Nat, i ≤ L.length ∧ z = L.length - i ∧ f.marks = [] ∧ f.get 16 = .int .i64 i ∧ f.get 1 = .int .i64 fl ∧ f.get 3 = .slice ab bs.length cb ∧ f.get 4 = .pointer (some ⟨s.next, 0, none⟩) ∧ f.get 6 = .pointer (some ⟨s.next + 1, 0, none⟩) ∧ f.get 9 = .pointer (some ⟨t2.next, 0, none⟩) ∧ f.get 10 = .slice aL L.length cL ∧ f.get 11 = .int .i64 E ∧ f.get 15 = .slice none 0 0 ∧ Keep t3 s' ∧ OwnG 4 t3.next s' (f.get 14) ((L.take i).map Mass.cs)) L.length ?_ ?_
    · exact ⟨0, by omega, rfl, by simp, by simp, by simp, by simp, by simp, by simp, by simp, by simp, by simp, by simp, Keep.refl _, .inl ⟨rfl, by simp⟩⟩
    rintro z f4 t4 ⟨i, hi, rfl, hm, g16, g1, g3, g4, g6, g9, g10, g11, g15, hk4, hO⟩
    have hk4a := hk4.1
    have hk4b := hk4.2
    by_cases hil : i < L.length
    · obtain ⟨x, hx⟩ : ∃ x, L[i]? = some x := ⟨L[i], by simp [hil]⟩
      have hfl := bal_flat L i hi
      have htk : (L.take (i + 1)).map Mass.cs = (L.take i).map Mass.cs ++ [x.cs] := by rw [List.take_add_one, hx]; simp
      have hli : ((L.take i).map Mass.cs).length = i := by simp; omega
      obtain ⟨b, off, o, cs, gg, rfl, hbb, ho, hc, ht⟩ := BalAt.at (hL3.keep hk4) hx
      unfold Mass.cs at ht
      apply zz
      refine Cd.ra (h := ?_)
      apply Run.by_eq
      · intro self
        conv => lhs; simp -implicitDefEqProofs (maxSteps := 300000) (disch := omega) [-getElem?_pos, -getElem?_neg, g16, g10]
      try (with_reducible refine Run.ret ?_)
      apply zz
      apply Cd.ite rfl
      · conv => lhs; simp -implicitDefEqProofs (maxSteps := 300000) (disch := omega) [-getElem?_pos, -getElem?_neg]
      all_goals intro c3
      all_goals try (cases c3; done)
      all_goals try simp only [Bool.not_eq_true', Bool.not_eq_false', decide_eq_true_eq, decide_eq_false_iff_not] at c3
      all_goals apply zz
      · rcases hO with ⟨hl0, hw0⟩ | ⟨bu, hw0, hne0, hb1, hb2, hb3'⟩
        · have hi0 : i = 0 := by rw [← hli, hl0]; rfl
          subst hi0
          simp only [Nat.zero_mul, Nat.add_zero] at ht
          apply zz
          refine Cd.ra (h := ?_)
          apply Run.by_eq
          · intro self
            conv => lhs; simp -implicitDefEqProofs (maxSteps := 300000) (disch := omega) [-getElem?_pos, -getElem?_neg, g16, g10, ho, hc, ht, hil, hw0]
          try (with_reducible refine Run.ret ?_)
          apply zz
          refine Cd.ra (h := ?_)
          apply Run.by_eq
          · intro self
            conv => lhs; simp -implicitDefEqProofs (maxSteps := 300000) (disch := omega) [-getElem?_pos, -getElem?_neg, g16]
          try (with_reducible refine Run.ret ?_)
          apply zz
          refine LoopK.nm (L.length - (0 + 1)) (by omega) ⟨0 + 1, by omega, rfl, by simp [hm], by simp, by simp [g1], by simp [g3], by simp [g4], by simp [g6], by simp [g9], by simp [g10], by simp [g11], by simp [g15], ⟨by (try simp only [pushed_next', upded_next']); omega, fun i hi => by simp -implicitDefEqProofs (disch := omega) [hk4b]⟩, ?_⟩
          rw [htk, hl0]
          exact .inr ⟨t4.next + 1, by simp, by simp, by omega, by simp, by simp -implicitDefEqProofs (disch := omega) [Mass.cs]⟩
        · rw [hli] at hw0
          apply zz
          refine Cd.ra (h := ?_)
          apply Run.by_eq
          · intro self
            conv => lhs; simp -implicitDefEqProofs (maxSteps := 300000) (disch := omega) [-getElem?_pos, -getElem?_neg, g16, g10, ho, hc, ht, hil, hw0]
          try (with_reducible refine Run.ret ?_)
          apply zz
          apply Run.by_eq
          · intro self
            rw [appV_moreE (size := 4) (n := i) (old := ((L.take i).map Mass.cs).flatten) ?happ3 hfl (by omega)]
            simp -implicitDefEqProofs (disch := omega) [hb3']
          apply Run.by_eq
          · intro self
            conv => lhs; simp -implicitDefEqProofs (maxSteps := 300000) (disch := omega) [-getElem?_pos, -getElem?_neg, hb3']
          try (with_reducible refine Run.ret ?_)
          apply zz
          refine Cd.ra (h := ?_)
          apply Run.by_eq
          · intro self
            conv => lhs; simp -implicitDefEqProofs (maxSteps := 300000) (disch := omega) [-getElem?_pos, -getElem?_neg, g16]
          try (with_reducible refine Run.ret ?_)
          apply zz
          refine LoopK.nm (L.length - (i + 1)) (by omega) ⟨i + 1, by omega, rfl, by simp [hm], by simp, by simp [g1], by simp [g3], by simp [g4], by simp [g6], by simp [g9], by simp [g10], by simp [g11], by simp [g15], ⟨by (try simp only [pushed_next', upded_next']); omega, fun i hi => by simp -implicitDefEqProofs (disch := omega) [hk4b]⟩, ?_⟩
          rw [htk]
          refine .inr ⟨t4.next + 1, ?_, by simp, by omega, by simp, by simp -implicitDefEqProofs (disch := omega) [Mass.cs]⟩
          rw [List.length_append, hli]; simp
      · simp at c3; omega
    obtain rfl : i = L.length := by omega
    rw [List.take_length] at hO
    obtain ⟨w14, g14⟩ : ∃ w14, f4.get 14 = w14 := ⟨_, rfl⟩
    rw [g14] at hO
    apply zz
    refine Cd.ra (h := ?_)
    apply Run.by_eq
    · intro self
      conv => lhs; simp -implicitDefEqProofs (maxSteps := 300000) (disch := omega) [-getElem?_pos, -getElem?_neg, g16, g10]
    try (with_reducible refine Run.ret ?_)
    apply zz
    apply Cd.ite rfl
    · conv => lhs; simp -implicitDefEqProofs (maxSteps := 300000) (disch := omega) [-getElem?_pos, -getElem?_neg]
    all_goals intro c3
    all_goals try (cases c3; done)
    all_goals try simp only [Bool.not_eq_true', Bool.not_eq_false', decide_eq_true_eq, decide_eq_false_iff_not] at c3
    all_goals apply zz
    apply zz
    refine Cd.ra (h := ?_)
    apply Run.by_eq
    · intro self
      conv => lhs; simp -implicitDefEqProofs (maxSteps := 300000) (disch := omega) [-getElem?_pos, -getElem?_neg]
    try (with_reducible refine Run.ret ?_)
    apply zz
    refine Cd.inv (fun z f s' => ∃ i : Nat, i ≤ bs.length ∧ z = bs.length - i ∧ f.marks = [] ∧ f.get 17 = .int .i64 i ∧ f.get 1 = .int .i64 fl ∧ f.get 3 = .slice ab bs.length cb ∧ f.get 4 = .pointer (some ⟨s.next, 0, none⟩) ∧ f.get 6 = .pointer (some ⟨s.next + 1, 0, none⟩) ∧ f.get 9 = .pointer (some ⟨t2.next, 0, none⟩) ∧ f.get 10 = .slice aL L.length cL ∧ f.get 11 = .int .i64 E ∧ f.get 14 = w14 ∧ Keep t4 s' ∧ OwnG 4 t4.next s' (f.get 15) ((bs.take i).map Mass.cs)) bs.length ?_ ?_
    · exact ⟨0, by omega, rfl, by simp [hm], by simp, by simp [g1], by simp [g3], by simp [g4], by simp [g6], by simp [g9], by simp [g10], by simp [g11], by simp [g14], Keep.refl _, .inl ⟨rfl, by simp [g15]⟩⟩
    clear hm g16 g1 g3 g4 g6 g9 g10 g11 g15 g14
    rintro z f5 t5 ⟨i, hi, rfl, hm, g17, g1, g3, g4, g6, g9, g10, g11, g14, hk5', hO2⟩
    have hk5a' := hk5'.1
    have hk5b' := hk5'.2
    by_cases hil : i < bs.length
    · obtain ⟨x, hx⟩ : ∃ x, bs[i]? = some x := ⟨bs[i], by simp [hil]⟩
      have hfl := bal_flat bs i hi
      have htk : (bs.take (i + 1)).map Mass.cs = (bs.take i).map Mass.cs ++ [x.cs] := by rw [List.take_add_one, hx]; simp
      have hli : ((bs.take i).map Mass.cs).length = i := by simp; omega
      obtain ⟨b, off, o, cs, gg, rfl, hbb, ho, hc, ht⟩ := BalAt.at ((hb3.keep hk4).keep hk5') hx
      unfold Mass.cs at ht
      apply zz
      refine Cd.ra (h := ?_)
      apply Run.by_eq
      · intro self
        conv => lhs; simp -implicitDefEqProofs (maxSteps := 300000) (disch := omega) [-getElem?_pos, -getElem?_neg, g17, g3]
      try (with_reducible refine Run.ret ?_)
      apply zz
      apply Cd.ite rfl
      · conv => lhs; simp -implicitDefEqProofs (maxSteps := 300000) (disch := omega) [-getElem?_pos, -getElem?_neg]
      all_goals intro c4
      all_goals try (cases c4; done)
      all_goals try simp only [Bool.not_eq_true', Bool.not_eq_false', decide_eq_true_eq, decide_eq_false_iff_not] at c4
      all_goals apply zz
      · rcases hO2 with ⟨hl0, hw0⟩ | ⟨bu, hw0, hne0, hb1, hb2, hb3'⟩
        · have hi0 : i = 0 := by rw [← hli, hl0]; rfl
          subst hi0
          simp only [Nat.zero_mul, Nat.add_zero] at ht
          apply zz
          refine Cd.ra (h := ?_)
          apply Run.by_eq
          · intro self
            conv => lhs; simp -implicitDefEqProofs (maxSteps := 300000) (disch := omega) [-getElem?_pos, -getElem?_neg, g17, g3, ho, hc, ht, hil, hw0]
          try (with_reducible refine Run.ret ?_)
          apply zz
          refine Cd.ra (h := ?_)
          apply Run.by_eq
          · intro self
            conv => lhs; simp -implicitDefEqProofs (maxSteps := 300000) (disch := omega) [-getElem?_pos, -getElem?_neg, g17]
          try (with_reducible refine Run.ret ?_)
          apply zz
          refine LoopK.nm (bs.length - (0 + 1)) (by omega) ⟨0 + 1, by omega, rfl, by simp [hm], by simp, by simp [g1], by simp [g3], by simp [g4], by simp [g6], by simp [g9], by simp [g10], by simp [g11], by simp [g14], ⟨by (try simp only [pushed_next', upded_next']); omega, fun i hi => by simp -implicitDefEqProofs (disch := omega) [hk5b']⟩, ?_⟩
          rw [htk, hl0]
          exact .inr ⟨t5.next + 1, by simp, by simp, by omega, by simp, by simp -implicitDefEqProofs (disch := omega) [Mass.cs]⟩
        · rw [hli] at hw0
          apply zz
          refine Cd.ra (h := ?_)
          apply Run.by_eq
          · intro self
            conv => lhs; simp -implicitDefEqProofs (maxSteps := 300000) (disch := omega) [-getElem?_pos, -getElem?_neg, g17, g3, ho, hc, ht, hil, hw0]
          try (with_reducible refine Run.ret ?_)
          apply zz
          apply Run.by_eq
          · intro self
            rw [appV_moreE (size := 4) (n := i) (old := ((bs.take i).map Mass.cs).flatten) ?happ4 hfl (by omega)]
            simp -implicitDefEqProofs (disch := omega) [hb3']
          apply Run.by_eq
          · intro self
            conv => lhs; simp -implicitDefEqProofs (maxSteps := 300000) (disch := omega) [-getElem?_pos, -getElem?_neg, hb3']
          try (with_reducible refine Run.ret ?_)
          apply zz
          refine Cd.ra (h := ?_)
          apply Run.by_eq
          · intro self
            conv => lhs; simp -implicitDefEqProofs (maxSteps := 300000) (disch := omega) [-getElem?_pos, -getElem?_neg, g17]
          try (with_reducible refine Run.ret ?_)
          apply zz
          refine LoopK.nm (bs.length - (i + 1)) (by omega) ⟨i + 1, by omega, rfl, by simp [hm], by simp, by simp [g1], by simp [g3], by simp [g4], by simp [g6], by simp [g9], by simp [g10], by simp [g11], by simp [g14], ⟨by (try simp only [pushed_next', upded_next']); omega, fun i hi => by simp -implicitDefEqProofs (disch := omega) [hk5b']⟩, ?_⟩
          rw [htk]
          refine .inr ⟨t5.next + 1, ?_, by simp, by omega, by simp, by simp -implicitDefEqProofs (disch := omega) [Mass.cs]⟩
          rw [List.length_append, hli]; simp
      · simp at c4; omega
    obtain rfl : i = bs.length := by omega
    rw [List.take_length] at hO2
    obtain ⟨w15, g15⟩ : ∃ w15, f5.get 15 = w15 := ⟨_, rfl⟩
    rw [g15] at hO2
    have hk5 : Keep t3 t5 := hk4.trans hk5'
    have hO5 := hO.held hk5'.1 (fun j _ h2 => hk5'.2 j h2)
    have hp5 := (hk5.2 _ (by omega)).trans hp3
    have hm5 := (hk5.2 _ (by omega)).trans hm3
    have hx5 := (hk5.2 _ hn3).trans hx3
    have hn5 : t3.next ≤ t5.next := hk5.1
    apply zz
    refine Cd.ra (h := ?_)
    apply Run.by_eq
    · intro self
      conv => lhs; simp -implicitDefEqProofs (maxSteps := 300000) (disch := omega) [-getElem?_pos, -getElem?_neg, g17, g3]
    try (with_reducible refine Run.ret ?_)
    apply zz
    apply Cd.ite rfl
    · conv => lhs; simp -implicitDefEqProofs (maxSteps := 300000) (disch := omega) [-getElem?_pos, -getElem?_neg]
    all_goals intro c4
    all_goals try (cases c4; done)
    all_goals try simp only [Bool.not_eq_true', Bool.not_eq_false', decide_eq_true_eq, decide_eq_false_iff_not] at c4
    all_goals apply zz
    apply zz
    refine Cd.ra (h := ?_)
    apply Run.by_eq
    · intro self
      conv => lhs; simp -implicitDefEqProofs (maxSteps := 300000) (disch := omega) [-getElem?_pos, -getElem?_neg, g11, hE0]
    try (with_reducible refine Run.ret ?_)
    apply zz
    apply Cd.ite rfl
    · conv => lhs; simp -implicitDefEqProofs (maxSteps := 300000) (disch := omega) [-getElem?_pos, -getElem?_neg]
    all_goals intro c7
    all_goals try (cases c7; done)
    all_goals try simp only [Bool.not_eq_true', Bool.not_eq_false', decide_eq_true_eq, decide_eq_false_iff_not] at c7
    all_goals apply zz
    have hp7 := hp5
    have hx7 := hx5
    apply zz
    refine Cd.ra (h := ?_)
    apply Run.by_eq
    · intro self
      conv => lhs; simp -implicitDefEqProofs (maxSteps := 300000) (disch := omega) [-getElem?_pos, -getElem?_neg, g4, g3, hp7]
    try (with_reducible refine Run.ret ?_)
    apply zz
    refine Run.call ((verify_ev u _ _ fs bs _ ((hf3.keep hk5)) ((hb3.keep hk5)) hl hlb).mono fun r8 t8 hv => ?_)
    obtain ⟨rfl, k8⟩ := hv
    have k8a := k8.1
    have k8b := k8.2
    have hx8 := (k8b _ (by omega)).trans hx7
    apply Run.by_eq
    · intro self
      conv => lhs; simp -implicitDefEqProofs (maxSteps := 300000) (disch := omega) [-getElem?_pos, -getElem?_neg]
    try (with_reducible refine Run.ret ?_)
    apply zz
    refine Cd.ra (h := ?_)
    apply Run.by_eq
    · intro self
      conv => lhs; simp -implicitDefEqProofs (maxSteps := 300000) (disch := omega) [-getElem?_pos, -getElem?_neg, g9, g15, hx8]
    try (with_reducible refine Run.ret ?_)
    apply zz
    refine Run.call ((refVerify_ev u _ _ fs bs _ (((hw3.keep hk5)).keep k8) ((hO2.bal).keep k8) hl hlb).mono fun r9 t9 hv => ?_)
    obtain ⟨rfl, k9⟩ := hv
    generalize verE u fs bs = ve
    obtain ⟨va, ve⟩ := ve
    apply Run.by_eq
    · intro self
      conv => lhs; simp -implicitDefEqProofs (maxSteps := 300000) (disch := omega) [-getElem?_pos, -getElem?_neg]
    try (with_reducible refine Run.ret ?_)
    apply zz
    refine Cd.ra (h := ?_)
    apply Run.by_eq
    · intro self
      conv => lhs; simp -implicitDefEqProofs (maxSteps := 300000) (disch := omega) [-getElem?_pos, -getElem?_neg]
    try (with_reducible refine Run.ret ?_)
    apply zz
    refine Run.call (Ev.stub rfl ?_)
    apply Run.by_eq
    · intro self
      conv => lhs; simp -implicitDefEqProofs (maxSteps := 300000) (disch := omega) [-getElem?_pos, -getElem?_neg]
    try (with_reducible refine Run.ret ?_)
    apply zz
    apply Leave.mk (by first | exact .inl rfl | exact .inr rfl) (by simp only [Fr.marks_put, fr0_marks, hm])
    · conv => lhs; simp -implicitDefEqProofs (disch := omega) [Try.results5, hm]
    rfl
end Go.Proofs.Ytifkpaomhnlahaa
namespace Go.Proofs.Ytifkpaomhnlahaa
open Go RowKit
theorem fitsW : Kern.tabFits Try.prog = true := by kernel_rfl
theorem works_true : Kern.isTrue ((Kern.run (Kern.tabOf Try.prog) 30000).call 13 [] ⟨.leaf, 0⟩) = true := by kernel_rfl
theorem works_calls (w : World) : Calls Try.prog 13 #[] w fun e w' => e = .returned (.bool true) ∧ Below w.heap.size w w' :=
  Kern.calls_of_run (Kern.tabOf_ok fitsW) rfl (Kern.StubOk.none rfl) works_true w
end Go.Proofs.Ytifkpaomhnlahaa
namespace Go.Proofs.Ytifkpaomhnlahaa
open Go Kern RowKit
/-- A slice of the world whose elements are known, cell by cell. -/
def SlW (W : World) (n : Nat) (v : Value) (l : List (List Value)) : Prop :=
  (l = [] ∧ v = .slice none 0 0) ∨ ∃ (b off cap : Nat) (C : Array Value) (e : TypeId) (fr : Nat × Nat), v = .slice (some ⟨b, off, none⟩) l.length cap ∧ W.heap[b]? = some (.cells C e fr) ∧
    (l ≠ [] → off + l.flatten.length ≤ C.size ∧ (C.toList.drop off).take l.flatten.length = l.flatten)
theorem romAt_pushed {s : St} {o : AObj} {i : Nat} (h : i ≠ s.next) : romAt (s.pushed o).heap i = romAt s.heap i := by
  unfold romAt; rw [get_pushed_old _ _ _ h]
theorem WRel_rom {N : Nat} {σ : Ren} {s : St} {w : World} (hw : WRel N σ s w) {b sh : Nat} {c : List Value} {C : Array Value} {e : TypeId} {fr : Nat × Nat} (hb : w.heap[b]? = some (.cells C e fr)) (hN : b < N) (hs : sh + c.length ≤ C.size)
    (h : LRel σ c ((C.toList.drop sh).take c.length)) : WRel N (σ.add s.next b sh none) (s.pushed (.rom c)) w := by
  have hle := Ren.le_add (b := b) (sh := sh) (x := none) (hw.fresh (Nat.le_refl s.next))
  have hlt : b < w.heap.size := (Array.getElem?_eq_some_iff.1 hb).1
  refine ⟨hw.base, ?_, ?_, ?_, ?_⟩
  · intro i b' sh' x' hi
    by_cases ei : i = s.next
    · subst ei
      rw [Ren.add_same] at hi; cases hi
      have : romAt (s.pushed (.rom c)).heap s.next = true := by unfold romAt; rw [get_pushed_new]; rfl
      exact ⟨⟨fun k => (by rw [this] at k; cases k), fun _ => hN⟩, hlt⟩
    · rw [Ren.add_ne ei] at hi
      rw [romAt_pushed ei]
      exact hw.lt hi
  · intro i hi
    rw [Ren.add_ne (by have : s.next + 1 ≤ i := hi; omega)]
    exact hw.fresh (by have : s.next + 1 ≤ i := hi; omega)
  · intro i b' sh' x' o hi ho
    by_cases ei : i = s.next
    · subst ei
      rw [Ren.add_same] at hi; cases hi
      rw [get_pushed_new] at ho; cases ho
      exact ⟨_, hb, .rom rfl hs (h.mono hle)⟩
    · rw [Ren.add_ne ei] at hi
      rw [get_pushed_old _ _ _ ei] at ho
      obtain ⟨O, h1, h2⟩ := hw.real hi ho
      exact ⟨O, h1, h2.mono hle⟩
  · intro i j b' sh1 x1 sh2 x2 o1 o2 hi hj h1 h2 d1 d2 hr
    by_cases ei : i = s.next
    · subst ei
      rw [get_pushed_new] at h1; cases h1; cases hr
    · rw [Ren.add_ne ei] at hi
      rw [get_pushed_old _ _ _ ei] at h1
      by_cases ej : j = s.next
      · subst ej
        rw [Ren.add_same] at hj; cases hj
        have : romAt s.heap i = false := by unfold romAt; rw [h1]; exact hr
        exact absurd ((hw.lt hi).1.1 this) (by omega)
      · rw [Ren.add_ne ej] at hj
        rw [get_pushed_old _ _ _ ej] at h2
        exact hw.inj hi hj h1 h2 d1 d2 hr
/-- A slice of the world gets a read-only block of the calculation. -/
theorem attach {N : Nat} {σ : Ren} {s : St} {w : World} (hw : WRel N σ s w) (hN : N = w.heap.size) {n : Nat} {v : Value} {l : List (List Value)} (h : SlW w n v l) (hl : ∀ x ∈ l, x.length = n) (hc : l.flatten.all closed1 = true) :
    ∃ τ s' v', σ.le τ ∧ WRel N τ s' w ∧ VRel τ v' v ∧ SlAt n s' v' l ∧ Keep s s' := by
  rcases h with ⟨rfl, rfl⟩ | ⟨b, off, cap, C, e, fr, rfl, hb, hf⟩
  · exact ⟨σ, s, .slice none 0 0, σ.le_refl, hw, .sliceNil _ _, .nil 0, Keep.refl _⟩
  have hlt : b < w.heap.size := (Array.getElem?_eq_some_iff.1 hb).1
  by_cases he : l = []
  · subst he
    have hw2 := WRel_rom hw (sh := 0) (c := []) hb (by omega) (by simp) (by simpa using LRel.nil)
    refine ⟨_, _, .slice (some ⟨s.next, off, none⟩) 0 cap, Ren.le_add (hw.fresh (Nat.le_refl _)), hw2, ?_, ?_, (Keep.refl s).pushed _⟩
    · have := VRel.slice (σ := σ.add s.next b 0 none) (i := s.next) (o := off) (o' := off) (b := b) (s := 0) (l := 0) (c := cap) (c' := cap) (x := none) Ren.add_same ⟨rfl, rfl⟩
      rw [Nat.zero_add] at this
      exact this
    · exact SlAt.mk (l := []) (Nat.lt_succ_self _) (get_pushed_new _ _) rfl (fun i e h => by simp at h)
  · obtain ⟨h1, h2⟩ := hf he
    have hw2 := WRel_rom hw (sh := off) (c := l.flatten) hb (by omega) h1 (by rw [h2]; exact closedL_rel hc)
    refine ⟨_, _, .slice (some ⟨s.next, 0, none⟩) l.length cap, Ren.le_add (hw.fresh (Nat.le_refl _)), hw2, ?_, ?_, (Keep.refl s).pushed _⟩
    · exact VRel.slice (σ := σ.add s.next b off none) (i := s.next) (o := 0) (o' := 0) (b := b) (s := off) (l := l.length) (c := cap) (c' := cap) (x := none) Ren.add_same ⟨rfl, rfl⟩
    · exact SlAt.mk (Nat.lt_succ_self _) (get_pushed_new _ _) rfl (fun i e h => by rw [Nat.zero_add]; exact drop_flat hl h)
theorem stubOk : StubOk Try.prog TT :=
  ⟨fun {g} h => by cases h; exact ⟨Try.f13, by kernel_rfl, by kernel_rfl, rfl⟩, fun {g} h w => by cases h; exact works_calls w⟩
/-- What the calculation finds true holds of the call in the world. -/
theorem calls_of_ev {g : FuncId} {args : List Value} {s : St} (h : Ev TT g args s fun r _ => r = .bool true) {N : Nat} {σ : Ren} {w : World} (hw : WRel N σ s w) (hN : N = w.heap.size) {args' : Array Value} (ha : LRel σ args args'.toList) :
    Calls Try.prog g args' w fun e w' => e = .returned (.bool true) ∧ Below w.heap.size w w' := by
  obtain ⟨m, ⟨v, s'⟩, h1, h2⟩ := h
  have h2' : v = .bool true := h2
  subst h2'
  refine ((run_ok tabOk rfl stubOk m).call (h1 m (Nat.le_refl _)) hw ha).mono fun e w' he => ?_
  obtain ⟨τ, v', rfl, hx, _, hv⟩ := he
  rw [hv.of_bool]
  exact ⟨rfl, hN ▸ hx.below⟩
end Go.Proofs.Ytifkpaomhnlahaa
namespace Go.Proofs.Ytifkpaomhnlahaa
open Go Kern RowKit Go.ChangeShapes Go.WideShapes Go.ChangeAt
open Go.ChangeMaps (open_string)
theorem take_eq_of {α : Type} {L cs : List α} {k n : Nat} (hl : cs.length = n) (h : ∀ j, j < n → L[k + j]? = cs[j]?) : (L.drop k).take n = cs := by
  apply List.ext_getElem?
  intro j
  rw [List.getElem?_take, List.getElem?_drop]
  by_cases hj : j < n
  · rw [if_pos hj]; exact h j hj
  · rw [if_neg hj, List.getElem?_eq_none (by omega)]
theorem rows_flat {α : Type} {L : List α} {k n : Nat} (g : Nat → List α) : ∀ {len : Nat}, (∀ i, i < len → (L.drop (k + i * n)).take n = g i) → ((List.range len).map g).flatten = (L.drop k).take (len * n)
  | 0, _ => by simp
  | len + 1, h => by
    rw [List.range_succ, List.map_append, List.flatten_append, rows_flat g (fun i hi => h i (by omega)), List.map_cons, List.map_nil, List.flatten_cons, List.flatten_nil, List.append_nil, ← h len (by omega),
      Nat.add_mul, Nat.one_mul, List.take_add, List.drop_drop]
/-- A slice that the row reads, as a list of its elements' cells. -/
theorem slW_of {H : Type} {enc : TypeId × Value → H} {P : Program} {W : World} {t e : TypeId} {n fuel : Nat} {v : Value} {x : DataW H × List MemPlace} (ht : P.underlying t = some (.slice e)) (hn : P.cellsOf e = n) (hn0 : 0 < n)
    (hok : Cell.ok P W .any 0 t v) (h : DataW.trod enc P W 0 (fun _ => true) true fuel t [v] = some x) :
    ∃ l, SlW W n v l ∧ (∀ y ∈ l, y.length = n) ∧ ∀ y ∈ l, ∃ m z, DataW.trod enc P W 0 (fun _ => true) true m e y = some z := by
  rcases Go.Deep.open_slice ht h with ⟨hcs, _⟩ | ⟨a, len, cap, m, q, D, Pl, hcs, _, hlc, _, hm, _, hel⟩
  · simp at hcs; subst hcs
    exact ⟨[], .inl ⟨rfl, rfl⟩, by simp, by simp⟩
  · simp at hcs; subst hcs
    simp only [Cell.ok, ht] at hok
    obtain ⟨_, _, _, hsp, row, cells, hsh, _⟩ := hok
    obtain ⟨b, off, spot⟩ := a
    simp only at hsp; subst hsp
    obtain ⟨C, E, fr, hb⟩ : ∃ C E fr, W.heap[b]? = some (.cells C E fr) := by
      unfold World.shape? at hsh
      simp only at hsh
      split at hsh
      · rename_i c el fr hh; exact ⟨c, el, fr, hh⟩
      all_goals cases hsh
    rw [hn] at hel
    simp at hm; subst hm
    have hrow : ∀ i, i < len → ∃ cs', cs'.length = n ∧ (∀ j, j < n → C.toList[off + i * n + j]? = cs'[j]?) ∧ ∃ z, DataW.trod enc P W 0 (fun _ => true) true q e cs' = some z := fun i hi => by
      obtain ⟨cs', h1, h2⟩ := hel i (by omega)
      obtain ⟨_, h3, h4⟩ := World.cells?_some h1
      refine ⟨cs', h3, fun j hj => ?_, _, h2⟩
      have := h4 j hj
      rw [addr_add, addr_add] at this
      simp only [World.cell?, hb] at this
      simpa using this
    have hg : ∀ i, i < len → ((C.toList.drop (off + i * n)).take n).length = n ∧ ∃ z, DataW.trod enc P W 0 (fun _ => true) true q e ((C.toList.drop (off + i * n)).take n) = some z := fun i hi => by
      obtain ⟨cs', h1, h2, z, h3⟩ := hrow i hi
      rw [take_eq_of h1 h2]
      exact ⟨h1, z, h3⟩
    have hfl := rows_flat (L := C.toList) (k := off) (n := n) (len := len) (fun i => (C.toList.drop (off + i * n)).take n) fun _ _ => rfl
    refine ⟨(List.range len).map fun i => (C.toList.drop (off + i * n)).take n, .inr ⟨b, off, m, C, E, fr, by simp, hb, fun hne => ?_⟩, fun y hy => ?_, fun y hy => ?_⟩
    · rw [hfl]
      have hlen : 0 < len := by
        rcases Nat.eq_zero_or_pos len with h | h
        · subst h; simp at hne
        · exact h
      obtain ⟨cs', h1, h2, _⟩ := hrow (len - 1) (by omega)
      have h3 := h2 (n - 1) (by omega)
      rw [List.getElem?_eq_getElem (l := cs') (by omega)] at h3
      have h4 := (List.getElem?_eq_some_iff.1 h3).1
      have h5 : len * n = (len - 1) * n + n := by rw [← Nat.succ_mul]; congr 1; omega
      have h6 : off + len * n ≤ C.size := by simp at h4; omega
      have h7 : ((C.toList.drop off).take (len * n)).length = len * n := by simp; omega
      rw [h7]
      exact ⟨h6, rfl⟩
    · obtain ⟨i, hi, rfl⟩ := List.mem_map.1 hy
      exact (hg i (by simpa using hi)).1
    · obtain ⟨i, hi, rfl⟩ := List.mem_map.1 hy
      obtain ⟨z, hz⟩ := (hg i (by simpa using hi)).2
      exact ⟨_, z, hz⟩
theorem list_of {α β : Type} {g : β → α} : ∀ {l : List α}, (∀ y ∈ l, ∃ f, y = g f) → ∃ fs : List β, l = fs.map g
  | [], _ => ⟨[], rfl⟩
  | y :: r, h => by
    obtain ⟨f, rfl⟩ := h y (.head _)
    obtain ⟨fs, rfl⟩ := list_of (l := r) fun z hz => h z (.tail _ hz)
    exact ⟨f :: fs, rfl⟩
theorem un3 : Try.prog.underlying 3 = some (.int .i64) := by kernel_rfl
theorem ce3 : Try.prog.cellsOf 3 = 1 := by kernel_rfl
theorem un22 : Try.prog.underlying 22 = some (.slice 82) := by kernel_rfl
theorem un24 : ∃ f0 f1 : Field, Try.prog.underlying 24 = some (.struct #[f0, f1]) ∧ f0.type = 3 ∧ f0.offset = 0 ∧ f1.type = 22 ∧ f1.offset = 1 := ⟨_, _, Try.underlying24, rfl, rfl, rfl, rfl⟩
theorem un25 : Try.prog.underlying 25 = some (.slice 3) := by kernel_rfl
theorem un36 : Try.prog.underlying 36 = some (.array 4 3) := by kernel_rfl
theorem un4 : Try.prog.underlying 4 = some .bool := by kernel_rfl
theorem un9 : Try.prog.underlying 9 = some .string := by kernel_rfl
theorem un82 : ∃ f0 f1 f2 f3 : Field, Try.prog.underlying 82 = some (.struct #[f0, f1, f2, f3]) ∧ (f0.type = 3 ∧ f0.offset = 0) ∧ (f1.type = 3 ∧ f1.offset = 1) ∧ (f2.type = 4 ∧ f2.offset = 2) ∧ (f3.type = 36 ∧ f3.offset = 3) := ⟨_, _, _, _, Try.underlying82, ⟨rfl, rfl⟩, ⟨rfl, rfl⟩, ⟨rfl, rfl⟩, rfl, rfl⟩
theorem ce82 : Try.prog.cellsOf 82 = 7 := by kernel_rfl
theorem ce4 : Try.prog.cellsOf 4 = 1 := by kernel_rfl
theorem ce36 : Try.prog.cellsOf 36 = 4 := by kernel_rfl
theorem ce22 : Try.prog.cellsOf 22 = 1 := by kernel_rfl
theorem ce24 : Try.prog.cellsOf 24 = 2 := by kernel_rfl
theorem ct24 : Try.prog.cellTypes Try.prog.depth 24 = some [3, 22] := by kernel_rfl
section
variable {H : Type} {enc : TypeId × Value → H} {W : World}
theorem flow_of {m : Nat} {cs : List Value} {z : DataW H × List MemPlace} (hl : cs.length = 7) (h : DataW.trod enc Try.prog W 0 (fun _ => true) true m 82 cs = some z) : ∃ f : FlowD, cs = f.cs := by
  match cs, hl with
  | [c0, c1, c2, c3, c4, c5, c6], _ =>
    obtain ⟨f0, f1, f2, f3, hu, ⟨t0, o0⟩, ⟨t1, o1⟩, ⟨t2, o2⟩, t3, o3⟩ := un82
    obtain ⟨y0, y1, y2, y3, n, _, _, h0, h1, h2, h3⟩ := Go.Joins.trod_struct4 hu h
    rw [t0, o0, ce3] at h0
    rw [t1, o1, ce3] at h1
    rw [t2, o2, ce4] at h2
    rw [t3, o3, ce36] at h3
    obtain ⟨x0, e0, _, _⟩ := DataW.trod_int un3 h0
    obtain ⟨x1, e1, _, _⟩ := DataW.trod_int un3 h1
    obtain ⟨x2, e2, _⟩ := DataW.trod_bool un4 h2
    obtain ⟨_, _, _, _, n', _, g0, g1, g2, g3⟩ := trod_array4 un36 ce3 h3
    obtain ⟨x3, e3, _, _⟩ := DataW.trod_int un3 g0
    obtain ⟨x4, e4, _, _⟩ := DataW.trod_int un3 g1
    obtain ⟨x5, e5, _, _⟩ := DataW.trod_int un3 g2
    obtain ⟨x6, e6, _, _⟩ := DataW.trod_int un3 g3
    simp at e0 e1 e2 e3 e4 e5 e6
    subst e0 e1 e2 e3 e4 e5 e6
    exact ⟨⟨x0, x1, x2, ⟨x3, x4, x5, x6⟩⟩, rfl⟩
theorem int_of {m : Nat} {cs : List Value} {z : DataW H × List MemPlace} (h : DataW.trod enc Try.prog W 0 (fun _ => true) true m 3 cs = some z) : ∃ x : Int, cs = [Value.int .i64 x] := by
  obtain ⟨x, e, _, _⟩ := DataW.trod_int un3 h
  exact ⟨x, e⟩
set_option maxRecDepth 100000 in
/-- A plant, as the row reads it. -/
theorem plant_of {v : Value} {d : DataW H} {p : List MemPlace} (hv : Value.okWide Try.prog W .any 0 24 v) (h : DataW.Trod enc Try.prog W 0 (fun _ => true) true 24 v d p) :
    ∃ (u : Int) (fl : Value) (fs : List FlowD), v = .agg #[.int .i64 u, fl] ∧ SlW W 7 fl (fs.map FlowD.cs) := by
  obtain ⟨f0, f1, hu, t0, o0, t1, o1⟩ := un24
  have hv' := hv
  simp only [Value.okWide, hu] at hv'
  obtain ⟨cs, rfl, hsz, ts, hts, _, hrow⟩ := hv'
  rw [ct24] at hts; cases hts
  rw [ce24] at hsz
  obtain ⟨fuel, hf⟩ := h
  obtain ⟨l⟩ := cs
  match l, hsz with
  | [c0, c1], _ =>
    obtain ⟨y0, y1, n, _, _, h0, h1⟩ := trod_struct2 hu hf
    rw [t0, o0, ce3] at h0
    rw [t1, o1, ce22] at h1
    obtain ⟨u, e0, _, _⟩ := DataW.trod_int un3 h0
    simp [Value.cells] at e0 h1
    subst e0
    obtain ⟨w, hw, hok⟩ := hrow 1 c1 rfl
    simp at hw; subst hw
    obtain ⟨a, len, cap, rfl⟩ : ∃ a len cap, c1 = .slice a len cap := by
      simp only [Cell.okWide, un22] at hok
      cases c1 <;> simp_all [Cell.ok]
    have hok' : Cell.ok Try.prog W .any 0 22 (.slice a len cap) := by
      simp only [Cell.okWide, un22] at hok; exact hok
    obtain ⟨l, g1, g2, g3⟩ := slW_of un22 ce82 (by omega) hok' h1
    obtain ⟨fs, rfl⟩ := list_of (g := FlowD.cs) fun y hy => by
      obtain ⟨m, z, hz⟩ := g3 y hy
      exact flow_of (g2 y hy) hz
    exact ⟨u, _, fs, rfl, g1⟩
set_option maxRecDepth 100000 in
theorem ints_of {v : Value} {d : DataW H} {p : List MemPlace} (hv : Value.okWide Try.prog W .any 0 25 v) (h : DataW.Trod enc Try.prog W 0 (fun _ => true) true 25 v d p) :
    ∃ xs : List Int, SlW W 1 v (xs.map fun x => [Value.int .i64 x]) := by
  obtain ⟨a, len, cap, rfl⟩ := okWide_slice un25 hv
  have hok' : Cell.ok Try.prog W .any 0 25 (.slice a len cap) := by
    simp only [Value.okWide, un25, Cell.okWide] at hv; exact hv
  obtain ⟨fuel, hf⟩ := h
  obtain ⟨l, g1, g2, g3⟩ := slW_of un25 ce3 (by omega) hok' hf
  obtain ⟨xs, rfl⟩ := list_of (g := fun x : Int => [Value.int .i64 x]) fun y hy => by
    obtain ⟨m, z, hz⟩ := g3 y hy
    exact int_of hz
  exact ⟨xs, g1⟩
end
end Go.Proofs.Ytifkpaomhnlahaa
namespace Go.Proofs.Ytifkpaomhnlahaa
open Go Kern RowKit Go.ChangeShapes Go.WideShapes Go.ChangeAt
theorem un58 : Try.prog.underlying 58 = some (.slice 36) := by kernel_rfl
theorem range_of_wf {x : Int} (h : (Lit.int .i64 x).wf = true) : -9223372036854775808 ≤ x ∧ x ≤ 9223372036854775807 := by
  simp [Lit.wf, IntKind.min, IntKind.max, IntKind.bits, IntKind.signed] at h
  omega
section
variable {H : Type} {enc : TypeId × Value → H} {W : World}
set_option maxRecDepth 100000 in
theorem mass_of {m : Nat} {cs : List Value} {z : DataW H × List MemPlace} (hl : cs.length = 4) (h : DataW.trod enc Try.prog W 0 (fun _ => true) true m 36 cs = some z) : ∃ f : Mass, cs = f.cs ∧ f.w64 := by
  match cs, hl with
  | [c3, c4, c5, c6], _ =>
    obtain ⟨_, _, _, _, n', _, g0, g1, g2, g3⟩ := trod_array4 un36 ce3 h
    obtain ⟨x3, e3, _, w3⟩ := DataW.trod_int un3 g0
    obtain ⟨x4, e4, _, w4⟩ := DataW.trod_int un3 g1
    obtain ⟨x5, e5, _, w5⟩ := DataW.trod_int un3 g2
    obtain ⟨x6, e6, _, w6⟩ := DataW.trod_int un3 g3
    simp at e3 e4 e5 e6
    subst e3 e4 e5 e6
    exact ⟨⟨x3, x4, x5, x6⟩, rfl, range_of_wf w3, range_of_wf w4, range_of_wf w5, range_of_wf w6⟩
set_option maxRecDepth 100000 in
theorem masses_of {v : Value} {d : DataW H} {p : List MemPlace} (hv : Value.okWide Try.prog W .any 0 36 v) (h : DataW.Trod enc Try.prog W 0 (fun _ => true) true 36 v d p) : ∃ m : Mass, v = m.v ∧ m.w64 := by
  obtain ⟨fuel, hf⟩ := h
  simp only [Value.okWide, un36] at hv
  obtain ⟨cs, rfl, hsz, _⟩ := hv
  rw [ce36] at hsz
  obtain ⟨l⟩ := cs
  obtain ⟨f, e, hw⟩ := mass_of (cs := l) (by simpa using hsz) hf
  exact ⟨f, by rw [e]; rfl, hw⟩
set_option maxRecDepth 100000 in
theorem bal_of {v : Value} {d : DataW H} {p : List MemPlace} (hv : Value.okWide Try.prog W .any 0 58 v) (h : DataW.Trod enc Try.prog W 0 (fun _ => true) true 58 v d p) :
    ∃ bs : List Mass, SlW W 4 v (bs.map Mass.cs) := by
  obtain ⟨a, len, cap, rfl⟩ := okWide_slice un58 hv
  have hok' : Cell.ok Try.prog W .any 0 58 (.slice a len cap) := by
    simp only [Value.okWide, un58, Cell.okWide] at hv; exact hv
  obtain ⟨fuel, hf⟩ := h
  obtain ⟨l, g1, g2, g3⟩ := slW_of un58 ce36 (by omega) hok' hf
  obtain ⟨xs, rfl⟩ := list_of (g := Mass.cs) fun y hy => by
    obtain ⟨m, z, hz⟩ := g3 y hy
    obtain ⟨f, e, _⟩ := mass_of (g2 y hy) hz
    exact ⟨f, e⟩
  exact ⟨xs, g1⟩
end
theorem lawF_calls (u fl : Int) (m : Mass) (v w : Value) (fs : List FlowD) (bs : List Mass) (W : World) (hf : SlW W 7 v (fs.map FlowD.cs)) (hb : SlW W 4 w (bs.map Mass.cs)) (hm : m.w64) :
    Calls Try.prog 5 #[.agg #[.int .i64 u, v], .int .i64 fl, m.v, w] W fun e w' => e = .returned (.bool true) ∧ Below W.heap.size W w' := by
  have hw0 : WRel W.heap.size (fun _ => none) ⟨.leaf, 0⟩ W := ⟨Nat.le_refl _, (fun h => by cases h), fun _ => rfl, (fun h => by cases h), (fun h => by cases h)⟩
  obtain ⟨σ1, s1, v', _, hw1, hv, hs1, k1⟩ := attach hw0 rfl hf (fun x hx => by obtain ⟨f, _, rfl⟩ := List.mem_map.1 hx; rfl) (by
    rw [List.all_eq_true]; intro y hy
    obtain ⟨z, hz, hy⟩ := List.mem_flatten.1 hy
    obtain ⟨f, _, rfl⟩ := List.mem_map.1 hz
    simp [FlowD.cs] at hy
    rcases hy with rfl | rfl | rfl | rfl | rfl | rfl | rfl <;> rfl)
  obtain ⟨σ2, s2, w', hle, hw2, hw', hs2, k2⟩ := attach hw1 rfl hb (fun x hx => by obtain ⟨f, _, rfl⟩ := List.mem_map.1 hx; rfl) (by
    rw [List.all_eq_true]; intro y hy
    obtain ⟨z, hz, hy⟩ := List.mem_flatten.1 hy
    obtain ⟨f, _, rfl⟩ := List.mem_map.1 hz
    simp [Mass.cs] at hy
    rcases hy with rfl | rfl | rfl | rfl <;> rfl)
  refine calls_of_ev (lawF_ev u fl m v' w' fs bs s2 (hs1.keep k2) hs2 hm) hw2 rfl ?_
  exact .cons (.agg (.cons (.int _ _) (.cons (hv.mono hle) .nil))) (.cons (.int _ _) (.cons (.agg (.cons (.int _ _) (.cons (.int _ _) (.cons (.int _ _) (.cons (.int _ _) .nil))))) (.cons hw' .nil)))
theorem Try.own : ownKnob Try.prog.godebug = none := by kernel_rfl
theorem laidB : laidOutB Try.prog = true := by kernel_rfl
theorem again_of {H : Type} {enc : TypeId × Value → H} {t : TypeId} {W W' : World} {v : Value} {d : DataW H} {p : List MemPlace} (hr : Try.prog.readableRec t = true) (ht : t < Try.prog.types.size)
    (h : DataW.Trod enc Try.prog W 0 (fun _ => true) true t v d p) (hb : Below W.heap.size W W') : DataW.Trod enc Try.prog W' 0 (fun b => decide (b < W.heap.size)) true t v d p :=
  Below.trod laidB hr ht h hb (DataW.TrodAll.lt (trodAll_mk1 h))
set_option maxRecDepth 100000 in
theorem fills_lifted (os : Os) (started : os.Started) (H : Type) (enc : TypeId × Value → H) :
    ReturnsInHanded {} Try.checked os 5 .any (Rows.bulkFillsSpec.pre6 enc Try.prog Try.f5 Rows.bulkFillsRow.domain false) (Rows.bulkFillsSpec.post enc Try.prog Try.f5 false true false false) := by
  refine returnsInHanded_of_change (C := Try.checked) Try.own started (by kernel_rfl) Try.func5
    (ChangeSpec.witness6 (enc := enc) (C := Try.checked) false ⟨#[], #[.agg #[.int .i64 0, .slice none 0 0], .int .i64 0, .agg #[.int .i64 0, .int .i64 0, .int .i64 0, .int .i64 0], .slice none 0 0], []⟩ 8 (by kernel_rfl) (by kernel_rfl) (by kernel_rfl) (by kernel_rfl)) ?_
  intro W base args ds gs before hval hW hcnd _
  have hW' := hW
  obtain ⟨p, q, hA0, hV, rfl, hfz, hnd⟩ := hW
  have hA : DataW.TrodAll enc Try.prog W 0 (fun _ => true) true Try.f5.params.toList args.toList ds p := hA0
  rw [Try.params5] at hA
  obtain ⟨v0, v1, v2, v3, d0, d1, d2, d3, p0, p1, p2, p3, rfl, rfl, rfl, h0, h1, h2, h3⟩ := trodAll_four hA
  obtain ⟨rfl, rfl⟩ := trodVars_none hV
  have h1k := h1
  obtain ⟨u, fl, fs, rfl, hf⟩ := plant_of (hval 0 24 v0 rfl rfl) h0
  obtain ⟨m, rfl, hm⟩ := masses_of (hval 2 36 v2 rfl rfl) h2
  obtain ⟨bs, hb⟩ := bal_of (hval 3 58 v3 rfl rfl) h3
  obtain ⟨kd, rfl, rfl, rfl, hs⟩ := open_int un3 (hval 1 3 v1 rfl rfl) h1
  refine (lawF_calls u kd m fl v3 fs bs W hf hb hm).mono fun e W' ⟨he, hbl⟩ => ?_
  subst he
  exact ⟨_, rfl, [_, _, _, _], [], _, [], _, [], hW', trodAll_mk1 (shut_bool Try.underlying4 _), trodAll_mk4 (again_of (by kernel_rfl) (of_decide_eq_true (by kernel_rfl)) h0 hbl) (again_of (by kernel_rfl) (of_decide_eq_true (by kernel_rfl)) h1k hbl) (again_of (by kernel_rfl) (of_decide_eq_true (by kernel_rfl)) h2 hbl) (again_of (by kernel_rfl) (of_decide_eq_true (by kernel_rfl)) h3 hbl), rfl, hbl.frame _, fun h => by cases h⟩

theorem fills_holds : Rows.BulkFillsSaid :=
  OpenClaim.holds_of_wide 5 Try.f5 rfl rfl rfl rfl rfl rfl rfl ⟨rfl, rfl, rfl, rfl, rfl⟩ rfl rfl rfl rfl rfl (by kernel_rfl) Try.func5 (by kernel_rfl)
    (of_decide_eq_true (by kernel_rfl)) (by unfold Func.isWrapper; first | (rw [if_pos (by decide +kernel)]; kernel_rfl) | (rw [if_neg (by decide +kernel)]; exact ⟨rfl, rfl⟩))
    (fun os started H enc _ => fills_lifted os started H enc)
end Go.Proofs.Ytifkpaomhnlahaa
