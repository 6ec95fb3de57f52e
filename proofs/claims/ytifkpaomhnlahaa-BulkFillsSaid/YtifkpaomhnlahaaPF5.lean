/-
  A flow that is found carries what its side has as excess. Prove and the reference's Prove answer as stated, for every plant. Close answers as stated, for every plant. Regions that draw their order and make blocks, as equations. The reference's Close answers as stated, for every plant. Slices are copied and appended whole, as stated. Verify answers as stated, for every plant and balance. The reference's Verify answers as stated, for every plant and balance. A plant with no excess has a balance also when a flow is measured in addition, as far as it may be. Fill answers as stated, for every plant, flow and masses. They hold with no condition but those that are written in each theorem.
-/
import Derived.Test.YtifkpaomhnlahaaPF1
import Derived.Test.YtifkpaomhnlahaaPF2
import Derived.Test.YtifkpaomhnlahaaPF3
import Derived.Test.YtifkpaomhnlahaaPF4
set_option linter.unusedSimpArgs false
set_option linter.unusedVariables false
namespace Go.Proofs.Ytifkpaomhnlahaa
open Go Kern
/-! Lists of cells of one length in memory -/
def flatG (g : Nat → List Value) (len : Nat) : List Value := ((List.range len).map g).flatten
theorem flatG_succ (g : Nat → List Value) (k : Nat) : flatG g (k + 1) = flatG g k ++ g k := by
  unfold flatG
  rw [List.range_succ, List.map_append, List.flatten_append]; simp
theorem flatG_length {g : Nat → List Value} {N : Nat} (h : ∀ j, (g j).length = N) : ∀ len, (flatG g len).length = len * N
  | 0 => by simp [flatG]
  | k + 1 => by rw [flatG_succ, List.length_append, flatG_length h k, h k, Nat.add_mul]; omega
theorem flatG_congr {g h : Nat → List Value} {len : Nat} (hc : ∀ j, j < len → g j = h j) : flatG g len = flatG h len := by
  unfold flatG
  congr 1
  apply List.map_congr_left
  intro j hj
  exact hc j (by simpa using hj)
theorem flatG_cut (g : Nat → List Value) {i : Nat} : ∀ {len : Nat}, i < len → ∃ r, flatG g len = flatG g i ++ (g i ++ r) ∧ ∀ vs, flatG (fun j => if j = i then vs else g j) len = flatG g i ++ (vs ++ r)
  | 0, h => by omega
  | k + 1, h => by
    have hpre : ∀ vs, flatG (fun j => if j = i then vs else g j) i = flatG g i := fun vs => flatG_congr fun j hj => if_neg (by omega)
    by_cases e : i = k
    · subst e
      refine ⟨[], by rw [flatG_succ, List.append_nil], fun vs => ?_⟩
      rw [flatG_succ, hpre vs, if_pos rfl, List.append_nil]
    · obtain ⟨r, h1, h2⟩ := flatG_cut g (i := i) (len := k) (by omega)
      refine ⟨r ++ g k, by rw [flatG_succ, h1]; simp, fun vs => ?_⟩
      rw [flatG_succ, h2 vs, if_neg (fun q => e q.symm)]; simp
theorem flatG_put {g : Nat → List Value} {N : Nat} (hN : ∀ j, (g j).length = N) {vs : List Value} (hv : vs.length = N) {i len : Nat} (h : i < len) : putL (i * N) vs (flatG g len) = some (flatG (fun j => if j = i then vs else g j) len) := by
  obtain ⟨r, h1, h2⟩ := flatG_cut g h
  rw [h1, h2 vs, ← flatG_length hN i, putL_append, overL_same vs (g i) r (by rw [hv, hN])]; rfl
theorem flatG_get {g : Nat → List Value} {N : Nat} (hN : ∀ j, (g j).length = N) {i len : Nat} (h : i < len) : takeL N ((flatG g len).drop (i * N)) = some (g i) := by
  unfold flatG
  exact drop_flat (fun x hx => by obtain ⟨j, _, rfl⟩ := List.mem_map.1 hx; exact hN j) (by rw [List.getElem?_map, List.getElem?_range h]; rfl)
theorem repeatL_snoc (z : List Value) : ∀ q : Nat, repeatL z q ++ z = repeatL z (q + 1)
  | 0 => by show [] ++ z = z ++ []; simp
  | q + 1 => by
    show (z ++ repeatL z q) ++ z = z ++ repeatL z (q + 1)
    rw [List.append_assoc, repeatL_snoc z q]
theorem flatG_same (z : List Value) : ∀ len, flatG (fun _ => z) len = repeatL z len
  | 0 => by simp [flatG]
  | k + 1 => by rw [flatG_succ, flatG_same z k, repeatL_snoc]
theorem sl_of_flat {N : Nat} {s : St} {b c len : Nat} {g : Nat → List Value} {o : Option Nat} (h2 : b < s.next) (hN : ∀ j, (g j).length = N) (h3 : s.heap.get b = some (.cells (flatG g len) o)) : SlAt N s (.slice (some ⟨b, 0, none⟩) len c) ((List.range len).map g) := by
  have := sl_of_cells (n := N) (c := c) (l := (List.range len).map g) h2 (fun x hx => by obtain ⟨j, _, rfl⟩ := List.mem_map.1 hx; exact hN j) h3
  rw [List.length_map, List.length_range] at this
  exact this
/-! Comparison of masses -/
theorem unA36 : Try.prog.underlying 36 = some (.array 4 3) := by kernel_rfl
theorem unA39 : Try.prog.underlying 39 = some (.array 4 3) := by kernel_rfl
theorem unA3 : Try.prog.underlying 3 = some (.int .i64) := by kernel_rfl
theorem ceA36 : Try.prog.cellsOf 36 = 4 := by kernel_rfl
theorem ceA39 : Try.prog.cellsOf 39 = 4 := by kernel_rfl
theorem ceA3 : Try.prog.cellsOf 3 = 1 := by kernel_rfl
theorem keyLitA3 {d : Nat} {a : Int} (h : (Lit.int .i64 a).wf = true) : Try.prog.keyLits (d + 1) 3 [.int .i64 a] = some [.int .i64 a] := by
  unfold Program.keyLits; rw [unA3]; simp [h]
theorem wfA_of {a : Int} (h : -4611686018427387904 ≤ a ∧ a ≤ 4611686018427387904) : (Lit.int .i64 a).wf = true := by
  simp [Lit.wf, IntKind.min, IntKind.max, IntKind.bits, IntKind.signed]
  omega
theorem keyLitsA {t : TypeId} (hu : Try.prog.underlying t = some (.array 4 3)) (hc : Try.prog.cellsOf t = 4) {m : Mass} (h : m.le 4611686018427387904) : Try.prog.keyLits 21 t m.cs = some [.int .i64 m.a, .int .i64 m.b, .int .i64 m.c, .int .i64 m.d] := by
  obtain ⟨h1, h2, h3, h4⟩ : (Lit.int .i64 m.a).wf = true ∧ (Lit.int .i64 m.b).wf = true ∧ (Lit.int .i64 m.c).wf = true ∧ (Lit.int .i64 m.d).wf = true := by
    unfold Mass.le at h; exact ⟨wfA_of (by omega), wfA_of (by omega), wfA_of (by omega), wfA_of (by omega)⟩
  unfold Program.keyLits; rw [hu]
  simp [hc, ceA3, Mass.cs, List.range, List.range.loop, keyLitA3 h1, keyLitA3 h2, keyLitA3 h3, keyLitA3 h4]
theorem formedA {t : TypeId} (hu : Try.prog.underlying t = some (.array 4 3)) (hc : Try.prog.cellsOf t = 4) (x y z w : Value) : Value.formed Try.prog t (.agg #[x, y, z, w]) = true := by
  simp [Value.formed, hu, hc]
theorem litsEq_mass (m p : Mass) : litsEq [.int .i64 m.a, .int .i64 m.b, .int .i64 m.c, .int .i64 m.d] [.int .i64 p.a, .int .i64 p.b, .int .i64 p.c, .int .i64 p.d] = decide (m = p) := by
  rw [Bool.eq_iff_iff, litsEq_iff, decide_eq_true_eq]
  constructor
  · intro h
    simp at h
    exact Mass.ext' h.1 h.2.1 h.2.2.1 h.2.2.2
  · intro h; subst h; rfl
theorem aggEqA {t : TypeId} (hu : Try.prog.underlying t = some (.array 4 3)) (hc : Try.prog.cellsOf t = 4) {m p : Mass} (h : m.le 4611686018427387904) (k : p.le 4611686018427387904) : aggEq TT t #[.int .i64 m.a, .int .i64 m.b, .int .i64 m.c, .int .i64 m.d] #[.int .i64 p.a, .int .i64 p.b, .int .i64 p.c, .int .i64 p.d] = some (decide (m = p)) := by
  unfold aggEq
  have h1 := keyLitsA hu hc h
  have h2 := keyLitsA hu hc k
  unfold Mass.cs at h1 h2
  change gd _ (ob (Try.prog.keyLits 21 t _) fun la => ob (Try.prog.keyLits 21 t _) fun lb => some (litsEq la lb)) = _
  rw [h1, h2, show Value.formed TT.prog t (.agg #[.int .i64 m.a, .int .i64 m.b, .int .i64 m.c, .int .i64 m.d]) = true from formedA hu hc _ _ _ _, show Value.formed TT.prog t (.agg #[.int .i64 p.a, .int .i64 p.b, .int .i64 p.c, .int .i64 p.d]) = true from formedA hu hc _ _ _ _]
  show gd (_ && true && true) (some (litsEq _ _)) = _
  rw [litsEq_mass]; rfl
theorem flagA36 : (TT.prog.keyTypeAt 20 36 && !TT.prog.eqGuardType TT.prog.depth 36) = true := by kernel_rfl
theorem flagA39 : (TT.prog.keyTypeAt 20 39 && !TT.prog.eqGuardType TT.prog.depth 39) = true := by kernel_rfl
@[simp] theorem binVal_36ne (a b : Array Value) : binVal TT (.array 4 3) 36 (TT.prog.keyTypeAt 20 36 && !TT.prog.eqGuardType TT.prog.depth 36) .neq (.agg a) (.agg b) = ob (aggEq TT 36 a b) fun r => some (.bool (!r)) := by
  rw [flagA36]; rfl
@[simp] theorem binVal_39ne (a b : Array Value) : binVal TT (.array 4 3) 39 (TT.prog.keyTypeAt 20 39 && !TT.prog.eqGuardType TT.prog.depth 39) .neq (.agg a) (.agg b) = ob (aggEq TT 39 a b) fun r => some (.bool (!r)) := by
  rw [flagA39]; rfl
/-! What is known of a flow -/
structure KnownD where
  st : Int
  m : Mass
def KnownD.cs (k : KnownD) : List Value := [.int .i64 k.st, .int .i64 k.m.a, .int .i64 k.m.b, .int .i64 k.m.c, .int .i64 k.m.d]
def labE (fs : List FlowD) (i : Nat) (x : Int) : Int := labF i fs 0 (fun x => (x : Int)) (x + 1).toNat
def closeAt (fs : List FlowD) (n i : Nat) (f : FlowD) : KnownD :=
  if f.me = true then ⟨1, f.m⟩ else if labE fs i f.fr = labE fs i f.to then ⟨3, Mass.zero⟩ else
    if labE fs i f.fr ≠ 0 then ⟨2, excM (sideL (labF i fs 0 (fun x => (x : Int))) n (labE fs i f.fr)) fs⟩ else ⟨2, Mass.zero.sub (excM (sideL (labF i fs 0 (fun x => (x : Int))) n (labE fs i f.to)) fs)⟩
def closeF (fs : List FlowD) (n i : Nat) : KnownD := match fs[i]? with
  | some f => closeAt fs n i f
  | none => ⟨0, Mass.zero⟩
def closeErr (u : Int) (fs : List FlowD) : Int := if checkErr u fs ≠ 0 then checkErr u fs else match provF (rtF (-1) fs 0 id) fs u.toNat u.toNat 0 with
  | some _ => 12
  | none => 0
def closeKs (u : Int) (fs : List FlowD) : List KnownD := if closeErr u fs = 0 then (List.range fs.length).map (closeF fs u.toNat) else []
theorem sideL_sorted (L : Nat → Int) (n : Nat) (h : Int) : (sideL L n h).Pairwise (· < ·) := by
  unfold sideL
  rw [List.pairwise_map]
  exact (List.pairwise_lt_range.filter _).imp fun h => by omega
theorem sideL_range {L : Nat → Int} {n : Nat} {h : Int} (h0 : L 0 ≠ h) {x : Int} (hx : x ∈ sideL L n h) : 0 ≤ x ∧ x < n := by
  unfold sideL at hx
  obtain ⟨i, hi, e⟩ := List.mem_map.1 hx
  obtain ⟨h1, h2⟩ := List.mem_filter.1 hi
  have h1 := List.mem_range.1 h1
  have h2 : L i = h := by simpa using h2
  have : i ≠ 0 := fun q => h0 (by rw [← h2, q])
  change (i : Int) - 1 = x at e
  omega
theorem lab_rt {fs : List FlowD} {n i : Nat} (hends : ∀ f ∈ fs, (-1 ≤ f.fr ∧ f.fr < n) ∧ (-1 ≤ f.to ∧ f.to < n)) {x y : Int} (hx : -1 ≤ x ∧ x < n) (hy : -1 ≤ y ∧ y < n) : labE fs i x = labE fs i y ↔ rtF i fs 0 id x = rtF i fs 0 id y := by
  have hs := Same.flows (lo := (i : Int)) (i := 0) (Same.init n) hends
  have := hs.2 (x + 1).toNat (y + 1).toNat (by omega) (by omega)
  rw [show (((x + 1).toNat : Nat) : Int) - 1 = x by omega, show (((y + 1).toNat : Nat) : Int) - 1 = y by omega] at this
  exact this
theorem found_value {fs : List FlowD} {n i : Nat} {B : Nat → Mass} {f : FlowD} (hends : ∀ f ∈ fs, (-1 ≤ f.fr ∧ f.fr < n) ∧ (-1 ≤ f.to ∧ f.to < n)) (hne : ∀ f ∈ fs, f.fr ≠ f.to) (hnet : ∀ u : Nat, u < n → netB fs B u = Mass.zero)
    (hf : fs[i]? = some f) (hm : f.me = false) (hd : rtF i fs 0 id f.fr ≠ rtF i fs 0 id f.to) : closeAt fs n i f = ⟨2, B i⟩ := by
  have hfm := List.mem_of_getElem? hf
  obtain ⟨hV1, hV2⟩ := hends f hfm
  have hc : chB fs i = true := by
    rw [chB_some hf, hm]
    have hnr : ¬ rtF (-1) (fs.take i) 0 id f.fr = rtF (-1) (fs.take i) 0 id f.to := fun e => by
      refine hd ((rt_path_all fs i _ _).2 (((rt_path fs (-1) i _ _).1 e).mono fun j g _ he => ⟨he.2.1, ?_⟩))
      have := he.1; omega
    simp [hnr]
  have hs := Same.flows (lo := (i : Int)) (i := 0) (Same.init n) hends
  have hne2 : labE fs i f.fr ≠ labE fs i f.to := fun e => hd ((lab_rt hends hV1 hV2).1 e)
  have hin : ∀ (h : Int) (j : Nat) (g : FlowD), fs[j]? = some g → g.me = false → j ≠ i → (g.fr ∈ sideL (labF i fs 0 (fun x => (x : Int))) n h ↔ g.to ∈ sideL (labF i fs 0 (fun x => (x : Int))) n h) := fun h j g hg hmg hji => by
    obtain ⟨a, b⟩ := hends g (List.mem_of_getElem? hg)
    rw [mem_sideL a.1 a.2, mem_sideL b.1 b.2]
    have he := rtF_ends i fs 0 id j g hg hmg (by omega)
    have := (lab_rt (i := i) hends a b).2 he
    unfold labE at this
    rw [this]
  have hnd : ∀ h, (sideL (labF i fs 0 (fun x => (x : Int))) n h).Nodup := fun h => (sideL_sorted _ _ _).imp fun h => by omega
  unfold closeAt
  rw [if_neg (by rw [hm]; decide), if_neg hne2]
  by_cases ha : labE fs i f.fr = 0
  · rw [if_neg (by simp [ha])]
    congr 1
    have hb : labE fs i f.to ≠ 0 := fun q => hne2 (ha.trans q.symm)
    have hcv := cut_value hne hnet (hnd (labE fs i f.to)) (fun x hx => sideL_range (by rw [hs.out]; exact fun q => hb q.symm) hx) hf hc (hin _)
    have h1 : f.to ∈ sideL (labF i fs 0 (fun x => (x : Int))) n (labE fs i f.to) := (mem_sideL hV2.1 hV2.2).2 rfl
    have h2 : ¬ f.fr ∈ sideL (labF i fs 0 (fun x => (x : Int))) n (labE fs i f.to) := fun q => hne2 ((mem_sideL hV1.1 hV1.2).1 q)
    unfold bringsL at hcv
    rw [if_pos h1, if_neg h2] at hcv
    generalize excM (sideL (labF i fs 0 (fun x => (x : Int))) n (labE fs i f.to)) fs = x at hcv ⊢
    generalize B i = y at hcv ⊢
    obtain ⟨a1, a2, a3, a4⟩ := x
    obtain ⟨b1, b2, b3, b4⟩ := y
    simp [Mass.add, Mass.zero, Mass.sub] at hcv ⊢
    omega
  · rw [if_pos ha]
    congr 1
    have hcv := cut_value hne hnet (hnd (labE fs i f.fr)) (fun x hx => sideL_range (by rw [hs.out]; exact fun q => ha q.symm) hx) hf hc (hin _)
    have h1 : f.fr ∈ sideL (labF i fs 0 (fun x => (x : Int))) n (labE fs i f.fr) := (mem_sideL hV1.1 hV1.2).2 rfl
    have h2 : ¬ f.to ∈ sideL (labF i fs 0 (fun x => (x : Int))) n (labE fs i f.fr) := fun q => hne2 ((mem_sideL hV2.1 hV2.2).1 q).symm
    unfold bringsL at hcv
    rw [if_neg h2, if_pos h1] at hcv
    generalize excM (sideL (labF i fs 0 (fun x => (x : Int))) n (labE fs i f.fr)) fs = x at hcv ⊢
    generalize B i = y at hcv ⊢
    obtain ⟨a1, a2, a3, a4⟩ := x
    obtain ⟨b1, b2, b3, b4⟩ := y
    simp [Mass.add, Mass.zero, Mass.sub] at hcv ⊢
    omega
end Go.Proofs.Ytifkpaomhnlahaa
namespace Go.Proofs.Ytifkpaomhnlahaa
open Go Kern
theorem SlAt.same {n : Nat} {s s' : St} {b o m c : Nat} {l : List (List Value)} (h : SlAt n s (.slice (some ⟨b, o, none⟩) m c) l) (h1 : b < s.next → b < s'.next) (h2 : s'.heap.get b = s.heap.get b) : SlAt n s' (.slice (some ⟨b, o, none⟩) m c) l := by
  cases h with
  | mk hb ho hc he => exact .mk (h1 hb) (h2.trans ho) hc he
theorem SlAt.lt {n : Nat} {s : St} {b o m c : Nat} {l : List (List Value)} (h : SlAt n s (.slice (some ⟨b, o, none⟩) m c) l) : b < s.next := by
  cases h with
  | mk hb ho hc he => exact hb
end Go.Proofs.Ytifkpaomhnlahaa
namespace Go.Proofs.Ytifkpaomhnlahaa
open Go Kern
theorem exc_le {fs : List FlowD} {xs : List Int} {β : Int} (hβ : 0 ≤ β) (hf : ∀ f ∈ fs, f.me = true → f.m.le β) (hl : fs.length ≤ 20) : (excM xs fs).le (20 * β) := by
  have := exc_bound (xs := xs) hβ hf fs.length
  rw [List.take_length] at this
  exact this.mono (Int.mul_le_mul_of_nonneg_right (by omega) hβ)
theorem checkErr_ne {u : Int} {fs : List FlowD} (h : checkErr u fs = 0) : ∀ f ∈ fs, f.fr ≠ f.to := fun f hf => (flowErr_ok ((checkErr_ok h).2.2.2 f hf)).2.2.1
theorem checkErr_le9 {u : Int} {fs : List FlowD} (h : checkErr u fs = 0) : ∀ f ∈ fs, f.me = true → f.m.le 1000000000 := fun f hf hm =>
  eachB_le ((flowErr_ok ((checkErr_ok h).2.2.2 f hf)).2.2.2 hm)
def knG (fs : List FlowD) (n k : Nat) (j : Nat) : List Value := if j < k then (closeF fs n j).cs else [.int .i64 0, .int .i64 0, .int .i64 0, .int .i64 0, .int .i64 0]
theorem knG_length (fs : List FlowD) (n k : Nat) (j : Nat) : (knG fs n k j).length = 5 := by
  unfold knG; split <;> rfl
theorem knG_succ (fs : List FlowD) (n k : Nat) : (fun j => if j = k then (closeF fs n k).cs else knG fs n k j) = knG fs n (k + 1) := by
  funext j
  unfold knG
  by_cases e : j = k
  · subst e; rw [if_pos rfl, if_pos (by omega)]
  · rw [if_neg e]
    by_cases h : j < k
    · rw [if_pos h, if_pos (by omega)]
    · rw [if_neg h, if_neg (by omega)]
theorem excM_zero_of {rt : Int → Int} {fs : List FlowD} {n k : Nat} (h : provAt rt fs n k = none) (hL : isLead rt n k = true) : excM (clsN rt k n) fs = Mass.zero := by
  unfold provAt at h
  rw [if_pos hL] at h
  rw [← nzK_none]
  cases hz : nzK (excM (clsN rt k n) fs) with
  | none => rfl
  | some j => rw [hz] at h; cases h
set_option maxRecDepth 100000 in
set_option maxHeartbeats 4000000 in
theorem close_ev (u : Int) (v : Value) (fs : List FlowD) (s : St) (hf : FlAt s v fs) (hl : fs.length ≤ 1000000) :
    Ev TT 24 [plantV u v] s fun r s' => Keep s s' ∧ ∃ w, r = .tuple #[w, .int .i64 (closeErr u fs)] ∧ SlAt 5 s' w ((closeKs u fs).map KnownD.cs) := by
  unfold plantV
  refine Ev.intro (fn := Try.f24) rfl (by kernel_rfl) rfl rfl ?_
  apply zz
  refine Cd.ra (h := ?_)
  apply Run.by_eq
  · intro self
    conv => lhs; simp -implicitDefEqProofs (maxSteps := 300000) (disch := omega) [-getElem?_pos, -getElem?_neg]
  try (with_reducible refine Run.ret ?_)
  apply zz
  refine Cd.ra (h := ?_)
  apply Run.by_eq
  · intro self
    conv => lhs; simp -implicitDefEqProofs (maxSteps := 300000) (disch := omega) [-getElem?_pos, -getElem?_neg]
  try (with_reducible refine Run.ret ?_)
  apply zz
  refine Run.call ((check_ev u v fs _ (hf.keep ⟨by (try simp only [pushed_next', upded_next']); omega, fun i hi => by simp -implicitDefEqProofs (disch := omega) []⟩) hl).mono fun v wq hv => ?_)
  obtain ⟨rfl, q⟩ := hv
  have qa := q.1
  have qb := q.2
  try simp only [pushed_next', upded_next'] at qa qb
  apply Run.by_eq
  · intro self
    conv => lhs; simp -implicitDefEqProofs (maxSteps := 300000) (disch := omega) [-getElem?_pos, -getElem?_neg, qb]
  try (with_reducible refine Run.ret ?_)
  apply zz
  refine Cd.ra (h := ?_)
  apply Run.by_eq
  · intro self
    conv => lhs; simp -implicitDefEqProofs (maxSteps := 300000) (disch := omega) [-getElem?_pos, -getElem?_neg, qb]
  try (with_reducible refine Run.ret ?_)
  apply zz
  apply Cd.ite rfl
  · conv => lhs; simp -implicitDefEqProofs (maxSteps := 300000) (disch := omega) [-getElem?_pos, -getElem?_neg]
  all_goals intro c0
  all_goals try (cases c0; done)
  all_goals try simp only [Bool.not_eq_true', Bool.not_eq_false', decide_eq_true_eq, decide_eq_false_iff_not] at c0
  all_goals apply zz
  · apply zz
    refine Cd.ra (h := ?_)
    apply Run.by_eq
    · intro self
      conv => lhs; simp -implicitDefEqProofs (maxSteps := 300000) (disch := omega) [-getElem?_pos, -getElem?_neg, qb]
    try (with_reducible refine Run.ret ?_)
    apply zz
    apply Leave.mk (by first | exact .inl rfl | exact .inr rfl) (by simp only [Fr.marks_put, fr0_marks, qb])
    · conv => lhs; simp -implicitDefEqProofs (disch := omega) [Try.results24, qb]
    have hce : closeErr u fs = checkErr u fs := by unfold closeErr; rw [if_pos c0]
    have hck : closeKs u fs = [] := by unfold closeKs; rw [if_neg (by rw [hce]; exact c0)]
    rw [hce, hck]
    exact ⟨⟨by (try simp only [pushed_next', upded_next']); omega, fun i hi => by simp -implicitDefEqProofs (disch := omega) [qb]⟩, _, rfl, .nil 0⟩
  have hck : checkErr u fs = 0 := c0
  obtain ⟨hu1, hu2, hl20, _⟩ := checkErr_ok hck
  have hends := ends_in hck
  obtain ⟨n, hn⟩ : ∃ n : Nat, u = n := ⟨u.toNat, by omega⟩
  subst hn
  have hn8 : n ≤ 8 := by omega
  have hce : closeErr n fs = match provF (rtF (-1) fs 0 id) fs n n 0 with | some _ => 12 | none => 0 := by unfold closeErr; rw [if_neg (by simp [hck])]; rfl
  apply zz
  refine Cd.ra (h := ?_)
  apply Run.by_eq
  · intro self
    conv => lhs; simp -implicitDefEqProofs (maxSteps := 300000) (disch := omega) [-getElem?_pos, -getElem?_neg, qb]
  try (with_reducible refine Run.ret ?_)
  apply zz
  refine Run.call ((parts_ev n v _).mono fun r w1 hv => ?_)
  obtain ⟨hk1, bp, rfl, hbp1, hbp2, hgp⟩ := hv
  have k1a := hk1.1
  have k1b := hk1.2
  have hk : Keep s w1 := ⟨by omega, fun i hi => by rw [k1b i (by omega)]; simp -implicitDefEqProofs (disch := omega) [qb]⟩
  have hv0 : w1.heap.get s.next = some (.cells [.int .i64 n, v] none) := by rw [k1b _ (by omega)]; simp -implicitDefEqProofs (disch := omega) [qb]
  have hv1 : w1.heap.get (s.next + 1) = some (.cells [.slice none 0 0] none) := by rw [k1b _ (by omega)]; simp -implicitDefEqProofs (disch := omega) [qb]
  have hv2 : w1.heap.get (s.next + 1 + 1) = some (.cells [.int .i64 0] none) := by rw [k1b _ (by omega)]; simp -implicitDefEqProofs (disch := omega) [qb]
  apply Run.by_eq
  · intro self
    conv => lhs; simp -implicitDefEqProofs (maxSteps := 300000) (disch := omega) [-getElem?_pos, -getElem?_neg]
  try (with_reducible refine Run.ret ?_)
  apply zz
  refine Cd.rangeJ (gi := 59) (first := #[]) (captured := #[.pointer (some ⟨bp, 0, none⟩)]) rfl (by simp) ?_
  generalize hR : ALoop.mk true none _ _ _ _ _ = R0
  show Ev TT 59 [.func (.yield (w1.next + 1)) #[] #[], .pointer (some ⟨bp, 0, none⟩)] _ _
  refine (iterJ_ev n v (.func (.yield (w1.next + 1)) #[] #[]) fs bp _ (fun i => i = s.next + 1 ∨ i = s.next + 1 + 1 ∨ i = w1.next + 1)
    (fun j s2 => s2.heap.get (w1.next + 1) = some (.loop R0) ∧ s2.heap.get s.next = some (.cells [.int .i64 n, v] none) ∧ s2.heap.get (s.next + 1) = some (.cells [.slice none 0 0] none) ∧ s2.heap.get (s.next + 1 + 1) = some (.cells [.int .i64 0] none) ∧ s2.heap.get w1.next = some (.deferred true) ∧ w1.next + 1 < s2.next ∧ (∀ i, i < s.next → s2.heap.get i = s.heap.get i) ∧ ∀ i, 0 ≤ i → i < j → provAt (rtF (-1) fs 0 id) fs n i = none)
    (fun j s2 => s2.heap.get (w1.next + 1) = some (.loop ⟨false, some .ret, R0.n, R0.tmps, R0.params, R0.assign, R0.body⟩) ∧ s2.heap.get w1.next = some (.deferred true) ∧ w1.next + 1 < s2.next ∧ s2.heap.get (s.next + 1) = some (.cells [.slice none 0 0] none) ∧ s2.heap.get (s.next + 1 + 1) = some (.cells [.int .i64 12] none) ∧ (∃ p, provAt (rtF (-1) fs 0 id) fs n j = some p) ∧ ∀ i, 0 ≤ i → i < j → provAt (rtF (-1) fs 0 id) fs n i = none)
    hn8 ((hf.keep hk).keep ⟨by (try simp only [pushed_next', upded_next']); omega, fun i hi => by simp -implicitDefEqProofs (disch := omega) []⟩) hl ?_ ?_ ?_ ?_ ?_ ?_ ?_ ?_).mono fun _ s2 hres => ?_
  · simp only [pushed_next']; omega
  · simp -implicitDefEqProofs (disch := omega) [hgp]
  · rintro i (rfl | rfl | rfl) <;> simp only [pushed_next'] <;> omega
  · rintro (h | h | h) <;> omega
  · refine ⟨?_, ?_, ?_, ?_, ?_, ?_, fun i hi => ?_, fun i _ hi => absurd hi (by omega)⟩
    · simp -implicitDefEqProofs (disch := omega)
    · simp -implicitDefEqProofs (disch := omega) [hv0]
    · simp -implicitDefEqProofs (disch := omega) [hv1]
    · simp -implicitDefEqProofs (disch := omega) [hv2]
    · simp -implicitDefEqProofs (disch := omega)
    · simp
    · simp -implicitDefEqProofs (disch := omega) [hk.2]
  · rintro j s1 s2 ⟨j0, j1, j2, j3, j5, j6, jk, j7⟩ h1 h2
    simp only [pushed_next'] at h2
    exact ⟨by rw [h2 _ (by omega)]; exact j0, by rw [h2 _ (by omega)]; exact j1, by rw [h2 _ (by omega)]; exact j2, by rw [h2 _ (by omega)]; exact j3, by rw [h2 _ (by omega)]; exact j5, by omega, fun i hi => by rw [h2 _ (by omega)]; exact jk i hi, j7⟩
  · rintro j s1 hj hL ⟨j0, j1, j2, j3, j5, j6, jk, j7⟩
    refine ⟨j0, j1, j2, j3, j5, j6, jk, fun i h1 h2 => ?_⟩
    by_cases e : i = j
    · subst e; unfold provAt; rw [hL]; rfl
    · exact j7 i h1 (by omega)
  · rintro j s1 w hj hL ⟨j0, j1, j2, j3, j5, j6, jk, j7⟩ hs1 hw ⟨bw, hbw, rfl⟩
    simp only [pushed_next'] at hs1 hbw
    show Evn TT (fun self => exRound self (w1.next + 1) _ s1) _
    subst hR
    refine Evn.roundJ j0 rfl ?_
    show Cd TT true _ _ ((((Fr.mk _ []).put (some 18) _).put (some 19) _)) _ _
    dsimp only
    apply zz
    refine Cd.ra (h := ?_)
    apply Run.by_eq
    · intro self
      conv => lhs; simp -implicitDefEqProofs (maxSteps := 300000) (disch := omega) [-getElem?_pos, -getElem?_neg, Fr.get_mk]
    try (with_reducible refine Run.ret ?_)
    apply zz
    refine ⟨rfl, _, j0, rfl, rfl, ?_⟩
    dsimp only
    apply zz
    refine Cd.ra (h := ?_)
    apply Run.by_eq
    · intro self
      conv => lhs; simp -implicitDefEqProofs (maxSteps := 300000) (disch := omega) [-getElem?_pos, -getElem?_neg, Fr.get_mk, j1]
    try (with_reducible refine Run.ret ?_)
    apply zz
    generalize hLf : ALoop.mk false none _ _ _ _ _ = Lf
    generalize hrt : rtF (-1) fs 0 id = rt at *
    have hcl := clsN_length rt j n
    refine Run.call ((excess_ev n v _ fs (clsN rt j n) _ (hf.keep ⟨by (try simp only [pushed_next', upded_next']); omega, fun i hi => by simp -implicitDefEqProofs (disch := omega) [jk]⟩) (SlAt.same hw (by simp) (by simp -implicitDefEqProofs (disch := omega))) (by omega) (by omega) (checkErr_le hck)).mono fun v wy hv => ?_)
    obtain ⟨rfl, y⟩ := hv
    have ya := y.1
    have yb := y.2
    try simp only [pushed_next', upded_next'] at ya yb
    have hxl := exc_le (xs := clsN rt j n) (by omega) (checkErr_le hck) hl20
    generalize hmx : excM (clsN rt j n) fs = mx at hxl
    have hEq : aggEq TT 36 #[.int .i64 mx.a, .int .i64 mx.b, .int .i64 mx.c, .int .i64 mx.d] #[.int .i64 0, .int .i64 0, .int .i64 0, .int .i64 0] = some (decide (mx = Mass.zero)) := aggEqA unA36 ceA36 (m := mx) (p := Mass.zero) (hxl.mono (by omega)) (Mass.le_zero (by omega))
    try simp only [upded_next'] at ya
    have hlp : wy.heap.get (w1.next + 1) = some (.loop Lf) := by rw [yb _ (by omega)]; simp
    have hy2 : wy.heap.get (s.next + 1) = some (.cells [.slice none 0 0] none) := by rw [yb _ (by omega)]; simp -implicitDefEqProofs (disch := omega) [j2]
    have hy3 : wy.heap.get (s.next + 1 + 1) = some (.cells [.int .i64 0] none) := by rw [yb _ (by omega)]; simp -implicitDefEqProofs (disch := omega) [j3]
    have hy5 : wy.heap.get w1.next = some (.deferred true) := by rw [yb _ (by omega)]; simp -implicitDefEqProofs (disch := omega) [j5]
    by_cases hz0 : mx = Mass.zero
    · have hz1 : decide (mx = Mass.zero) = true := decide_eq_true hz0
      rw [hz1] at hEq
      apply Run.by_eq
      · intro self
        conv => lhs; simp -implicitDefEqProofs (maxSteps := 300000) (disch := omega) [-getElem?_pos, -getElem?_neg, Mass.v, hEq]
      try (with_reducible refine Run.ret ?_)
      apply zz
      apply Cd.ite rfl
      · conv => lhs; simp -implicitDefEqProofs (maxSteps := 300000) (disch := omega) [-getElem?_pos, -getElem?_neg]
      all_goals intro d0
      all_goals try (cases d0; done)
      all_goals try simp only [Bool.not_eq_true', Bool.not_eq_false', decide_eq_true_eq, decide_eq_false_iff_not] at d0
      all_goals apply zz
      refine ⟨Lf, hlp, .inl ⟨rfl, ?_, ?_, ?_, ?_, ?_, ?_, fun i hi => ?_, fun i h1 h2 => ?_⟩, ?_, fun z hz hX => ?_⟩
      · rw [get_upded_same]; subst hLf; rfl
      · simp -implicitDefEqProofs (disch := omega) [yb, j1]
      · simp -implicitDefEqProofs (disch := omega) [hy2]
      · simp -implicitDefEqProofs (disch := omega) [hy3]
      · simp -implicitDefEqProofs (disch := omega) [hy5]
      · simp only [upded_next']; omega
      · simp -implicitDefEqProofs (disch := omega) [yb, jk]
      · by_cases e : i = j
        · subst e; unfold provAt; rw [if_pos hL, hmx, nzK_none.2 hz0]; rfl
        · exact j7 i h1 (by omega)
      · simp only [upded_next']; omega
      · have x4 : z ≠ w1.next + 1 := fun e => hX (.inr (.inr e))
        simp -implicitDefEqProofs (disch := omega) [yb]
    · have hz1 : decide (mx = Mass.zero) = false := decide_eq_false hz0
      rw [hz1] at hEq
      apply Run.by_eq
      · intro self
        conv => lhs; simp -implicitDefEqProofs (maxSteps := 300000) (disch := omega) [-getElem?_pos, -getElem?_neg, Mass.v, hEq]
      try (with_reducible refine Run.ret ?_)
      apply zz
      apply Cd.ite rfl
      · conv => lhs; simp -implicitDefEqProofs (maxSteps := 300000) (disch := omega) [-getElem?_pos, -getElem?_neg]
      all_goals intro d0
      all_goals try (cases d0; done)
      all_goals try simp only [Bool.not_eq_true', Bool.not_eq_false', decide_eq_true_eq, decide_eq_false_iff_not] at d0
      all_goals apply zz
      apply zz
      refine Cd.ra (h := ?_)
      apply Run.by_eq
      · intro self
        conv => lhs; simp -implicitDefEqProofs (maxSteps := 300000) (disch := omega) [-getElem?_pos, -getElem?_neg, Fr.get_mk, hy2, hy3]
      try (with_reducible refine Run.ret ?_)
      apply zz
      refine ⟨Lf, ?_, .inr ⟨rfl, ?_, ?_, ?_, ?_, ?_, ?_, j7⟩, ?_, fun z hz hX => ?_⟩
      · simp -implicitDefEqProofs (disch := omega) [hlp]
      · rw [get_upded_same]; subst hLf; rfl
      · simp -implicitDefEqProofs (disch := omega) [hy5]
      · simp only [upded_next']; omega
      · simp -implicitDefEqProofs (disch := omega)
      · simp -implicitDefEqProofs (disch := omega)
      · unfold provAt
        rw [if_pos hL, hmx]
        cases hzz : nzK mx with
        | none => exact absurd (nzK_none.1 hzz) hz0
        | some p => exact ⟨_, rfl⟩
      · simp only [upded_next']; omega
      · have x1 : z ≠ s.next + 1 := fun e => hX (.inl e)
        have x2 : z ≠ s.next + 1 + 1 := fun e => hX (.inr (.inl e))
        have x4 : z ≠ w1.next + 1 := fun e => hX (.inr (.inr e))
        simp -implicitDefEqProofs (disch := omega) [yb]
  obtain ⟨hJB, r2, r3⟩ := hres
  simp only [pushed_next'] at r2 r3
  have hold : ∀ i, i < s.next → s2.heap.get i = s.heap.get i := fun i hi => by
    rw [r3 i (by omega) (by omega)]
    simp -implicitDefEqProofs (disch := omega) [hk.2]
  rcases hJB with ⟨j0, j1, j2, j3, j5, j6, jk, j7⟩ | ⟨k, hkn, hL, ⟨b0, b1, b2, b3, b4, ⟨p, hp⟩, hz⟩⟩
  · refine ⟨R0, j0, .inl ⟨by rw [← hR], by rw [← hR], ?_⟩⟩
    have hK0 : ((n : Int) + 1) * 20000000000 ≤ 180000000000 := by omega
    with_reducible repeat first|apply Z0|apply Z1|apply Z4|apply Z5
    have hfs2 : FlAt (s2.upded (w1.next + 1) .dead) v fs := hf.keep ⟨by (try simp only [pushed_next', upded_next']); omega, fun i hi => by simp -implicitDefEqProofs (disch := omega) [hold]⟩
    have hzero : ∀ k : Nat, k < n → isLead (rtF (-1) fs 0 id) n k = true → excM (clsN (rtF (-1) fs 0 id) k n) fs = Mass.zero := fun k hk hL => excM_zero_of (j7 k (by omega) hk) hL
    have hce' : closeErr n fs = 0 := by rw [hce, provF_none fun i h1 h2 => j7 i h1 (by omega)]
    have hck' : closeKs n fs = (List.range fs.length).map (closeF fs n) := by unfold closeKs; rw [if_pos hce']; rfl
    rw [hce', hck']
    have hne := checkErr_ne hck
    have h9 := checkErr_le9 hck
    have hpl : (s2.upded (w1.next + 1) .dead).heap.get s.next = some (.cells [.int .i64 n, v] none) := by simp -implicitDefEqProofs (disch := omega) [j1]
    apply zz
    refine Cd.ra (h := ?_)
    apply Run.by_eq
    · intro self
      conv => lhs; simp -implicitDefEqProofs (maxSteps := 300000) (disch := omega) [-getElem?_pos, -getElem?_neg, Fr.get_mk, hpl]
    try (with_reducible refine Run.ret ?_)
    apply zz
    refine Run.call ((settle_ev n v fs _ 20000000000 180000000000 hn8 hfs2 (by omega) hends hne (checkErr_le hck) (fun f hf hm => (h9 f hf hm).mono (by omega)) (by omega) (fun e => exc_le (by omega) h9 hl20) hK0 (by omega) (by omega)).mono fun r s3 hv => ?_)
    obtain ⟨k3, β, B, rfl, hβ1, hβ2, hβ3, hSet⟩ := hv
    have k3a := k3.1
    have k3b := k3.2
    simp only [upded_next'] at k3a k3b hβ1
    have hnet : ∀ u : Nat, u < n → netB fs B u = Mass.zero := fun u hu => settled_zero hSet hends hne hzero hu
    have hold3 : ∀ i, i < s.next → s3.heap.get i = s.heap.get i := fun i hi => by rw [k3b i (by omega)]; simp -implicitDefEqProofs (disch := omega) [hold]
    have hf3 : FlAt s3 v fs := hf.keep ⟨by omega, hold3⟩
    have q1 : s3.heap.get s.next = some (.cells [.int .i64 n, v] none) := (k3b _ (by omega)).trans hpl
    have q2 : s3.heap.get (s.next + 1) = some (.cells [.slice none 0 0] none) := by rw [k3b _ (by omega)]; simp -implicitDefEqProofs (disch := omega) [j2]
    have q3 : s3.heap.get (s.next + 1 + 1) = some (.cells [.int .i64 0] none) := by rw [k3b _ (by omega)]; simp -implicitDefEqProofs (disch := omega) [j3]
    have q5 : s3.heap.get w1.next = some (.deferred true) := by rw [k3b _ (by omega)]; simp -implicitDefEqProofs (disch := omega) [j5]
    apply Run.by_eq
    · intro self
      conv => lhs; simp -implicitDefEqProofs (maxSteps := 300000) (disch := omega) [-getElem?_pos, -getElem?_neg]
    try (with_reducible refine Run.ret ?_)
    apply zz
    obtain ⟨a, c, rfl⟩ := hf3.shape
    rw [List.length_map] at hf3 q1 hf hfs2
    have nl := natOf_cast .i64 fs.length
    apply zz
    refine Cd.ra (h := ?_)
    apply Run.by_eq
    · intro self
      conv => lhs; simp -implicitDefEqProofs (maxSteps := 300000) (disch := omega) [-getElem?_pos, -getElem?_neg, Fr.get_mk, q1, nl]
    try (with_reducible refine Run.ret ?_)
    apply zz
    refine Cd.ra (h := ?_)
    apply Run.by_eq
    · intro self
      conv => lhs; simp -implicitDefEqProofs (maxSteps := 300000) (disch := omega) [-getElem?_pos, -getElem?_neg, Fr.get_mk, q1]
    try (with_reducible refine Run.ret ?_)
    apply zz
    refine Cd.inv (fun z f s' => ∃ k : Nat, k ≤ fs.length ∧ z = fs.length - k ∧ f.marks = [w1.next] ∧ f.get 34 = .int .i64 k ∧ f.get 33 = .int .i64 fs.length ∧ f.get 32 = .slice a fs.length c ∧ f.get 1 = .pointer (some ⟨s.next, 0, none⟩) ∧ f.get 2 = .pointer (some ⟨s.next + 1, 0, none⟩) ∧ f.get 3 = .pointer (some ⟨s.next + 1 + 1, 0, none⟩) ∧ f.get 7 = .slice (some ⟨β, 0, none⟩) fs.length fs.length ∧ f.get 8 = .slice (some ⟨s3.next, 0, none⟩) fs.length fs.length ∧ Keep s3 s' ∧ s3.next < s'.next ∧
      s'.heap.get s3.next = some (.cells (flatG (knG fs n k) fs.length) none)) fs.length ?_ ?_
    · refine ⟨0, by omega, rfl, by simp, by simp, by simp, by simp, by simp [Fr.get_mk], by simp [Fr.get_mk], by simp [Fr.get_mk], by simp [Fr.get_mk], by simp, ⟨by (try simp only [pushed_next', upded_next']); omega, fun i hi => by simp -implicitDefEqProofs (disch := omega) []⟩, by simp, ?_⟩
      rw [show knG fs n 0 = fun _ => [.int .i64 0, .int .i64 0, .int .i64 0, .int .i64 0, .int .i64 0] from by funext j; unfold knG; rw [if_neg (by omega)], flatG_same]
      simp -implicitDefEqProofs (disch := omega)
    rintro z f s' ⟨k, hk, rfl, hm, h34, h33, h32, h1, h2, h3, h7, h8, hkp, hnx, hg⟩
    have hkpa := hkp.1
    have hkpb := hkp.2
    by_cases hlt : k < fs.length
    · obtain ⟨g, hgk⟩ : ∃ g, fs[k]? = some g := ⟨fs[k], by simp [hlt]⟩
      obtain ⟨hV1, hV2⟩ := hends g (List.mem_of_getElem? hgk)
      have hcl : closeF fs n k = closeAt fs n k g := by unfold closeF; rw [hgk]
      have hfv := fun hm => found_value (n := n) (B := B) hends hne hnet hgk hm
      have hlr := lab_rt (i := k) hends hV1 hV2
      obtain ⟨b, off, o, cs, gg, rfl, hb, ho, hc, ht⟩ := FlAt.at (hf3.keep hkp) hgk
      have hputK : ∀ (st : Int) (mm : Mass), closeAt fs n k g = ⟨st, mm⟩ → putL (k * 5) [.int .i64 st, .int .i64 mm.a, .int .i64 mm.b, .int .i64 mm.c, .int .i64 mm.d] (flatG (knG fs n k) fs.length) = some (flatG (knG fs n (k + 1)) fs.length) := fun st mm h => by
        rw [← knG_succ, hcl, h]
        exact flatG_put (knG_length fs n k) rfl hlt
      obtain ⟨g0, g1, gm, m⟩ := g
      rw [FlowD.cs] at ht
      simp only [] at ht hV1 hV2 hlr hfv
      apply zz
      refine Cd.ra (h := ?_)
      apply Run.by_eq
      · intro self
        conv => lhs; simp -implicitDefEqProofs (maxSteps := 300000) (disch := omega) [-getElem?_pos, -getElem?_neg, h34, h33]
      try (with_reducible refine Run.ret ?_)
      apply zz
      apply Cd.ite rfl
      · conv => lhs; simp -implicitDefEqProofs (maxSteps := 300000) (disch := omega) [-getElem?_pos, -getElem?_neg]
      all_goals intro c1
      all_goals try (cases c1; done)
      all_goals try simp only [Bool.not_eq_true', Bool.not_eq_false', decide_eq_true_eq, decide_eq_false_iff_not] at c1
      all_goals apply zz
      · apply zz
        refine Cd.ra (h := ?_)
        apply Run.by_eq
        · intro self
          conv => lhs; simp -implicitDefEqProofs (maxSteps := 300000) (disch := omega) [-getElem?_pos, -getElem?_neg, h34, h32, ho, hc, ht, hlt]
        try (with_reducible refine Run.ret ?_)
        apply zz
        refine Cd.ra (h := ?_)
        apply Run.by_eq
        · intro self
          conv => lhs; simp -implicitDefEqProofs (maxSteps := 300000) (disch := omega) [-getElem?_pos, -getElem?_neg]
        try (with_reducible refine Run.ret ?_)
        apply zz
        cases gm with
        | true =>
          have hput := hputK 1 m (by unfold closeAt; rfl)
          apply zz
          apply Cd.ite rfl
          · conv => lhs; simp -implicitDefEqProofs (maxSteps := 300000) (disch := omega) [-getElem?_pos, -getElem?_neg]
          all_goals intro c2
          all_goals try (cases c2; done)
          all_goals try simp only [Bool.not_eq_true', Bool.not_eq_false', decide_eq_true_eq, decide_eq_false_iff_not] at c2
          all_goals apply zz
          apply zz
          refine Cd.ra (h := ?_)
          apply Run.by_eq
          · intro self
            conv => lhs; simp -implicitDefEqProofs (maxSteps := 300000) (disch := omega) [-getElem?_pos, -getElem?_neg, h8, hg, hlt, hput]
          try (with_reducible refine Run.ret ?_)
          apply zz
          refine Cd.ra (h := ?_)
          apply Run.by_eq
          · intro self
            conv => lhs; simp -implicitDefEqProofs (maxSteps := 300000) (disch := omega) [-getElem?_pos, -getElem?_neg, h34]
          try (with_reducible refine Run.ret ?_)
          apply zz
          refine LoopK.nm (fs.length - (k + 1)) (by omega) ⟨k + 1, by omega, rfl, by simp [hm], by simp, by simp [h33], by simp [h32], by simp [h1], by simp [h2], by simp [h3], by simp [h7], by simp [h8], ⟨by (try simp only [pushed_next', upded_next']); omega, fun i hi => by simp -implicitDefEqProofs (disch := omega) [hkpb]⟩, by (try simp only [pushed_next', upded_next']); omega, by simp -implicitDefEqProofs (disch := omega)⟩
        | false =>
          apply zz
          apply Cd.ite rfl
          · conv => lhs; simp -implicitDefEqProofs (maxSteps := 300000) (disch := omega) [-getElem?_pos, -getElem?_neg]
          all_goals intro c2
          all_goals try (cases c2; done)
          all_goals try simp only [Bool.not_eq_true', Bool.not_eq_false', decide_eq_true_eq, decide_eq_false_iff_not] at c2
          all_goals apply zz
          have q1' := (hkpb s.next (by omega)).trans q1
          have ve : veq 4 (Value.slice (some ⟨b, off, none⟩) fs.length c) (Value.slice (some ⟨b, off, none⟩) fs.length c) = true := veq_slice _ _ _ _ _
          apply zz
          refine Cd.drawnH (pl := [(0, 0, false, false), (1, 0, false, false), (3, 0, false, false), (4, 8, false, false), (5, 0, false, false), (6, 32, false, false), (2, 3, true, false), (7, 127, true, false), (8, 255, false, false)]) [false, false, true, true, true, true, false, false, false] (by kernel_rfl) (by decide) (by decide) (by conv => lhs; simp only [List.map_cons, List.map_nil]) (by conv => lhs; simp [strip, orderedG, flagH]) ?_
          apply Run.by_eq
          · intro self
            conv => lhs; simp -implicitDefEqProofs (maxSteps := 300000) (disch := omega) [-getElem?_pos, -getElem?_neg, h1, q1', ve]
          try (with_reducible refine Run.ret ?_)
          apply zz
          refine Run.call ((joins_ev n k _ fs _ (hf3.keep ⟨by (try simp only [pushed_next', upded_next']); omega, fun i hi => by simp -implicitDefEqProofs (disch := omega) [hkpb]⟩) (by omega)).mono fun r w4 hv => ?_)
          obtain ⟨k4, hb4, es, rfl, hbs, hH, hF⟩ := hv
          have k4a := k4.1
          have k4b := k4.2
          try simp only [pushed_next', upded_next'] at k4a k4b hbs
          apply Run.by_eq
          · intro self
            conv => lhs; simp -implicitDefEqProofs (maxSteps := 300000) (disch := omega) [-getElem?_pos, -getElem?_neg, k4b, q1', ve]
          try (with_reducible refine Run.ret ?_)
          apply zz
          refine Run.call ((joined_ev hb4 es _ g0 g1 _ hH hF).mono fun v wy hv => ?_)
          obtain ⟨rfl, y⟩ := hv
          have ya := y.1
          have yb := y.2
          try simp only [pushed_next', upded_next'] at ya yb
          apply Run.by_eq
          · intro self
            conv => lhs; simp -implicitDefEqProofs (maxSteps := 300000) (disch := omega) [-getElem?_pos, -getElem?_neg, yb, k4b, q1', ve]
          try (with_reducible refine Run.ret ?_)
          apply zz
          by_cases hr : rtF k fs 0 id g0 = rtF k fs 0 id g1
          · have hput := hputK 3 Mass.zero (by unfold closeAt; rw [if_neg (by simp), if_pos (hlr.2 hr)])
            simp only [Mass.zero] at hput
            apply zz
            apply Cd.ite rfl
            · conv => lhs; simp -implicitDefEqProofs (maxSteps := 300000) (disch := omega) [-getElem?_pos, -getElem?_neg, hr]
            all_goals intro c3
            all_goals try (cases c3; done)
            all_goals try simp only [Bool.not_eq_true', Bool.not_eq_false', decide_eq_true_eq, decide_eq_false_iff_not] at c3
            all_goals apply zz
            apply zz
            refine Cd.ra (h := ?_)
            apply Run.by_eq
            · intro self
              conv => lhs; simp -implicitDefEqProofs (maxSteps := 300000) (disch := omega) [-getElem?_pos, -getElem?_neg, h8, hg, hlt, hput, yb, k4b]
            try (with_reducible refine Run.ret ?_)
            apply zz
            refine Cd.ra (h := ?_)
            apply Run.by_eq
            · intro self
              conv => lhs; simp -implicitDefEqProofs (maxSteps := 300000) (disch := omega) [-getElem?_pos, -getElem?_neg, h34]
            try (with_reducible refine Run.ret ?_)
            apply zz
            refine LoopK.nm (fs.length - (k + 1)) (by omega) ⟨k + 1, by omega, rfl, by simp [hm], by simp, by simp [h33], by simp [h32], by simp [h1], by simp [h2], by simp [h3], by simp [h7], by simp [h8], ⟨by (try simp only [pushed_next', upded_next']); omega, fun i hi => by simp -implicitDefEqProofs (disch := omega) [hkpb, yb, k4b]⟩, by (try simp only [pushed_next', upded_next']); omega, by simp -implicitDefEqProofs (disch := omega)⟩
          · have hput := hputK 2 (B k) (hfv rfl hr)
            have hβ4 := (hkpb β hβ2).trans hβ3
            have hget := balL_get B hlt
            unfold Mass.cs at hget
            apply zz
            apply Cd.ite rfl
            · conv => lhs; simp -implicitDefEqProofs (maxSteps := 300000) (disch := omega) [-getElem?_pos, -getElem?_neg, hr]
            all_goals intro c3
            all_goals try (cases c3; done)
            all_goals try simp only [Bool.not_eq_true', Bool.not_eq_false', decide_eq_true_eq, decide_eq_false_iff_not] at c3
            all_goals apply zz
            apply zz
            refine Cd.ra (h := ?_)
            apply Run.by_eq
            · intro self
              conv => lhs; simp -implicitDefEqProofs (maxSteps := 300000) (disch := omega) [-getElem?_pos, -getElem?_neg, h7, h8, hg, hβ4, hget, hlt, hput, yb, k4b]
            try (with_reducible refine Run.ret ?_)
            apply zz
            refine Cd.ra (h := ?_)
            apply Run.by_eq
            · intro self
              conv => lhs; simp -implicitDefEqProofs (maxSteps := 300000) (disch := omega) [-getElem?_pos, -getElem?_neg, h34]
            try (with_reducible refine Run.ret ?_)
            apply zz
            refine LoopK.nm (fs.length - (k + 1)) (by omega) ⟨k + 1, by omega, rfl, by simp [hm], by simp, by simp [h33], by simp [h32], by simp [h1], by simp [h2], by simp [h3], by simp [h7], by simp [h8], ⟨by (try simp only [pushed_next', upded_next']); omega, fun i hi => by simp -implicitDefEqProofs (disch := omega) [hkpb, yb, k4b]⟩, by (try simp only [pushed_next', upded_next']); omega, by simp -implicitDefEqProofs (disch := omega)⟩
      · simp at c1; omega
    · obtain rfl : k = fs.length := by omega
      apply zz
      refine Cd.ra (h := ?_)
      apply Run.by_eq
      · intro self
        conv => lhs; simp -implicitDefEqProofs (maxSteps := 300000) (disch := omega) [-getElem?_pos, -getElem?_neg, h34, h33]
      try (with_reducible refine Run.ret ?_)
      apply zz
      apply Cd.ite rfl
      · conv => lhs; simp -implicitDefEqProofs (maxSteps := 300000) (disch := omega) [-getElem?_pos, -getElem?_neg]
      all_goals intro c1
      all_goals try (cases c1; done)
      all_goals try simp only [Bool.not_eq_true', Bool.not_eq_false', decide_eq_true_eq, decide_eq_false_iff_not] at c1
      all_goals apply zz
      have q2' := (hkpb (s.next + 1) (by omega)).trans q2
      have q3' := (hkpb (s.next + 1 + 1) (by omega)).trans q3
      have q5' := (hkpb w1.next (by omega)).trans q5
      apply zz
      refine Cd.ra (h := ?_)
      apply Run.by_eq
      · intro self
        conv => lhs; simp -implicitDefEqProofs (maxSteps := 300000) (disch := omega) [-getElem?_pos, -getElem?_neg, h2, h3, h8, q2', q3']
      try (with_reducible refine Run.ret ?_)
      apply zz
      apply Leave.one (m := w1.next) (by first | exact .inl rfl | exact .inr rfl) (by simp only [Fr.marks_put, hm])
      · simp -implicitDefEqProofs (disch := omega) [q5']
      · conv => lhs; simp -implicitDefEqProofs (disch := omega) [Try.results24, h2, h3]
      refine ⟨⟨by (try simp only [upded_next']); omega, fun i hi => ?_⟩, _, rfl, ?_⟩
      · simp -implicitDefEqProofs (disch := omega)
        exact (hkpb i (by omega)).trans (hold3 i hi)
      have hfl : flatG (knG fs n fs.length) fs.length = flatG (fun j => (closeF fs n j).cs) fs.length := flatG_congr fun j hj => by unfold knG; rw [if_pos hj]
      rw [hfl] at hg
      rw [List.map_map]
      exact sl_of_flat (o := none) (g := fun j => (closeF fs n j).cs) (by (try simp only [upded_next']); omega) (fun j => rfl) (by simp -implicitDefEqProofs (disch := omega) [hg])
  · refine ⟨_, b0, .inr (.inl ⟨rfl, ?_⟩)⟩
    with_reducible repeat first|apply Z0|apply Z1|apply Z2|apply Z3|apply Z4|apply Z5|refine Z6 rfl ?_|apply Z7|apply Z8
    apply Leave.one (m := w1.next) (by first | exact .inl rfl | exact .inr rfl) (by simp only [Fr.marks_put, fr0_marks])
    · simp -implicitDefEqProofs (disch := omega) [b1]
    · conv => lhs; simp -implicitDefEqProofs (disch := omega) [Try.results24, Fr.get_mk, b3, b4]
    have hce' : closeErr n fs = 12 := by rw [hce, provF_at hz (by omega) (by omega) hp]
    have hck' : closeKs n fs = [] := by unfold closeKs; rw [hce', if_neg (by decide)]
    rw [hce', hck']
    exact ⟨⟨by (try simp only [upded_next']); omega, fun i hi => by simp -implicitDefEqProofs (disch := omega) [hold]⟩, _, rfl, .nil 0⟩
end Go.Proofs.Ytifkpaomhnlahaa
namespace Go.Proofs.Ytifkpaomhnlahaa
open Go Kern
section
variable {T : Tab} {self : Self} {ds : List (Option Tmp)} {f : Fr} {s : St} {pend : List DRec}
@[simp] theorem stepD_nil : stepD T self ds [] pend f s = gd (pend.all (recD T self ds s)) (some (f, s)) := rfl
@[simp] theorem stepD_heavy (i m : Nat) (nw : Bool) (o : SOp) (r : List (Nat × Nat × Bool × Bool × SOp)) : stepD T self ds ((i, m, true, nw, o) :: r) pend f s = gd (pend.all (recD T self ds s)) (ob (itemD T self ds o f s) fun p => stepD T self ds r (pend.filter fun q => !m.testBit q.idx) (f.put o.d p.1) p.2) := rfl
@[simp] theorem stepD_light (i m : Nat) (nw : Bool) (o : SOp) (r : List (Nat × Nat × Bool × Bool × SOp)) : stepD T self ds ((i, m, false, nw, o) :: r) pend f s = ob (itemD T self ds o f s) fun p => stepD T self ds r (⟨i, nw, o, f, p.1, s.next⟩ :: pend) (f.put o.d p.1) p.2 := rfl
theorem filter_bt {α : Type} (p : α → Bool) (x : α) (l : List α) : (x :: l).filter p = bt (p x) (x :: l.filter p) (l.filter p) := by
  rw [List.filter_cons]; cases p x <;> rfl
@[simp] theorem recD_plain (i : Nat) (nw : Bool) (d : Option Tmp) (op : Op) (v : Value) (a : Nat) : recD T self ds s ⟨i, nw, ⟨d, op, none⟩, f, v, a⟩ = bt nw (objEq (s.heap.get a) (Kern.newObj T op f)) (valEq (actO T self op f s) v) := rfl
@[simp] theorem recD_guard (i : Nat) (nw : Bool) (d : Option Tmp) (op : Op) (j : Nat) (b : Bool) (v : Value) (a : Nat) : recD T self ds s ⟨i, nw, ⟨d, op, some (j, b)⟩, f, v, a⟩ = bt (guardO b f ds[j]?) (bt nw (objEq (s.heap.get a) (Kern.newObj T op f)) (valEq (actO T self op f s) v)) true := rfl
@[simp] theorem objEq_some (a b : AObj) : objEq (some a) (some b) = oeq a b := rfl
@[simp] theorem oeq_cells (c c' : List Value) : oeq (.cells c none) (.cells c' none) = (listEq (veq 5) c c' && true) := rfl
theorem newObj_buildSlice (t : TypeId) (len : Nat) (pl0 : Array (Nat × Operand)) {z : Value} {e : TypeId} {n : Nat} (h1 : T.und t = some (.slice e)) (h2 : T.size e = some n) (h3 : T.zero e = some z) (h4 : (Nat.beq (lenL z.cells.toList) n && Nat.ble (len * n) 16777216) = true) :
    Kern.newObj T (.buildSlice t len pl0) f = ob (fillL f.eval (placesA n pl0.toList) (repeatL z.cells.toList len)) fun c => some (.cells c none) := by
  have h : compOp T (.buildSlice t len pl0) = some (.new fun ρ => ob (fillL ρ (placesA n pl0.toList) (repeatL z.cells.toList len)) fun c => some (.cells c none, fun i => .slice (some ⟨i, 0, none⟩) len len)) := by
    show ob (T.und t) _ = _
    rw [h1]
    show ob (T.size e) (fun n => ob (T.zero e) _) = _
    rw [h2]
    show ob (T.zero e) _ = _
    rw [h3]
    show gd _ _ = _
    rw [h4]; rfl
  unfold Kern.newObj
  rw [h]
  show Option.map (·.1) (ob (fillL f.eval (placesA n pl0.toList) (repeatL z.cells.toList len)) fun c => some (AObj.cells c none, fun i => Value.slice (some ⟨i, 0, none⟩) len len)) = _
  cases fillL f.eval (placesA n pl0.toList) (repeatL z.cells.toList len) <;> rfl
end
@[simp] theorem newObj_50 {f : Fr} {pl0 : Array (Nat × Operand)} : Kern.newObj TT (.buildSlice 50 1 pl0) f = ob (fillL f.eval (placesA 5 pl0.toList) (repeatL [.int .i64 0, .int .i64 0, .int .i64 0, .int .i64 0, .int .i64 0] 1)) fun c => some (.cells c none) :=
  newObj_buildSlice 50 1 pl0 und_50 size_56 zero_56 rfl
end Go.Proofs.Ytifkpaomhnlahaa
namespace Go.Proofs.Ytifkpaomhnlahaa
open Go Kern
/-- Rows of cells that are gathered, in a block of their own. -/
def OwnG (n N : Nat) (s : St) (w : Value) (l : List (List Value)) : Prop :=
  (l = [] ∧ w = .slice none 0 0) ∨ ∃ b, w = .slice (some ⟨b, 0, none⟩) l.length l.length ∧ l ≠ [] ∧ N ≤ b ∧ b < s.next ∧ s.heap.get b = some (.cells l.flatten (some n))
theorem OwnG.sl {n N : Nat} {s : St} {w : Value} {l : List (List Value)} (h : OwnG n N s w l) (hn : ∀ x ∈ l, x.length = n) : SlAt n s w l := by
  rcases h with ⟨rfl, rfl⟩ | ⟨b, rfl, hne, h1, h2, h3⟩
  · exact .nil 0
  · exact sl_of_cells h2 hn h3
def knL (fs : List FlowD) (n k : Nat) : List (List Value) := (List.range k).map fun j => (closeF fs n j).cs
theorem knL_succ (fs : List FlowD) (n k : Nat) : knL fs n (k + 1) = knL fs n k ++ [(closeF fs n k).cs] := by
  unfold knL; rw [List.range_succ, List.map_append]; rfl
theorem knL_length (fs : List FlowD) (n k : Nat) : (knL fs n k).length = k := by simp [knL]
theorem knL_flat (fs : List FlowD) (n : Nat) : ∀ k, (knL fs n k).flatten.length = k * 5
  | 0 => rfl
  | k + 1 => by
    rw [knL_succ, List.flatten_append, List.length_append, knL_flat fs n k]
    simp [KnownD.cs]; omega
theorem OwnG.step {N k : Nat} {s s' : St} {fs : List FlowD} {n b : Nat} {kd : KnownD} (hcl : closeF fs n k = kd) (h2 : s.next ≤ b) (hN : N ≤ s.next) (h3 : b < s'.next) (h : s'.heap.get b = some (.cells ((knL fs n k).flatten ++ kd.cs) (some 5))) :
    OwnG 5 N s' (.slice (some ⟨b, 0, none⟩) (k + 1) (k + 1)) (knL fs n (k + 1)) := by
  refine .inr ⟨b, by rw [knL_length], by rw [knL_succ]; simp, by omega, h3, ?_⟩
  rw [h, knL_succ, hcl]; simp
theorem clash_none {n : Nat} {fs : List FlowD} : (clashR n fs).1 = [] ↔ provF (rtF (-1) fs 0 id) fs n n 0 = none := by
  unfold clashR
  cases hp : provF (rtF (-1) fs 0 id) fs n n 0 with
  | none => simp
  | some p =>
    have hne : p.1 ≠ [] := by
      obtain ⟨k, hk, hat⟩ := provF_some hp
      unfold provAt at hat
      split at hat
      · cases hz : nzK (excM (clsN (rtF (-1) fs 0 id) k n) fs) with
        | none => rw [hz] at hat; cases hat
        | some j => rw [hz] at hat; cases hat; exact cls_self _ (by omega)
      · cases hat
    simp [hne]
set_option maxRecDepth 100000 in
set_option maxHeartbeats 4000000 in
theorem refClose_ev (u : Int) (v : Value) (fs : List FlowD) (s : St) (hf : FlAt s v fs) (hl : fs.length ≤ 1000000) :
    Ev TT 25 [plantV u v] s fun r s' => Keep s s' ∧ ∃ w, r = .tuple #[w, .int .i64 (closeErr u fs)] ∧ SlAt 5 s' w ((closeKs u fs).map KnownD.cs) := by
  obtain ⟨a, c, rfl⟩ := hf.shape
  rw [List.length_map] at hf ⊢
  unfold plantV
  refine Ev.intro (fn := Try.f25) rfl (by kernel_rfl) rfl rfl ?_
  apply zz
  refine Cd.ra (h := ?_)
  apply Run.by_eq
  · intro self
    conv => lhs; simp -implicitDefEqProofs (maxSteps := 300000) (disch := omega) [-getElem?_pos, -getElem?_neg]
  try (with_reducible refine Run.ret ?_)
  apply zz
  refine Cd.ra (h := ?_)
  apply Run.by_eq
  · intro self
    conv => lhs; simp -implicitDefEqProofs (maxSteps := 300000) (disch := omega) [-getElem?_pos, -getElem?_neg]
  try (with_reducible refine Run.ret ?_)
  apply zz
  refine Run.call ((refCheck_ev u _ fs _ (hf.keep ⟨by (try simp only [pushed_next', upded_next']); omega, fun i hi => by simp -implicitDefEqProofs (disch := omega) []⟩) hl).mono fun v wq hv => ?_)
  obtain ⟨rfl, q⟩ := hv
  have qa := q.1
  have qb := q.2
  try simp only [pushed_next', upded_next'] at qa qb
  apply Run.by_eq
  · intro self
    conv => lhs; simp -implicitDefEqProofs (maxSteps := 300000) (disch := omega) [-getElem?_pos, -getElem?_neg]
  try (with_reducible refine Run.ret ?_)
  apply zz
  refine Cd.ra (h := ?_)
  apply Run.by_eq
  · intro self
    conv => lhs; simp -implicitDefEqProofs (maxSteps := 300000) (disch := omega) [-getElem?_pos, -getElem?_neg]
  try (with_reducible refine Run.ret ?_)
  apply zz
  apply Cd.ite rfl
  · conv => lhs; simp -implicitDefEqProofs (maxSteps := 300000) (disch := omega) [-getElem?_pos, -getElem?_neg]
  all_goals intro c0
  all_goals try (cases c0; done)
  all_goals try simp only [Bool.not_eq_true', Bool.not_eq_false', decide_eq_true_eq, decide_eq_false_iff_not] at c0
  all_goals apply zz
  · apply zz
    refine Cd.ra (h := ?_)
    apply Run.by_eq
    · intro self
      conv => lhs; simp -implicitDefEqProofs (maxSteps := 300000) (disch := omega) [-getElem?_pos, -getElem?_neg]
    try (with_reducible refine Run.ret ?_)
    apply zz
    apply Leave.mk (by first | exact .inl rfl | exact .inr rfl) (by simp only [Fr.marks_put, fr0_marks])
    · conv => lhs; simp -implicitDefEqProofs (disch := omega) [Try.results25]
    have hce : closeErr u fs = checkErr u fs := by unfold closeErr; rw [if_pos c0]
    have hck : closeKs u fs = [] := by unfold closeKs; rw [if_neg (by rw [hce]; exact c0)]
    rw [hce, hck]
    exact ⟨⟨by (try simp only [pushed_next', upded_next']); omega, fun i hi => by simp -implicitDefEqProofs (disch := omega) [qb]⟩, _, rfl, .nil 0⟩
  have hck : checkErr u fs = 0 := c0
  obtain ⟨hu1, hu2, hl20, _⟩ := checkErr_ok hck
  have hends := ends_in hck
  obtain ⟨n, hn⟩ : ∃ n : Nat, u = n := ⟨u.toNat, by omega⟩
  subst hn
  have hn8 : n ≤ 8 := by omega
  have hce : closeErr n fs = match provF (rtF (-1) fs 0 id) fs n n 0 with | some _ => 12 | none => 0 := by unfold closeErr; rw [if_neg (by simp [hck])]; rfl
  apply zz
  refine Cd.ra (h := ?_)
  apply Run.by_eq
  · intro self
    conv => lhs; simp -implicitDefEqProofs (maxSteps := 300000) (disch := omega) [-getElem?_pos, -getElem?_neg, qb]
  try (with_reducible refine Run.ret ?_)
  apply zz
  refine Run.call ((clash_ev n _ fs _ (hf.keep ⟨by (try simp only [pushed_next', upded_next']); omega, fun i hi => by simp -implicitDefEqProofs (disch := omega) [qb]⟩) hck).mono fun r w2 hv => ?_)
  obtain ⟨k2, wv, rfl, hw⟩ := hv
  have k2a := k2.1
  have k2b := k2.2
  have hcn := clash_none (n := n) (fs := fs)
  generalize clashR n fs = cr at hw hcn ⊢
  obtain ⟨cl, ck⟩ := cr
  simp only [] at hw hcn
  obtain ⟨a2, c2, rfl⟩ := hw.shape
  rw [List.length_map] at hw ⊢
  apply Run.by_eq
  · intro self
    conv => lhs; simp -implicitDefEqProofs (maxSteps := 300000) (disch := omega) [-getElem?_pos, -getElem?_neg]
  try (with_reducible refine Run.ret ?_)
  apply zz
  cases hp : provF (rtF (-1) fs 0 id) fs n n 0 with
  | some p =>
    rw [hp] at hce hcn
    have hcl : cl ≠ [] := fun h => by simp [h] at hcn
    have hlen : 0 < cl.length := List.length_pos_iff.2 hcl
    apply zz
    refine Cd.ra (h := ?_)
    apply Run.by_eq
    · intro self
      conv => lhs; simp -implicitDefEqProofs (maxSteps := 300000) (disch := omega) [-getElem?_pos, -getElem?_neg, hlen]
    try (with_reducible refine Run.ret ?_)
    apply zz
    apply Cd.ite rfl
    · conv => lhs; simp -implicitDefEqProofs (maxSteps := 300000) (disch := omega) [-getElem?_pos, -getElem?_neg]
    all_goals intro c1
    all_goals try (cases c1; done)
    all_goals try simp only [Bool.not_eq_true', Bool.not_eq_false', decide_eq_true_eq, decide_eq_false_iff_not] at c1
    all_goals apply zz
    apply zz
    refine Cd.ra (h := ?_)
    apply Run.by_eq
    · intro self
      conv => lhs; simp -implicitDefEqProofs (maxSteps := 300000) (disch := omega) [-getElem?_pos, -getElem?_neg]
    try (with_reducible refine Run.ret ?_)
    apply zz
    apply Leave.mk (by first | exact .inl rfl | exact .inr rfl) (by simp only [Fr.marks_put, fr0_marks])
    · conv => lhs; simp -implicitDefEqProofs (disch := omega) [Try.results25]
    have hce12 : closeErr n fs = 12 := hce
    have hck' : closeKs n fs = [] := by unfold closeKs; rw [if_neg (by rw [hce12]; decide)]
    rw [hce12, hck']
    exact ⟨⟨by omega, fun i hi => by rw [k2b i (by omega)]; simp -implicitDefEqProofs (disch := omega) [qb]⟩, _, rfl, .nil 0⟩
  | none =>
  rw [hp] at hce hcn
  have hcl : cl = [] := hcn.2 rfl
  have hck' : closeKs n fs = (List.range fs.length).map (closeF fs n) := by unfold closeKs; rw [if_pos hce]; rfl
  rw [hce, hck']
  subst hcl
  have h9 := checkErr_le9 hck
  have hold2 : ∀ i, i < s.next → w2.heap.get i = s.heap.get i := fun i hi => by rw [k2b i (by omega)]; simp -implicitDefEqProofs (disch := omega) [qb]
  have hp2 : w2.heap.get s.next = some (.cells [.int .i64 n, .slice a fs.length c] none) := by rw [k2b _ (by omega)]; simp -implicitDefEqProofs (disch := omega) [qb]
  have hf2 := hf.keep (s' := w2) ⟨by omega, hold2⟩
  apply zz
  refine Cd.ra (h := ?_)
  apply Run.by_eq
  · intro self
    conv => lhs; simp -implicitDefEqProofs (maxSteps := 300000) (disch := omega) [-getElem?_pos, -getElem?_neg]
  try (with_reducible refine Run.ret ?_)
  apply zz
  apply Cd.ite rfl
  · conv => lhs; simp -implicitDefEqProofs (maxSteps := 300000) (disch := omega) [-getElem?_pos, -getElem?_neg]
  all_goals intro c1
  all_goals try (cases c1; done)
  all_goals try simp only [Bool.not_eq_true', Bool.not_eq_false', decide_eq_true_eq, decide_eq_false_iff_not] at c1
  all_goals apply zz
  apply zz
  refine Cd.ra (h := ?_)
  apply Run.by_eq
  · intro self
    conv => lhs; simp -implicitDefEqProofs (maxSteps := 300000) (disch := omega) [-getElem?_pos, -getElem?_neg]
  try (with_reducible refine Run.ret ?_)
  apply zz
  refine Cd.ra (h := ?_)
  apply Run.by_eq
  · intro self
    conv => lhs; simp -implicitDefEqProofs (maxSteps := 300000) (disch := omega) [-getElem?_pos, -getElem?_neg]
  try (with_reducible refine Run.ret ?_)
  apply zz
  refine Cd.inv (fun z f s' => ∃ k : Nat, k ≤ fs.length ∧ z = fs.length - k ∧ f.marks = [] ∧ f.get 8 = .int .i64 k ∧ f.get 1 = .pointer (some ⟨s.next, 0, none⟩) ∧ Keep w2 s' ∧ OwnG 5 w2.next s' (f.get 7) (knL fs n k)) fs.length ?_ ?_
  · exact ⟨0, by omega, rfl, by simp, by simp, by simp, Keep.refl _, .inl ⟨rfl, by simp⟩⟩
  rintro z f s' ⟨k, hk, rfl, hm, h8, h1, hkp, hU⟩
  have hkpa := hkp.1
  have hkpb := hkp.2
  have hg0 := (hkpb s.next (by omega)).trans hp2
  by_cases hlt : k < fs.length
  · obtain ⟨g, hg⟩ : ∃ g, fs[k]? = some g := ⟨fs[k], by simp [hlt]⟩
    obtain ⟨hV1, hV2⟩ := hends g (List.mem_of_getElem? hg)
    have hcf : closeF fs n k = closeAt fs n k g := by unfold closeF; rw [hg]
    obtain ⟨b, off, o, cs, gg, rfl, hb, ho, hc, ht⟩ := FlAt.at (hf2.keep hkp) hg
    have hfl5 := knL_flat fs n k
    have hkl := knL_length fs n k
    obtain ⟨g0, g1, gm, m⟩ := g
    rw [FlowD.cs] at ht
    simp only [] at ht hV1 hV2
    apply zz
    refine Cd.ra (h := ?_)
    apply Run.by_eq
    · intro self
      conv => lhs; simp -implicitDefEqProofs (maxSteps := 300000) (disch := omega) [-getElem?_pos, -getElem?_neg, h8, h1, hg0]
    try (with_reducible refine Run.ret ?_)
    apply zz
    apply Cd.ite rfl
    · conv => lhs; simp -implicitDefEqProofs (maxSteps := 300000) (disch := omega) [-getElem?_pos, -getElem?_neg]
    all_goals intro c2
    all_goals try (cases c2; done)
    all_goals try simp only [Bool.not_eq_true', Bool.not_eq_false', decide_eq_true_eq, decide_eq_false_iff_not] at c2
    all_goals apply zz
    · apply zz
      refine Cd.ra (h := ?_)
      apply Run.by_eq
      · intro self
        conv => lhs; simp -implicitDefEqProofs (maxSteps := 300000) (disch := omega) [-getElem?_pos, -getElem?_neg, h8, h1, hg0, ho, hc, ht, hlt]
      try (with_reducible refine Run.ret ?_)
      apply zz
      refine Cd.ra (h := ?_)
      apply Run.by_eq
      · intro self
        conv => lhs; simp -implicitDefEqProofs (maxSteps := 300000) (disch := omega) [-getElem?_pos, -getElem?_neg]
      try (with_reducible refine Run.ret ?_)
      apply zz
      cases gm with
      | true =>
        have hk1 : closeF fs n k = ⟨1, m⟩ := by rw [hcf]; unfold closeAt; rfl
        apply zz
        apply Cd.ite rfl
        · conv => lhs; simp -implicitDefEqProofs (maxSteps := 300000) (disch := omega) [-getElem?_pos, -getElem?_neg]
        all_goals intro c3
        all_goals try (cases c3; done)
        all_goals try simp only [Bool.not_eq_true', Bool.not_eq_false', decide_eq_true_eq, decide_eq_false_iff_not] at c3
        all_goals apply zz
        rcases hU with ⟨hce0, hw0⟩ | ⟨bu, hw0, hne0, hb1, hb2, hb3⟩
        · have k0 : k = 0 := by rw [hce0] at hkl; exact hkl.symm
          subst k0
          apply zz
          refine Cd.ra (h := ?_)
          apply Run.by_eq
          · intro self
            conv => lhs; simp -implicitDefEqProofs (maxSteps := 300000) (disch := omega) [-getElem?_pos, -getElem?_neg, hw0]
          try (with_reducible refine Run.ret ?_)
          apply zz
          refine Cd.ra (h := ?_)
          apply Run.by_eq
          · intro self
            conv => lhs; simp -implicitDefEqProofs (maxSteps := 300000) (disch := omega) [-getElem?_pos, -getElem?_neg, h8]
          try (with_reducible refine Run.ret ?_)
          apply zz
          refine LoopK.nm (fs.length - (0 + 1)) (by omega) ⟨0 + 1, by omega, rfl, by simp [hm], by simp, by simp [h1], ⟨by (try simp only [pushed_next', upded_next']); omega, fun i hi => by simp -implicitDefEqProofs (disch := omega) [hkpb]⟩, ?_⟩
          rw [knL_succ, hk1, hce0]
          exact .inr ⟨s'.next + 1 + 1, by simp, by simp, by omega, by simp, by simp -implicitDefEqProofs (disch := omega) [KnownD.cs]⟩
        · rw [hkl] at hw0
          apply zz
          refine Cd.ra (h := ?_)
          apply Run.by_eq
          · intro self
            conv => lhs; simp -implicitDefEqProofs (maxSteps := 300000) (disch := omega) [-getElem?_pos, -getElem?_neg, hw0]
          try (with_reducible refine Run.ret ?_)
          apply zz
          apply Run.by_eq
          · intro self
            rw [appV_moreE (size := 5) (n := k) (old := (knL fs n k).flatten) ?happ1 hfl5 (by omega)]
            simp -implicitDefEqProofs (disch := omega) [hb3]
          apply Run.by_eq
          · intro self
            conv => lhs; simp -implicitDefEqProofs (maxSteps := 300000) (disch := omega) [-getElem?_pos, -getElem?_neg, hb3]
          try (with_reducible refine Run.ret ?_)
          apply zz
          refine Cd.ra (h := ?_)
          apply Run.by_eq
          · intro self
            conv => lhs; simp -implicitDefEqProofs (maxSteps := 300000) (disch := omega) [-getElem?_pos, -getElem?_neg, h8]
          try (with_reducible refine Run.ret ?_)
          apply zz
          refine LoopK.nm (fs.length - (k + 1)) (by omega) ⟨k + 1, by omega, rfl, by simp [hm], by simp, by simp [h1], ⟨by (try simp only [pushed_next', upded_next']); omega, fun i hi => by simp -implicitDefEqProofs (disch := omega) [hkpb]⟩, ?_⟩
          rw [knL_succ, hk1]
          exact .inr ⟨s'.next + 1 + 1, by simp [hkl], by simp, by omega, by simp, by simp -implicitDefEqProofs (disch := omega) [KnownD.cs]⟩
      | false =>
        apply zz
        apply Cd.ite rfl
        · conv => lhs; simp -implicitDefEqProofs (maxSteps := 300000) (disch := omega) [-getElem?_pos, -getElem?_neg]
        all_goals intro c3
        all_goals try (cases c3; done)
        all_goals try simp only [Bool.not_eq_true', Bool.not_eq_false', decide_eq_true_eq, decide_eq_false_iff_not] at c3
        all_goals apply zz
        apply zz
        refine Cd.ra (h := ?_)
        apply Run.by_eq
        · intro self
          conv => lhs; simp -implicitDefEqProofs (maxSteps := 300000) (disch := omega) [-getElem?_pos, -getElem?_neg, h1, hg0, h8]
        try (with_reducible refine Run.ret ?_)
        apply zz
        refine Run.call ((refJoined_ev n k _ fs _ hn8 (hf2.keep ⟨by (try simp only [pushed_next', upded_next']); omega, fun i hi => by simp -implicitDefEqProofs (disch := omega) [hkpb]⟩) (by omega) hends).mono fun hs w4 hv => ?_)
        obtain ⟨k4, hI⟩ := hv
        have k4a := k4.1
        have k4b := k4.2
        try simp only [pushed_next', upded_next'] at k4a k4b
        obtain ⟨a4, c4, rfl⟩ := hI.shape
        rw [List.length_map, List.length_map, List.length_range] at hI ⊢
        have hat : ∀ x : Int, -1 ≤ x → x < n → ((List.range (n + 1)).map (labF k fs 0 fun x => (x : Int)))[(x + 1).toNat]? = some (labE fs k x) := fun x h1 h2 => by
          rw [List.getElem?_map, List.getElem?_range (by omega)]; rfl
        obtain ⟨b4, o4, ob4, cs4, gg4, rfl, hb4, ho4, hc4, ht0⟩ := IntsAt.at hI (hat g0 hV1.1 hV1.2)
        obtain ⟨b5, o5, ob5, cs5, gg5, e5, hb5, ho5, hc5, ht1⟩ := IntsAt.at hI (hat g1 hV2.1 hV2.2)
        cases e5
        rw [ho4] at ho5; cases ho5
        rw [hc4] at hc5; cases hc5
        have n0 := natOf_pos .i64 (show 0 ≤ g0 + 1 by omega)
        have n1 := natOf_pos .i64 (show 0 ≤ g1 + 1 by omega)
        have hl0 : (g0 + 1).toNat < n + 1 := by omega
        have hl1 : (g1 + 1).toNat < n + 1 := by omega
        have ve4 : veq 5 (Value.slice (some ⟨b4, o4, none⟩) (n + 1) c4) (Value.slice (some ⟨b4, o4, none⟩) (n + 1) c4) = true := veq_slice _ _ _ _ _
        have hCA : closeAt fs n k ⟨g0, g1, false, m⟩ = if labE fs k g0 = labE fs k g1 then ⟨3, Mass.zero⟩ else if labE fs k g0 ≠ 0 then ⟨2, excM (sideL (labF k fs 0 (fun x => (x : Int))) n (labE fs k g0)) fs⟩ else ⟨2, Mass.zero.sub (excM (sideL (labF k fs 0 (fun x => (x : Int))) n (labE fs k g1)) fs)⟩ := by
          unfold closeAt; rfl
        generalize labE fs k g0 = hA at ht0 hCA
        generalize labE fs k g1 = hB at ht1 hCA
        generalize labF k fs 0 (fun x => (x : Int)) = L at hI hCA hat
        apply Run.by_eq
        · intro self
          conv => lhs; simp -implicitDefEqProofs (maxSteps := 300000) (disch := omega) [-getElem?_pos, -getElem?_neg]
        try (with_reducible refine Run.ret ?_)
        apply zz
        refine Cd.drawnH (pl := [(0, 0, false, false), (1, 0, false, false), (2, 2, false, false), (3, 6, false, false), (4, 15, false, false), (5, 31, false, false), (6, 0, false, false), (7, 0, false, false), (8, 128, false, false), (9, 384, false, false), (10, 960, false, false), (11, 1984, false, false), (12, 63, false, false), (13, 8191, false, false)]) [false, false, false, false, false, false, false, false, false, false, false, false, false, false] (by kernel_rfl) (by decide) (by decide) (by conv => lhs; simp only [List.map_cons, List.map_nil]) (by conv => lhs; simp [strip, orderedG, flagH]) ?_
        apply Run.by_eq
        · intro self
          conv => lhs; simp -implicitDefEqProofs (maxSteps := 300000) (disch := omega) [-getElem?_pos, -getElem?_neg, k4b, ho4, hc4, ht0, ht1, n0, n1, hl0, hl1, ve4]
        try (with_reducible refine Run.ret ?_)
        apply zz
        refine Cd.ra (h := ?_)
        apply Run.by_eq
        · intro self
          conv => lhs; simp -implicitDefEqProofs (maxSteps := 300000) (disch := omega) [-getElem?_pos, -getElem?_neg]
        try (with_reducible refine Run.ret ?_)
        apply zz
        by_cases hAB : hA = hB
        · have hk1 : closeF fs n k = ⟨3, Mass.zero⟩ := by rw [hcf, hCA, if_pos hAB]
          apply zz
          apply Cd.ite rfl
          · conv => lhs; simp -implicitDefEqProofs (maxSteps := 300000) (disch := omega) [-getElem?_pos, -getElem?_neg, hAB]
          all_goals intro c4
          all_goals try (cases c4; done)
          all_goals try simp only [Bool.not_eq_true', Bool.not_eq_false', decide_eq_true_eq, decide_eq_false_iff_not] at c4
          all_goals apply zz
          rcases hU with ⟨hce0, hw0⟩ | ⟨bu, hw0, hne0, hb1, hb2, hb3⟩
          · have k0 : k = 0 := by rw [hce0] at hkl; exact hkl.symm
            subst k0
            apply zz
            refine Cd.ra (h := ?_)
            apply Run.by_eq
            · intro self
              conv => lhs; simp -implicitDefEqProofs (maxSteps := 300000) (disch := omega) [-getElem?_pos, -getElem?_neg, hw0]
            try (with_reducible refine Run.ret ?_)
            apply zz
            refine Cd.ra (h := ?_)
            apply Run.by_eq
            · intro self
              conv => lhs; simp -implicitDefEqProofs (maxSteps := 300000) (disch := omega) [-getElem?_pos, -getElem?_neg, h8]
            try (with_reducible refine Run.ret ?_)
            apply zz
            refine LoopK.nm (fs.length - (0 + 1)) (by omega) ⟨0 + 1, by omega, rfl, by simp [hm], by simp, by simp [h1], ⟨by (try simp only [pushed_next', upded_next']); omega, fun i hi => by simp -implicitDefEqProofs (disch := omega) [k4b, hkpb]⟩, ?_⟩
            rw [knL_succ, hk1, hce0]
            exact .inr ⟨w4.next + 1, by simp, by simp, by omega, by simp, by simp -implicitDefEqProofs (disch := omega) [KnownD.cs, Mass.zero]⟩
          · rw [hkl] at hw0
            apply zz
            refine Cd.ra (h := ?_)
            apply Run.by_eq
            · intro self
              conv => lhs; simp -implicitDefEqProofs (maxSteps := 300000) (disch := omega) [-getElem?_pos, -getElem?_neg, hw0]
            try (with_reducible refine Run.ret ?_)
            apply zz
            apply Run.by_eq
            · intro self
              rw [appV_moreE (size := 5) (n := k) (old := (knL fs n k).flatten) ?happ2 hfl5 (by omega)]
              simp -implicitDefEqProofs (disch := omega) [k4b, hb3]
            apply Run.by_eq
            · intro self
              conv => lhs; simp -implicitDefEqProofs (maxSteps := 300000) (disch := omega) [-getElem?_pos, -getElem?_neg, k4b, hb3]
            try (with_reducible refine Run.ret ?_)
            apply zz
            refine Cd.ra (h := ?_)
            apply Run.by_eq
            · intro self
              conv => lhs; simp -implicitDefEqProofs (maxSteps := 300000) (disch := omega) [-getElem?_pos, -getElem?_neg, h8]
            try (with_reducible refine Run.ret ?_)
            apply zz
            refine LoopK.nm (fs.length - (k + 1)) (by omega) ⟨k + 1, by omega, rfl, by simp [hm], by simp, by simp [h1], ⟨by (try simp only [pushed_next', upded_next']); omega, fun i hi => by simp -implicitDefEqProofs (disch := omega) [k4b, hkpb]⟩, ?_⟩
            rw [knL_succ, hk1]
            exact .inr ⟨w4.next + 1, by simp [hkl], by simp, by omega, by simp, by simp -implicitDefEqProofs (disch := omega) [KnownD.cs, Mass.zero]⟩
        · apply zz
          apply Cd.ite rfl
          · conv => lhs; simp -implicitDefEqProofs (maxSteps := 300000) (disch := omega) [-getElem?_pos, -getElem?_neg, hAB]
          all_goals intro c4
          all_goals try (cases c4; done)
          all_goals try simp only [Bool.not_eq_true', Bool.not_eq_false', decide_eq_true_eq, decide_eq_false_iff_not] at c4
          all_goals apply zz
          apply zz
          refine Cd.ra (h := ?_)
          apply Run.by_eq
          · intro self
            conv => lhs; simp -implicitDefEqProofs (maxSteps := 300000) (disch := omega) [-getElem?_pos, -getElem?_neg]
          try (with_reducible refine Run.ret ?_)
          apply zz
          by_cases hA0 : hA = 0
          · skip
            have hk1 : closeF fs n k = ⟨2, Mass.zero.sub (excM (sideL L n hB) fs)⟩ := by rw [hcf, hCA, if_neg hAB, if_neg (by simp [hA0])]
            have hmxl := exc_le (xs := sideL L n hB) (by omega) h9 hl20
            generalize hmx : excM (sideL L n hB) fs = mx at hk1 hmxl
            apply zz
            apply Cd.ite rfl
            · conv => lhs; simp -implicitDefEqProofs (maxSteps := 300000) (disch := omega) [-getElem?_pos, -getElem?_neg, hA0]
            all_goals intro c5
            all_goals try (cases c5; done)
            all_goals try simp only [Bool.not_eq_true', Bool.not_eq_false', decide_eq_true_eq, decide_eq_false_iff_not] at c5
            all_goals apply zz
            have ve3 : veq 4 (Value.slice (some ⟨b, off, none⟩) fs.length c) (Value.slice (some ⟨b, off, none⟩) fs.length c) = true := veq_slice _ _ _ _ _
            rcases hU with ⟨hce0, hw0⟩ | ⟨bu, hw0, hne0, hb1, hb2, hb3⟩
            · have k0 : k = 0 := by rw [hce0] at hkl; exact hkl.symm
              subst k0
              apply zz
              refine Cd.drawn (pl := [(0, 0, false, false), (1, 0, false, false), (2, 0, false, false), (3, 0, false, false), (4, 0, false, false), (5, 24, true, false), (6, 60, true, false), (7, 126, true, false), (8, 254, false, false), (9, 510, false, true), (10, 1023, true, false), (11, 2047, false, false)]) (by kernel_rfl) (by conv => lhs; simp only [List.map_cons, List.map_nil]) (by conv => lhs; simp [strip, ordered]) ?_
              apply Run.by_eq
              · intro self
                conv => lhs; simp -implicitDefEqProofs (maxSteps := 300000) (disch := omega) [filter_bt, Nat.testBit_eq_decide_div_mod_eq, -getElem?_pos, -getElem?_neg, hw0, h1, k4b, hg0, ve3, ve4]
              try (with_reducible refine Run.ret ?_)
              apply zz
              refine Run.call ((side_ev _ _ hB _ hI (by simp; omega)).mono fun sv w5 hv => ?_)
              obtain ⟨k5, hB5⟩ := hv
              have k5a := k5.1
              have k5b := k5.2
              obtain ⟨a5, c5, rfl⟩ := hB5.shape
              rw [List.length_map, List.length_map, List.length_map, List.length_range] at hB5 ⊢
              apply Run.by_eq
              · intro self
                conv => lhs; simp -implicitDefEqProofs (maxSteps := 300000) (disch := omega) [-getElem?_pos, -getElem?_neg, k5b, k4b, hg0, ve3, ve4]
              try (with_reducible refine Run.ret ?_)
              apply zz
              refine Run.call ((refExcess_ev n _ _ fs (sideL L n hB) _ _ (hf2.keep ⟨by (try simp only [pushed_next', upded_next']); omega, fun i hi => by simp -implicitDefEqProofs (disch := omega) [k5b, k4b, hkpb]⟩) hB5 (by omega) (checkErr_le hck) (fun f hf => by have := hends f hf; simp; omega) (fun x h1 h2 => side_get h1 (by simp at h2; omega)) (by simp; omega)).mono fun v wy hv => ?_)
              obtain ⟨rfl, y⟩ := hv
              have ya := y.1
              have yb := y.2
              try simp only [pushed_next', upded_next'] at ya yb
              rw [hmx]
              apply Run.by_eq
              · intro self
                conv => lhs; simp -implicitDefEqProofs (maxSteps := 300000) (disch := omega) [-getElem?_pos, -getElem?_neg, Mass.v, yb, k5b, k4b, hg0, ve3, ve4]
              try (with_reducible refine Run.ret ?_)
              apply zz
              refine Run.call ((addT_ev Mass.zero mx (-1) _ ((Mass.tim_le hmxl).mono (by omega)) (by rw [Mass.add_tim]; exact (Mass.le_neg hmxl).mono (by omega))).mono fun v wz hv => ?_)
              obtain ⟨rfl, z⟩ := hv
              have za := z.1
              have zb := z.2
              try simp only [pushed_next', upded_next'] at za zb
              rw [Mass.add_tim]
              apply Run.by_eq
              · intro self
                conv => lhs; simp -implicitDefEqProofs (maxSteps := 300000) (disch := omega) [-getElem?_pos, -getElem?_neg, Mass.v, zb, yb, k5b, k4b, hg0, ve3, ve4]
              try (with_reducible refine Run.ret ?_)
              apply zz
              refine Cd.ra (h := ?_)
              apply Run.by_eq
              · intro self
                conv => lhs; simp -implicitDefEqProofs (maxSteps := 300000) (disch := omega) [-getElem?_pos, -getElem?_neg, h8]
              try (with_reducible refine Run.ret ?_)
              apply zz
              refine LoopK.nm (fs.length - (0 + 1)) (by omega) ⟨0 + 1, by omega, rfl, by simp [hm], by simp, by simp [h1], ⟨by (try simp only [pushed_next', upded_next']); omega, fun i hi => by simp -implicitDefEqProofs (disch := omega) [zb, yb, k5b, k4b, hkpb]⟩, ?_⟩
              rw [knL_succ, hk1, hce0]
              exact .inr ⟨wz.next + 1, by simp, by simp, by omega, by simp, by simp -implicitDefEqProofs (disch := omega) [KnownD.cs]⟩
            · rw [hkl] at hw0
              have veu : veq 5 (Value.slice (some ⟨bu, 0, none⟩) k k) (Value.slice (some ⟨bu, 0, none⟩) k k) = true := veq_slice _ _ _ _ _
              apply zz
              refine Cd.drawn (pl := [(0, 0, false, false), (1, 0, false, false), (2, 0, false, false), (3, 0, false, false), (4, 0, false, false), (5, 24, true, false), (6, 60, true, false), (7, 126, true, false), (8, 254, false, false), (9, 510, false, true), (10, 1023, true, false), (11, 2047, false, false)]) (by kernel_rfl) (by conv => lhs; simp only [List.map_cons, List.map_nil]) (by conv => lhs; simp [strip, ordered]) ?_
              apply Run.by_eq
              · intro self
                conv => lhs; simp -implicitDefEqProofs (maxSteps := 300000) (disch := omega) [filter_bt, Nat.testBit_eq_decide_div_mod_eq, -getElem?_pos, -getElem?_neg, hw0, h1, k4b, hg0, ve3, ve4, veu]
              try (with_reducible refine Run.ret ?_)
              apply zz
              refine Run.call ((side_ev _ _ hB _ hI (by simp; omega)).mono fun sv w5 hv => ?_)
              obtain ⟨k5, hB5⟩ := hv
              have k5a := k5.1
              have k5b := k5.2
              obtain ⟨a5, c5, rfl⟩ := hB5.shape
              rw [List.length_map, List.length_map, List.length_map, List.length_range] at hB5 ⊢
              apply Run.by_eq
              · intro self
                conv => lhs; simp -implicitDefEqProofs (maxSteps := 300000) (disch := omega) [-getElem?_pos, -getElem?_neg, k5b, k4b, hg0, ve3, ve4, veu]
              try (with_reducible refine Run.ret ?_)
              apply zz
              refine Run.call ((refExcess_ev n _ _ fs (sideL L n hB) _ _ (hf2.keep ⟨by (try simp only [pushed_next', upded_next']); omega, fun i hi => by simp -implicitDefEqProofs (disch := omega) [k5b, k4b, hkpb]⟩) hB5 (by omega) (checkErr_le hck) (fun f hf => by have := hends f hf; simp; omega) (fun x h1 h2 => side_get h1 (by simp at h2; omega)) (by simp; omega)).mono fun v wy hv => ?_)
              obtain ⟨rfl, y⟩ := hv
              have ya := y.1
              have yb := y.2
              try simp only [pushed_next', upded_next'] at ya yb
              rw [hmx]
              apply Run.by_eq
              · intro self
                conv => lhs; simp -implicitDefEqProofs (maxSteps := 300000) (disch := omega) [-getElem?_pos, -getElem?_neg, Mass.v, yb, k5b, k4b, hg0, ve3, ve4, veu]
              try (with_reducible refine Run.ret ?_)
              apply zz
              refine Run.call ((addT_ev Mass.zero mx (-1) _ ((Mass.tim_le hmxl).mono (by omega)) (by rw [Mass.add_tim]; exact (Mass.le_neg hmxl).mono (by omega))).mono fun v wz hv => ?_)
              obtain ⟨rfl, z⟩ := hv
              have za := z.1
              have zb := z.2
              try simp only [pushed_next', upded_next'] at za zb
              rw [Mass.add_tim]
              apply Run.by_eq
              · intro self
                conv => lhs; simp -implicitDefEqProofs (maxSteps := 300000) (disch := omega) [-getElem?_pos, -getElem?_neg, Mass.v, zb, yb, k5b, k4b, hg0, ve3, ve4, veu]
              try (with_reducible refine Run.ret ?_)
              apply zz
              apply Run.by_eq
              · intro self
                rw [appV_moreE (size := 5) (n := k) (old := (knL fs n k).flatten) ?happ3 hfl5 (by omega)]
                simp -implicitDefEqProofs (disch := omega) [zb, yb, k5b, k4b, hb3, veu]
              apply Run.by_eq
              · intro self
                conv => lhs; simp -implicitDefEqProofs (maxSteps := 300000) (disch := omega) [-getElem?_pos, -getElem?_neg, zb, yb, k5b, k4b, hb3, veu]
              try (with_reducible refine Run.ret ?_)
              apply zz
              refine Cd.ra (h := ?_)
              apply Run.by_eq
              · intro self
                conv => lhs; simp -implicitDefEqProofs (maxSteps := 300000) (disch := omega) [-getElem?_pos, -getElem?_neg, h8]
              try (with_reducible refine Run.ret ?_)
              apply zz
              refine LoopK.nm (fs.length - (k + 1)) (by omega) ⟨k + 1, by omega, rfl, by simp [hm], by simp, by simp [h1], ⟨by (try simp only [pushed_next', upded_next']); omega, fun i hi => by simp -implicitDefEqProofs (disch := omega) [zb, yb, k5b, k4b, hkpb]⟩, ?_⟩
              rw [knL_succ, hk1]
              exact .inr ⟨wz.next + 1, by simp [hkl], by simp, by omega, by simp, by simp -implicitDefEqProofs (disch := omega) [KnownD.cs]⟩
          · skip
            have hk1 : closeF fs n k = ⟨2, excM (sideL L n hA) fs⟩ := by rw [hcf, hCA, if_neg hAB, if_pos hA0]
            have hmxl := exc_le (xs := sideL L n hA) (by omega) h9 hl20
            generalize hmx : excM (sideL L n hA) fs = mx at hk1 hmxl
            apply zz
            apply Cd.ite rfl
            · conv => lhs; simp -implicitDefEqProofs (maxSteps := 300000) (disch := omega) [-getElem?_pos, -getElem?_neg, hA0]
            all_goals intro c5
            all_goals try (cases c5; done)
            all_goals try simp only [Bool.not_eq_true', Bool.not_eq_false', decide_eq_true_eq, decide_eq_false_iff_not] at c5
            all_goals apply zz
            have ve3 : veq 4 (Value.slice (some ⟨b, off, none⟩) fs.length c) (Value.slice (some ⟨b, off, none⟩) fs.length c) = true := veq_slice _ _ _ _ _
            rcases hU with ⟨hce0, hw0⟩ | ⟨bu, hw0, hne0, hb1, hb2, hb3⟩
            · have k0 : k = 0 := by rw [hce0] at hkl; exact hkl.symm
              subst k0
              apply zz
              refine Cd.drawn (pl := [(0, 0, false, false), (1, 0, false, false), (2, 0, false, false), (3, 0, false, false), (4, 12, true, false), (5, 30, true, false), (6, 62, false, false), (7, 126, false, true), (8, 255, true, false), (9, 511, false, false)]) (by kernel_rfl) (by conv => lhs; simp only [List.map_cons, List.map_nil]) (by conv => lhs; simp [strip, ordered]) ?_
              apply Run.by_eq
              · intro self
                conv => lhs; simp -implicitDefEqProofs (maxSteps := 300000) (disch := omega) [filter_bt, Nat.testBit_eq_decide_div_mod_eq, -getElem?_pos, -getElem?_neg, hw0, h1, k4b, hg0, ve3, ve4]
              try (with_reducible refine Run.ret ?_)
              apply zz
              refine Run.call ((side_ev _ _ hA _ hI (by simp; omega)).mono fun sv w5 hv => ?_)
              obtain ⟨k5, hB5⟩ := hv
              have k5a := k5.1
              have k5b := k5.2
              obtain ⟨a5, c5, rfl⟩ := hB5.shape
              rw [List.length_map, List.length_map, List.length_map, List.length_range] at hB5 ⊢
              apply Run.by_eq
              · intro self
                conv => lhs; simp -implicitDefEqProofs (maxSteps := 300000) (disch := omega) [-getElem?_pos, -getElem?_neg, k5b, k4b, hg0, ve3, ve4]
              try (with_reducible refine Run.ret ?_)
              apply zz
              refine Run.call ((refExcess_ev n _ _ fs (sideL L n hA) _ _ (hf2.keep ⟨by (try simp only [pushed_next', upded_next']); omega, fun i hi => by simp -implicitDefEqProofs (disch := omega) [k5b, k4b, hkpb]⟩) hB5 (by omega) (checkErr_le hck) (fun f hf => by have := hends f hf; simp; omega) (fun x h1 h2 => side_get h1 (by simp at h2; omega)) (by simp; omega)).mono fun v wy hv => ?_)
              obtain ⟨rfl, y⟩ := hv
              have ya := y.1
              have yb := y.2
              try simp only [pushed_next', upded_next'] at ya yb
              rw [hmx]
              apply Run.by_eq
              · intro self
                conv => lhs; simp -implicitDefEqProofs (maxSteps := 300000) (disch := omega) [-getElem?_pos, -getElem?_neg, Mass.v, yb, k5b, k4b, hg0, ve3, ve4]
              try (with_reducible refine Run.ret ?_)
              apply zz
              refine Cd.ra (h := ?_)
              apply Run.by_eq
              · intro self
                conv => lhs; simp -implicitDefEqProofs (maxSteps := 300000) (disch := omega) [-getElem?_pos, -getElem?_neg, h8]
              try (with_reducible refine Run.ret ?_)
              apply zz
              refine LoopK.nm (fs.length - (0 + 1)) (by omega) ⟨0 + 1, by omega, rfl, by simp [hm], by simp, by simp [h1], ⟨by (try simp only [pushed_next', upded_next']); omega, fun i hi => by simp -implicitDefEqProofs (disch := omega) [yb, k5b, k4b, hkpb]⟩, ?_⟩
              rw [knL_succ, hk1, hce0]
              exact .inr ⟨wy.next + 1, by simp, by simp, by omega, by simp, by simp -implicitDefEqProofs (disch := omega) [KnownD.cs]⟩
            · rw [hkl] at hw0
              have veu : veq 5 (Value.slice (some ⟨bu, 0, none⟩) k k) (Value.slice (some ⟨bu, 0, none⟩) k k) = true := veq_slice _ _ _ _ _
              apply zz
              refine Cd.drawn (pl := [(0, 0, false, false), (1, 0, false, false), (2, 0, false, false), (3, 0, false, false), (4, 12, true, false), (5, 30, true, false), (6, 62, false, false), (7, 126, false, true), (8, 255, true, false), (9, 511, false, false)]) (by kernel_rfl) (by conv => lhs; simp only [List.map_cons, List.map_nil]) (by conv => lhs; simp [strip, ordered]) ?_
              apply Run.by_eq
              · intro self
                conv => lhs; simp -implicitDefEqProofs (maxSteps := 300000) (disch := omega) [filter_bt, Nat.testBit_eq_decide_div_mod_eq, -getElem?_pos, -getElem?_neg, hw0, h1, k4b, hg0, ve3, ve4, veu]
              try (with_reducible refine Run.ret ?_)
              apply zz
              refine Run.call ((side_ev _ _ hA _ hI (by simp; omega)).mono fun sv w5 hv => ?_)
              obtain ⟨k5, hB5⟩ := hv
              have k5a := k5.1
              have k5b := k5.2
              obtain ⟨a5, c5, rfl⟩ := hB5.shape
              rw [List.length_map, List.length_map, List.length_map, List.length_range] at hB5 ⊢
              apply Run.by_eq
              · intro self
                conv => lhs; simp -implicitDefEqProofs (maxSteps := 300000) (disch := omega) [-getElem?_pos, -getElem?_neg, k5b, k4b, hg0, ve3, ve4, veu]
              try (with_reducible refine Run.ret ?_)
              apply zz
              refine Run.call ((refExcess_ev n _ _ fs (sideL L n hA) _ _ (hf2.keep ⟨by (try simp only [pushed_next', upded_next']); omega, fun i hi => by simp -implicitDefEqProofs (disch := omega) [k5b, k4b, hkpb]⟩) hB5 (by omega) (checkErr_le hck) (fun f hf => by have := hends f hf; simp; omega) (fun x h1 h2 => side_get h1 (by simp at h2; omega)) (by simp; omega)).mono fun v wy hv => ?_)
              obtain ⟨rfl, y⟩ := hv
              have ya := y.1
              have yb := y.2
              try simp only [pushed_next', upded_next'] at ya yb
              rw [hmx]
              apply Run.by_eq
              · intro self
                conv => lhs; simp -implicitDefEqProofs (maxSteps := 300000) (disch := omega) [-getElem?_pos, -getElem?_neg, Mass.v, yb, k5b, k4b, hg0, ve3, ve4, veu]
              try (with_reducible refine Run.ret ?_)
              apply zz
              apply Run.by_eq
              · intro self
                rw [appV_moreE (size := 5) (n := k) (old := (knL fs n k).flatten) ?happ4 hfl5 (by omega)]
                simp -implicitDefEqProofs (disch := omega) [yb, k5b, k4b, hb3, veu]
              apply Run.by_eq
              · intro self
                conv => lhs; simp -implicitDefEqProofs (maxSteps := 300000) (disch := omega) [-getElem?_pos, -getElem?_neg, yb, k5b, k4b, hb3, veu]
              try (with_reducible refine Run.ret ?_)
              apply zz
              refine Cd.ra (h := ?_)
              apply Run.by_eq
              · intro self
                conv => lhs; simp -implicitDefEqProofs (maxSteps := 300000) (disch := omega) [-getElem?_pos, -getElem?_neg, h8]
              try (with_reducible refine Run.ret ?_)
              apply zz
              refine LoopK.nm (fs.length - (k + 1)) (by omega) ⟨k + 1, by omega, rfl, by simp [hm], by simp, by simp [h1], ⟨by (try simp only [pushed_next', upded_next']); omega, fun i hi => by simp -implicitDefEqProofs (disch := omega) [yb, k5b, k4b, hkpb]⟩, ?_⟩
              rw [knL_succ, hk1]
              exact .inr ⟨wy.next + 1, by simp [hkl], by simp, by omega, by simp, by simp -implicitDefEqProofs (disch := omega) [KnownD.cs]⟩
    · simp at c2; omega
  · obtain rfl : k = fs.length := by omega
    apply zz
    refine Cd.ra (h := ?_)
    apply Run.by_eq
    · intro self
      conv => lhs; simp -implicitDefEqProofs (maxSteps := 300000) (disch := omega) [-getElem?_pos, -getElem?_neg, h8, h1, hg0]
    try (with_reducible refine Run.ret ?_)
    apply zz
    apply Cd.ite rfl
    · conv => lhs; simp -implicitDefEqProofs (maxSteps := 300000) (disch := omega) [-getElem?_pos, -getElem?_neg]
    all_goals intro c2
    all_goals try (cases c2; done)
    all_goals try simp only [Bool.not_eq_true', Bool.not_eq_false', decide_eq_true_eq, decide_eq_false_iff_not] at c2
    all_goals apply zz
    apply zz
    refine Cd.ra (h := ?_)
    apply Run.by_eq
    · intro self
      conv => lhs; simp -implicitDefEqProofs (maxSteps := 300000) (disch := omega) [-getElem?_pos, -getElem?_neg]
    try (with_reducible refine Run.ret ?_)
    apply zz
    apply Leave.mk (by first | exact .inl rfl | exact .inr rfl) (by simp only [Fr.marks_put, fr0_marks, hm])
    · conv => lhs; simp -implicitDefEqProofs (disch := omega) [Try.results25, hm]
    refine ⟨⟨by omega, fun i hi => (hkpb i (by omega)).trans (hold2 i hi)⟩, _, rfl, ?_⟩
    rw [List.map_map]
    exact hU.sl fun x hx => by
      unfold knL at hx
      obtain ⟨j, _, rfl⟩ := List.mem_map.1 hx; rfl
end Go.Proofs.Ytifkpaomhnlahaa
namespace Go.Proofs.Ytifkpaomhnlahaa
open Go Kern
/-! Whole lists are appended -/
theorem takeL_add {α : Type} : ∀ {n k : Nat} {l e r : List α}, takeL n l = some e → takeL k (l.drop n) = some r → takeL (n + k) l = some (e ++ r)
  | 0, k, l, e, r, h, h2 => by
    change some [] = some e at h
    cases h
    rw [Nat.zero_add]; simpa using h2
  | n + 1, k, [], e, r, h, h2 => by cases h
  | n + 1, k, x :: l, e, r, h, h2 => by
    obtain ⟨t, h3, h4⟩ := ob_eq (show ob (takeL n l) (fun t => some (x :: t)) = some e from h)
    cases h4
    have := takeL_add (n := n) (k := k) h3 (by simpa using h2)
    rw [show n + 1 + k = (n + k) + 1 by omega]
    show ob (takeL (n + k) l) (fun t => some (x :: t)) = _
    rw [this]; rfl
theorem takeL_flat {n : Nat} {cs : List Value} : ∀ {l : List (List Value)} {off : Nat}, (∀ i e, l[i]? = some e → takeL n (cs.drop (off + i * n)) = some e) → takeL (l.length * n) (cs.drop off) = some l.flatten
  | [], off, _ => by simp
  | e :: r, off, h => by
    have h0 := h 0 e rfl
    simp only [Nat.zero_mul, Nat.add_zero] at h0
    have := takeL_flat (n := n) (cs := cs) (l := r) (off := off + n) fun i x hx => by
      have := h (i + 1) x (by simpa using hx)
      rwa [show off + (i + 1) * n = off + n + i * n by rw [Nat.add_mul]; omega] at this
    rw [List.length_cons, Nat.add_mul, Nat.one_mul, Nat.add_comm]
    exact takeL_add h0 (by rw [List.drop_drop]; exact this)
theorem newCells_sl {n : Nat} {s : St} {a : Option Addr} {m c : Nat} {l : List (List Value)} (h : SlAt n s (.slice a m c) l) (ho : onesL l.flatten = true) : newCells s.heap n (a, m, c) = some l.flatten := by
  cases h with
  | nil => rfl
  | mk hb ho' hc he =>
    have h1 := takeL_flat he
    show ob (ob (s.heap.get _) cellsOf) (fun c => ob (takeL (l.length * n) (dropL _ c.1)) fun l => gd (l.all oneV) (some l)) = _
    rw [ho']
    show ob (cellsOf _) _ = _
    rw [hc]
    show ob (takeL (l.length * n) (dropL _ _)) _ = _
    rw [dropL_eq, h1]
    show gd (l.flatten.all oneV) _ = _
    rw [onesL_eq, ho]; rfl
/-- Rows of cells in a block of their own, or none of them. -/
def OwnR (n N : Nat) (s : St) (w : Value) (l : List (List Value)) : Prop :=
  ∃ b, w = .slice (some ⟨b, 0, none⟩) l.length l.length ∧ N ≤ b ∧ b < s.next ∧ s.heap.get b = some (.cells l.flatten (if l = [] then none else some n))
theorem OwnR.sl {n N : Nat} {s : St} {w : Value} {l : List (List Value)} (h : OwnR n N s w l) (hn : ∀ x ∈ l, x.length = n) : SlAt n s w l := by
  obtain ⟨b, rfl, h1, h2, h3⟩ := h
  exact sl_of_cells h2 hn h3
theorem OwnR.keep {n N : Nat} {s s' : St} {w : Value} {l : List (List Value)} (h : OwnR n N s w l) (h1 : s.next ≤ s'.next) (h2 : ∀ i, N ≤ i → i < s.next → s'.heap.get i = s.heap.get i) : OwnR n N s' w l := by
  obtain ⟨b, h, hb1, hb2, hb3⟩ := h
  exact ⟨b, h, hb1, by omega, by rw [h2 b hb1 hb2]; exact hb3⟩
theorem app_own {n N : Nat} {s : St} {b : Nat} {y : Value} {l0 l : List (List Value)} (hx : OwnR n N s (.slice (some ⟨b, 0, none⟩) l0.length l0.length) l0) (hy : SlAt n s y l) (hn : ∀ x ∈ l0, x.length = n) (ho : onesL l.flatten = true) (hl : l0.length + l.length ≤ 100000) :
    appV n (.slice (some ⟨b, 0, none⟩) l0.length l0.length) y s = if l = [] then some (.slice (some ⟨b, 0, none⟩) l0.length l0.length, s) else
      some (.slice (some ⟨s.next, 0, none⟩) (l0.length + l.length) (l0.length + l.length), (if l0 = [] then s else s.upded b .dead).pushed (.cells (l0.flatten ++ l.flatten) (some n))) := by
  obtain ⟨a, c, rfl⟩ := hy.shape
  obtain ⟨b', e, h1, h2, h3⟩ := hx
  cases e
  show ob (newCells s.heap n (a, l.length, c)) (fun new => gd (Nat.ble (l0.length + l.length) 1048576) (bt (Nat.ble (l0.length + l.length) l0.length) (bt (Nat.beq l.length 0) (some (.slice (some ⟨b, 0, none⟩) l0.length l0.length, s)) (appRoom s n (some ⟨b, 0, none⟩, l0.length, l0.length) l.length new)) (appGrow s n (some ⟨b, 0, none⟩) l0.length (l0.length + l.length) new))) = _
  rw [newCells_sl hy ho]
  show gd (Nat.ble (l0.length + l.length) 1048576) _ = _
  rw [show Nat.ble (l0.length + l.length) 1048576 = true by simp; omega]
  show bt (Nat.ble (l0.length + l.length) l0.length) _ _ = _
  by_cases hl0 : l = []
  · subst hl0
    rw [if_pos rfl, show Nat.ble (l0.length + ([] : List (List Value)).length) l0.length = true by simp]
    rfl
  · have hpos : 0 < l.length := List.length_pos_iff.2 hl0
    rw [if_neg hl0, show Nat.ble (l0.length + l.length) l0.length = false by
      cases h : Nat.ble (l0.length + l.length) l0.length with
      | false => rfl
      | true => have := Nat.le_of_ble_eq_true h; omega]
    show ob (ob (s.heap.get b) cellsOf) (fun c => ob (takeL (l0.length * n) (dropL 0 c.1)) fun old => ob (killF s n c.2 b) fun s => exNew s (.cells (old ++ l.flatten) (some n)) fun i => .slice (some ⟨i, 0, none⟩) (l0.length + l.length) (l0.length + l.length)) = _
    rw [h3]
    have hfl : l0.flatten.length = l0.length * n := by
      clear h3 hl
      induction l0 with
      | nil => simp
      | cons e r ih => rw [List.flatten_cons, List.length_append, ih fun x hx => hn x (.tail _ hx), hn e (.head _), List.length_cons, Nat.add_mul]; omega
    show ob (takeL (l0.length * n) (dropL 0 l0.flatten)) (fun old => ob (killF s n _ b) fun s => exNew s (.cells (old ++ l.flatten) (some n)) fun i => .slice (some ⟨i, 0, none⟩) (l0.length + l.length) (l0.length + l.length)) = _
    rw [show dropL 0 l0.flatten = l0.flatten from rfl, ← hfl, takeL_all]
    by_cases h0 : l0 = []
    · rw [if_pos h0, if_pos h0]; rfl
    · rw [if_neg h0, if_neg h0]
      show ob (gd (Nat.beq n n) (s.upd b .dead)) _ = _
      rw [show Nat.beq n n = true by simp]
      show ob (s.upd b .dead) _ = _
      rw [if_neg h0] at h3
      rw [upd_dead h3]; rfl
theorem flows_ones : ∀ fs : List FlowD, onesL (fs.map FlowD.cs).flatten = true
  | [] => rfl
  | f :: r => by
    rw [← onesL_eq, List.map_cons, List.flatten_cons, List.all_append, onesL_eq, onesL_eq, flows_ones r]; rfl
theorem flows_len (fs : List FlowD) : ∀ x ∈ fs.map FlowD.cs, x.length = 7 := fun x hx => by obtain ⟨f, _, rfl⟩ := List.mem_map.1 hx; rfl
@[simp] theorem binVal_nilE (t e : TypeId) (fl : Bool) (l c l' c' : Nat) : binVal TT (.slice e) t fl .eql (.slice none l c) (.slice none l' c') = some (.bool true) := rfl
@[simp] theorem binVal_someE (t e : TypeId) (fl : Bool) (a : Addr) (l c l' c' : Nat) : binVal TT (.slice e) t fl .eql (.slice (some a) l c) (.slice none l' c') = some (.bool false) := rfl
/-- A list of flows that was copied. -/
def Cloned (N : Nat) (s : St) (w : Value) (fs : List FlowD) : Prop := FlAt s w fs ∧ (fs ≠ [] → ∃ b, w = .slice (some ⟨b, 0, none⟩) fs.length fs.length ∧ N ≤ b ∧ b < s.next ∧ s.heap.get b = some (.cells (fs.map FlowD.cs).flatten (some 7)))
set_option maxRecDepth 100000 in
set_option maxHeartbeats 4000000 in
theorem clone_ev (v : Value) (fs : List FlowD) (s : St) (hf : FlAt s v fs) (hl : fs.length ≤ 1000) :
    Ev TT 55 [v] s fun r s' => Keep s s' ∧ Cloned s.next s' r fs := by
  obtain ⟨a, c, rfl⟩ := hf.shape
  rw [List.length_map] at hf ⊢
  refine Ev.intro (fn := Try.f55) rfl (by kernel_rfl) rfl rfl ?_
  apply zz
  refine Cd.ra (h := ?_)
  apply Run.by_eq
  · intro self
    conv => lhs; simp -implicitDefEqProofs (maxSteps := 300000) (disch := omega) [-getElem?_pos, -getElem?_neg]
  try (with_reducible refine Run.ret ?_)
  apply zz
  cases a with
  | none =>
    have h0 : fs = [] := by
      have := hf.shape
      cases hf' : fs with
      | nil => rfl
      | cons f r => rw [hf'] at hf; cases hf
    subst h0
    apply zz
    refine Cd.ra (h := ?_)
    apply Run.by_eq
    · intro self
      conv => lhs; simp -implicitDefEqProofs (maxSteps := 300000) (disch := omega) [-getElem?_pos, -getElem?_neg]
    try (with_reducible refine Run.ret ?_)
    apply zz
    apply Cd.ite rfl
    · conv => lhs; simp -implicitDefEqProofs (maxSteps := 300000) (disch := omega) [-getElem?_pos, -getElem?_neg]
    all_goals intro c0
    all_goals try (cases c0; done)
    all_goals try simp only [Bool.not_eq_true', Bool.not_eq_false', decide_eq_true_eq, decide_eq_false_iff_not] at c0
    all_goals apply zz
    apply zz
    refine Cd.ra (h := ?_)
    apply Run.by_eq
    · intro self
      conv => lhs; simp -implicitDefEqProofs (maxSteps := 300000) (disch := omega) [-getElem?_pos, -getElem?_neg]
    try (with_reducible refine Run.ret ?_)
    apply zz
    apply Leave.mk (by first | exact .inl rfl | exact .inr rfl) (by simp only [Fr.marks_put, fr0_marks])
    · conv => lhs; simp -implicitDefEqProofs (disch := omega) [Try.results55]
    exact ⟨⟨by (try simp only [pushed_next', upded_next']); omega, fun i hi => by simp -implicitDefEqProofs (disch := omega) []⟩, .nil 0, fun h => absurd rfl h⟩
  | some a =>
    obtain ⟨b, off, p⟩ := a
    apply zz
    refine Cd.ra (h := ?_)
    apply Run.by_eq
    · intro self
      conv => lhs; simp -implicitDefEqProofs (maxSteps := 300000) (disch := omega) [-getElem?_pos, -getElem?_neg]
    try (with_reducible refine Run.ret ?_)
    apply zz
    apply Cd.ite rfl
    · conv => lhs; simp -implicitDefEqProofs (maxSteps := 300000) (disch := omega) [-getElem?_pos, -getElem?_neg]
    all_goals intro c0
    all_goals try (cases c0; done)
    all_goals try simp only [Bool.not_eq_true', Bool.not_eq_false', decide_eq_true_eq, decide_eq_false_iff_not] at c0
    all_goals apply zz
    have hf1 : FlAt (s.pushed (.cells [] none)) (.slice (some ⟨b, off, p⟩) fs.length c) fs := hf.keep ⟨by (try simp only [pushed_next', upded_next']); omega, fun i hi => by simp -implicitDefEqProofs (disch := omega) []⟩
    have happ := app_own (n := 7) (N := s.next) (s := s.pushed (.cells [] none)) (b := s.next) (l0 := []) ⟨s.next, rfl, Nat.le_refl _, by simp, by simp⟩ hf1 (fun x hx => by cases hx) (flows_ones fs) (by simp; omega)
    rw [if_pos rfl] at happ
    by_cases h0 : fs = []
    · subst h0
      rw [if_pos (show List.map FlowD.cs [] = [] from rfl)] at happ
      simp only [List.length_nil] at happ
      apply zz
      refine Cd.ra (h := ?_)
      apply Run.by_eq
      · intro self
        conv => lhs; simp -implicitDefEqProofs (maxSteps := 300000) (disch := omega) [-getElem?_pos, -getElem?_neg, happ]
      try (with_reducible refine Run.ret ?_)
      apply zz
      apply Leave.mk (by first | exact .inl rfl | exact .inr rfl) (by simp only [Fr.marks_put, fr0_marks])
      · conv => lhs; simp -implicitDefEqProofs (disch := omega) [Try.results55]
      exact ⟨⟨by (try simp only [pushed_next', upded_next']); omega, fun i hi => by simp -implicitDefEqProofs (disch := omega) []⟩, by exact sl_of_cells (l := []) (by simp) (fun x hx => by cases hx) (g := none) (by simp), fun h => absurd rfl h⟩
    · rw [if_neg (by simpa using h0)] at happ
      simp only [List.length_map, List.length_nil, Nat.zero_add, List.flatten_nil, List.nil_append, pushed_next'] at happ
      apply zz
      refine Cd.ra (h := ?_)
      apply Run.by_eq
      · intro self
        conv => lhs; simp -implicitDefEqProofs (maxSteps := 300000) (disch := omega) [-getElem?_pos, -getElem?_neg, happ]
      try (with_reducible refine Run.ret ?_)
      apply zz
      apply Leave.mk (by first | exact .inl rfl | exact .inr rfl) (by simp only [Fr.marks_put, fr0_marks])
      · conv => lhs; simp -implicitDefEqProofs (disch := omega) [Try.results55]
      have hC : ∃ b, (Value.slice (some ⟨s.next + 1, 0, none⟩) fs.length fs.length) = .slice (some ⟨b, 0, none⟩) fs.length fs.length ∧ s.next ≤ b ∧ b < s.next + 1 + 1 := ⟨_, rfl, by omega, by omega⟩
      refine ⟨⟨by (try simp only [pushed_next', upded_next']); omega, fun i hi => by simp -implicitDefEqProofs (disch := omega) []⟩, ?_, fun _ => ⟨s.next + 1, rfl, by omega, by simp, by simp⟩⟩
      have := sl_of_cells (n := 7) (c := fs.length) (l := fs.map FlowD.cs) (s := (s.pushed (.cells [] none)).pushed (.cells (fs.map FlowD.cs).flatten (some 7))) (b := s.next + 1) (g := some 7) (by simp) (flows_len fs) (by simp)
      rw [List.length_map] at this
      exact this
end Go.Proofs.Ytifkpaomhnlahaa
namespace Go.Proofs.Ytifkpaomhnlahaa
open Go Kern
theorem putL_app {α : Type} : ∀ {n : Nat} {vs l x : List α} (r : List α), putL n vs l = some x → putL n vs (l ++ r) = some (x ++ r)
  | 0, vs, l, x, r, h => by
    rw [putL_zero] at h ⊢
    induction vs generalizing l x with
    | nil => change some l = some x at h; cases h; rfl
    | cons v vs ih =>
      cases l with
      | nil => cases h
      | cons y l =>
        obtain ⟨t, h1, h2⟩ := ob_eq (show ob (overL vs l) (fun t => some (v :: t)) = some x from h)
        cases h2
        show ob (overL vs (l ++ r)) (fun t => some (v :: t)) = _
        rw [ih l t h1]; rfl
  | n + 1, vs, [], x, r, h => by cases h
  | n + 1, vs, y :: l, x, r, h => by
    obtain ⟨t, h1, h2⟩ := ob_eq (show ob (putL n vs l) (fun t => some (y :: t)) = some x from h)
    cases h2
    show ob (putL n vs (l ++ r)) (fun t => some (y :: t)) = _
    rw [putL_app r h1]; rfl
theorem putL_behind {α : Type} {n : Nat} {vs b x : List α} : ∀ {a : List α}, putL n vs b = some x → putL (a.length + n) vs (a ++ b) = some (a ++ x)
  | [], h => by simpa using h
  | y :: a, h => by
    rw [List.length_cons, show a.length + 1 + n = (a.length + n) + 1 by omega]
    show ob (putL (a.length + n) vs (a ++ b)) (fun t => some (y :: t)) = _
    rw [putL_behind h]; rfl
theorem flatG_putAt {g : Nat → List Value} {N : Nat} (hN : ∀ j, (g j).length = N) {vs x : List Value} {off i len : Nat} (hv : putL off vs (g i) = some x) (h : i < len) : putL (i * N + off) vs (flatG g len) = some (flatG (fun j => if j = i then x else g j) len) := by
  obtain ⟨r, h1, h2⟩ := flatG_cut g h
  rw [h1, h2 x, ← flatG_length hN i]
  exact putL_behind (putL_app r hv)
theorem map_getD {α β : Type} (f : α → β) (d : α) : ∀ l : List α, (List.range l.length).map (fun j => f (l.getD j d)) = l.map f := fun l => by
  apply List.ext_getElem?
  intro j
  rw [List.getElem?_map, List.getElem?_map]
  by_cases h : j < l.length
  · rw [List.getElem?_range h]; simp [List.getD, h]
  · rw [List.getElem?_eq_none (by simpa using h), List.getElem?_eq_none (by simpa using h)]; rfl
/-! What Verify says -/
def fd0 : FlowD := ⟨0, 0, false, Mass.zero⟩
/-- The flows with the masses of a balance, the first k of them. -/
def mixF (fs : List FlowD) (bs : List Mass) (k j : Nat) : FlowD := if j < k then ⟨(fs.getD j fd0).fr, (fs.getD j fd0).to, true, bs.getD j Mass.zero⟩ else fs.getD j fd0
def told (fs : List FlowD) (bs : List Mass) : List FlowD := (List.range fs.length).map (mixF fs bs fs.length)
theorem mixF_next (fs : List FlowD) (bs : List Mass) (k : Nat) : (fun j => (mixF fs bs (k + 1) j).cs) = fun j => if j = k then (⟨(fs.getD k fd0).fr, (fs.getD k fd0).to, true, bs.getD k Mass.zero⟩ : FlowD).cs else (mixF fs bs k j).cs := by
  funext j
  unfold mixF
  by_cases e : j = k
  · subst e; rw [if_pos (by omega), if_pos rfl]
  · rw [if_neg e]
    by_cases h : j < k
    · rw [if_pos (by omega), if_pos h]
    · rw [if_neg (by omega), if_neg h]
theorem mix_zero (fs : List FlowD) (bs : List Mass) : flatG (fun j => (mixF fs bs 0 j).cs) fs.length = (fs.map FlowD.cs).flatten := by
  unfold flatG
  rw [← map_getD FlowD.cs fd0 fs]
  rfl
def unitE (gs : List FlowD) : Nat → Nat → Int × Int
  | 0, _ => (0, 0)
  | m + 1, k => if excM [(k : Int)] gs = Mass.zero then unitE gs m (k + 1) else (k, 19)
open Classical in
noncomputable def verE (u : Int) (fs : List FlowD) (bs : List Mass) : Int × Int :=
  if checkErr u fs ≠ 0 then (0, checkErr u fs) else if bs.length ≠ fs.length then (0, 3) else
    if ∃ b ∈ bs, eachB b (-1000000000000) 1000000000000 = false then (0, 2) else
      if ∃ j, j < fs.length ∧ (fs.getD j fd0).me = true ∧ bs.getD j Mass.zero ≠ (fs.getD j fd0).m then (0, 22) else unitE (told fs bs) u.toNat 0
abbrev BalAt (s : St) (v : Value) (bs : List Mass) : Prop := SlAt 4 s v (bs.map Mass.cs)
theorem BalAt.at {s : St} {a : Option Addr} {m c : Nat} {bs : List Mass} (h : BalAt s (.slice a m c) bs) {k : Nat} {x : Mass} (hk : bs[k]? = some x) :
    ∃ b off o cs g, a = some ⟨b, off, none⟩ ∧ b < s.next ∧ s.heap.get b = some o ∧ cellsOf o = some (cs, g) ∧ takeL 4 (cs.drop (off + k * 4)) = some x.cs :=
  SlAt.at h (by rw [List.getElem?_map, hk]; rfl)
theorem eachB_le12 {m : Mass} (h : eachB m (-1000000000000) 1000000000000 = true) : m.le 1000000000000 := by
  simp only [eachB, isB, Bool.and_eq_true, decide_eq_true_eq] at h
  unfold Mass.le; omega
theorem told_le {fs : List FlowD} {bs : List Mass} (hl : bs.length = fs.length) (h : ∀ b ∈ bs, eachB b (-1000000000000) 1000000000000 = true) : ∀ f ∈ told fs bs, f.me = true → f.m.le 1000000000000 := fun f hf _ => by
  unfold told at hf
  obtain ⟨j, hj, rfl⟩ := List.mem_map.1 hf
  have hj := List.mem_range.1 hj
  unfold mixF
  rw [if_pos hj]
  refine eachB_le12 (h _ ?_)
  simp only [List.getD, List.getElem?_eq_getElem (show j < bs.length by omega), Option.getD_some]
  exact List.getElem_mem _
theorem getD_at {α : Type} {l : List α} {k : Nat} {x d : α} (h : l[k]? = some x) : l.getD k d = x := by simp [List.getD, h]
/-- The flows that are told, as they come to be. -/
def TL (N : Nat) (s : St) (v : Value) (fs : List FlowD) (bs : List Mass) (k : Nat) : Prop :=
  (fs = [] ∧ FlAt s v []) ∨ ∃ β, v = .slice (some ⟨β, 0, none⟩) fs.length fs.length ∧ N ≤ β ∧ β < s.next ∧ s.heap.get β = some (.cells (flatG (fun j => (mixF fs bs k j).cs) fs.length) (some 7))
theorem TL.start {N : Nat} {s : St} {v : Value} {fs : List FlowD} (bs : List Mass) (h : Cloned N s v fs) : TL N s v fs bs 0 := by
  by_cases e : fs = []
  · subst e; exact .inl ⟨rfl, h.1⟩
  · obtain ⟨b, h1, h2, h3, h4⟩ := h.2 e
    exact .inr ⟨b, h1, h2, h3, by rw [mix_zero]; exact h4⟩
theorem TL.done {N : Nat} {s : St} {v : Value} {fs : List FlowD} {bs : List Mass} (h : TL N s v fs bs fs.length) : FlAt s v (told fs bs) := by
  rcases h with ⟨rfl, h⟩ | ⟨β, rfl, h1, h2, h3⟩
  · exact h
  · have := sl_of_flat (c := fs.length) h2 (N := 7) (g := fun j => (mixF fs bs fs.length j).cs) (fun j => rfl) h3
    unfold FlAt told
    rw [List.map_map]
    exact this
theorem TL.keep {N : Nat} {s s' : St} {v : Value} {fs : List FlowD} {bs : List Mass} {k : Nat} (h : TL N s v fs bs k) (hk : Keep s s') : TL N s' v fs bs k := by
  rcases h with ⟨e, h⟩ | ⟨β, e, h1, h2, h3⟩
  · exact .inl ⟨e, h.keep hk⟩
  · exact .inr ⟨β, e, h1, by have := hk.1; omega, by rw [hk.2 _ h2]; exact h3⟩
set_option maxRecDepth 100000 in
set_option maxHeartbeats 4000000 in
theorem verify_ev (u : Int) (v w : Value) (fs : List FlowD) (bs : List Mass) (s : St) (hf : FlAt s v fs) (hb : BalAt s w bs) (hl : fs.length ≤ 1000) (hlb : bs.length ≤ 1000) :
    Ev TT 29 [plantV u v, w] s fun r s' => r = .tuple #[.int .i64 (verE u fs bs).1, .int .i64 (verE u fs bs).2] ∧ Keep s s' := by
  obtain ⟨a, c, rfl⟩ := hf.shape
  obtain ⟨ab, cb, rfl⟩ := hb.shape
  rw [List.length_map] at hf hb ⊢
  rw [List.length_map]
  unfold plantV
  have nl := natOf_cast .i64 fs.length
  have nb := natOf_cast .i64 bs.length
  refine Ev.intro (fn := Try.f29) rfl (by kernel_rfl) rfl rfl ?_
  apply zz
  refine Cd.ra (h := ?_)
  apply Run.by_eq
  · intro self
    conv => lhs; simp -implicitDefEqProofs (maxSteps := 300000) (disch := omega) [-getElem?_pos, -getElem?_neg]
  try (with_reducible refine Run.ret ?_)
  apply zz
  refine Cd.ra (h := ?_)
  apply Run.by_eq
  · intro self
    conv => lhs; simp -implicitDefEqProofs (maxSteps := 300000) (disch := omega) [-getElem?_pos, -getElem?_neg]
  try (with_reducible refine Run.ret ?_)
  apply zz
  refine Run.call ((check_ev u _ fs _ (hf.keep ⟨by (try simp only [pushed_next', upded_next']); omega, fun i hi => by simp -implicitDefEqProofs (disch := omega) []⟩) (by omega)).mono fun v wq hv => ?_)
  obtain ⟨rfl, q⟩ := hv
  have qa := q.1
  have qb := q.2
  try simp only [pushed_next', upded_next'] at qa qb
  apply Run.by_eq
  · intro self
    conv => lhs; simp -implicitDefEqProofs (maxSteps := 300000) (disch := omega) [-getElem?_pos, -getElem?_neg, qb]
  try (with_reducible refine Run.ret ?_)
  apply zz
  refine Cd.ra (h := ?_)
  apply Run.by_eq
  · intro self
    conv => lhs; simp -implicitDefEqProofs (maxSteps := 300000) (disch := omega) [-getElem?_pos, -getElem?_neg, qb]
  try (with_reducible refine Run.ret ?_)
  apply zz
  apply Cd.ite rfl
  · conv => lhs; simp -implicitDefEqProofs (maxSteps := 300000) (disch := omega) [-getElem?_pos, -getElem?_neg]
  all_goals intro c0
  all_goals try (cases c0; done)
  all_goals try simp only [Bool.not_eq_true', Bool.not_eq_false', decide_eq_true_eq, decide_eq_false_iff_not] at c0
  all_goals apply zz
  · apply zz
    refine Cd.ra (h := ?_)
    apply Run.by_eq
    · intro self
      conv => lhs; simp -implicitDefEqProofs (maxSteps := 300000) (disch := omega) [-getElem?_pos, -getElem?_neg, qb]
    try (with_reducible refine Run.ret ?_)
    apply zz
    apply Leave.mk (by first | exact .inl rfl | exact .inr rfl) (by simp only [Fr.marks_put, fr0_marks, qb])
    · conv => lhs; simp -implicitDefEqProofs (disch := omega) [Try.results29, qb]
    have hv : verE u fs bs = (0, checkErr u fs) := by unfold verE; rw [if_pos c0]
    rw [hv]
    exact ⟨rfl, ⟨by (try simp only [pushed_next', upded_next']); omega, fun i hi => by simp -implicitDefEqProofs (disch := omega) [qb]⟩⟩
  have hck : checkErr u fs = 0 := c0
  obtain ⟨hu1, hu2, hl20, _⟩ := checkErr_ok hck
  obtain ⟨n, hn⟩ : ∃ n : Nat, u = n := ⟨u.toNat, by omega⟩
  subst hn
  by_cases hll : (bs.length : Int) = fs.length
  case neg =>
    apply zz
    refine Cd.ra (h := ?_)
    apply Run.by_eq
    · intro self
      conv => lhs; simp -implicitDefEqProofs (maxSteps := 300000) (disch := omega) [-getElem?_pos, -getElem?_neg, qb, hll]
    try (with_reducible refine Run.ret ?_)
    apply zz
    apply Cd.ite rfl
    · conv => lhs; simp -implicitDefEqProofs (maxSteps := 300000) (disch := omega) [-getElem?_pos, -getElem?_neg]
    all_goals intro c1
    all_goals try (cases c1; done)
    all_goals try simp only [Bool.not_eq_true', Bool.not_eq_false', decide_eq_true_eq, decide_eq_false_iff_not] at c1
    all_goals apply zz
    apply zz
    refine Cd.ra (h := ?_)
    apply Run.by_eq
    · intro self
      conv => lhs; simp -implicitDefEqProofs (maxSteps := 300000) (disch := omega) [-getElem?_pos, -getElem?_neg, qb]
    try (with_reducible refine Run.ret ?_)
    apply zz
    apply Leave.mk (by first | exact .inl rfl | exact .inr rfl) (by simp only [Fr.marks_put, fr0_marks, qb])
    · conv => lhs; simp -implicitDefEqProofs (disch := omega) [Try.results29, qb]
    have hv : verE n fs bs = (0, 3) := by unfold verE; rw [if_neg (by simp [hck]), if_pos (by omega)]
    rw [hv]
    exact ⟨rfl, ⟨by (try simp only [pushed_next', upded_next']); omega, fun i hi => by simp -implicitDefEqProofs (disch := omega) [qb]⟩⟩
  apply zz
  refine Cd.ra (h := ?_)
  apply Run.by_eq
  · intro self
    conv => lhs; simp -implicitDefEqProofs (maxSteps := 300000) (disch := omega) [-getElem?_pos, -getElem?_neg, qb, hll]
  try (with_reducible refine Run.ret ?_)
  apply zz
  apply Cd.ite rfl
  · conv => lhs; simp -implicitDefEqProofs (maxSteps := 300000) (disch := omega) [-getElem?_pos, -getElem?_neg]
  all_goals intro c1
  all_goals try (cases c1; done)
  all_goals try simp only [Bool.not_eq_true', Bool.not_eq_false', decide_eq_true_eq, decide_eq_false_iff_not] at c1
  all_goals apply zz
  have hll' : bs.length = fs.length := by omega
  have hp0 : wq.heap.get s.next = some (.cells [.int .i64 n, .slice a fs.length c] none) := by rw [qb _ (by omega)]; simp -implicitDefEqProofs (disch := omega)
  have hold : ∀ i, i < s.next → wq.heap.get i = s.heap.get i := fun i hi => by rw [qb i (by omega)]; simp -implicitDefEqProofs (disch := omega)
  have hkq : Keep s wq := ⟨by omega, hold⟩
  apply zz
  refine Cd.ra (h := ?_)
  apply Run.by_eq
  · intro self
    conv => lhs; simp -implicitDefEqProofs (maxSteps := 300000) (disch := omega) [-getElem?_pos, -getElem?_neg]
  try (with_reducible refine Run.ret ?_)
  apply zz
  refine Cd.inv (fun z f s' => ∃ k : Nat, k ≤ bs.length ∧ z = bs.length - k ∧ f.marks = [] ∧ f.get 26 = .int .i64 k ∧ f.get 25 = .int .i64 bs.length ∧ f.get 24 = .slice ab bs.length cb ∧ f.get 1 = .slice ab bs.length cb ∧ f.get 2 = .pointer (some ⟨s.next, 0, none⟩) ∧ Keep wq s' ∧ (∀ (j : Nat) (x : Mass), j < k → bs[j]? = some x → eachB x (-1000000000000) 1000000000000 = true)) bs.length ?_ ?_
  · exact ⟨0, by omega, rfl, by simp, by simp, by simp, by simp, by simp, by simp, Keep.refl _, fun j x hj => absurd hj (by omega)⟩
  rintro z f s' ⟨k, hk, rfl, hm, h26, h25, h24, h1, h2, hkp, hz⟩
  have hkpa := hkp.1
  have hkpb := hkp.2
  by_cases hlt : k < bs.length
  · obtain ⟨x, hx⟩ : ∃ x, bs[k]? = some x := ⟨bs[k], by simp [hlt]⟩
    obtain ⟨b, off, o, cs, gg, rfl, hbb, ho, hc, ht⟩ := BalAt.at (hb.keep (hkq.trans hkp)) hx
    unfold Mass.cs at ht
    apply zz
    refine Cd.ra (h := ?_)
    apply Run.by_eq
    · intro self
      conv => lhs; simp -implicitDefEqProofs (maxSteps := 300000) (disch := omega) [-getElem?_pos, -getElem?_neg, h26, h25]
    try (with_reducible refine Run.ret ?_)
    apply zz
    apply Cd.ite rfl
    · conv => lhs; simp -implicitDefEqProofs (maxSteps := 300000) (disch := omega) [-getElem?_pos, -getElem?_neg]
    all_goals intro c2
    all_goals try (cases c2; done)
    all_goals try simp only [Bool.not_eq_true', Bool.not_eq_false', decide_eq_true_eq, decide_eq_false_iff_not] at c2
    all_goals apply zz
    · apply zz
      refine Cd.ra (h := ?_)
      apply Run.by_eq
      · intro self
        conv => lhs; simp -implicitDefEqProofs (maxSteps := 300000) (disch := omega) [-getElem?_pos, -getElem?_neg, h26, h24, ho, hc, ht, hlt]
      try (with_reducible refine Run.ret ?_)
      apply zz
      refine Cd.ra (h := ?_)
      apply Run.by_eq
      · intro self
        conv => lhs; simp -implicitDefEqProofs (maxSteps := 300000) (disch := omega) [-getElem?_pos, -getElem?_neg]
      try (with_reducible refine Run.ret ?_)
      apply zz
      refine Run.call ((within_ev x (-1000000000000) 1000000000000 _).mono fun v wl hv => ?_)
      obtain ⟨rfl, l⟩ := hv
      have la := l.1
      have lb := l.2
      try simp only [pushed_next', upded_next'] at la lb
      cases hE : eachB x (-1000000000000) 1000000000000 with
      | false =>
        apply Run.by_eq
        · intro self
          conv => lhs; simp -implicitDefEqProofs (maxSteps := 300000) (disch := omega) [-getElem?_pos, -getElem?_neg, hE]
        try (with_reducible refine Run.ret ?_)
        apply zz
        apply Cd.ite rfl
        · conv => lhs; simp -implicitDefEqProofs (maxSteps := 300000) (disch := omega) [-getElem?_pos, -getElem?_neg]
        all_goals intro c3
        all_goals try (cases c3; done)
        all_goals try simp only [Bool.not_eq_true', Bool.not_eq_false', decide_eq_true_eq, decide_eq_false_iff_not] at c3
        all_goals apply zz
        apply zz
        refine Cd.ra (h := ?_)
        apply Run.by_eq
        · intro self
          conv => lhs; simp -implicitDefEqProofs (maxSteps := 300000) (disch := omega) [-getElem?_pos, -getElem?_neg]
        try (with_reducible refine Run.ret ?_)
        apply zz
        apply Leave.mk (by first | exact .inl rfl | exact .inr rfl) (by simp only [Fr.marks_put, fr0_marks, hm])
        · conv => lhs; simp -implicitDefEqProofs (disch := omega) [Try.results29, hm]
        have hv : verE n fs bs = (0, 2) := by unfold verE; rw [if_neg (by simp [hck]), if_neg (by omega), if_pos ⟨x, List.mem_of_getElem? hx, hE⟩]
        rw [hv]
        exact ⟨rfl, ⟨by (try simp only [pushed_next', upded_next']); omega, fun i hi => by simp -implicitDefEqProofs (disch := omega) [lb, hkpb, hold]⟩⟩
      | true =>
        apply Run.by_eq
        · intro self
          conv => lhs; simp -implicitDefEqProofs (maxSteps := 300000) (disch := omega) [-getElem?_pos, -getElem?_neg, hE]
        try (with_reducible refine Run.ret ?_)
        apply zz
        apply Cd.ite rfl
        · conv => lhs; simp -implicitDefEqProofs (maxSteps := 300000) (disch := omega) [-getElem?_pos, -getElem?_neg]
        all_goals intro c3
        all_goals try (cases c3; done)
        all_goals try simp only [Bool.not_eq_true', Bool.not_eq_false', decide_eq_true_eq, decide_eq_false_iff_not] at c3
        all_goals apply zz
        apply zz
        refine Cd.ra (h := ?_)
        apply Run.by_eq
        · intro self
          conv => lhs; simp -implicitDefEqProofs (maxSteps := 300000) (disch := omega) [-getElem?_pos, -getElem?_neg, h26]
        try (with_reducible refine Run.ret ?_)
        apply zz
        refine LoopK.nm (bs.length - (k + 1)) (by omega) ⟨k + 1, by omega, rfl, by simp [hm], by simp, by simp [h25], by simp [h24], by simp [h1], by simp [h2], ⟨by (try simp only [pushed_next', upded_next']); omega, fun i hi => by simp -implicitDefEqProofs (disch := omega) [lb, hkpb]⟩, fun j y hj hy => ?_⟩
        by_cases e : j = k
        · subst e; rw [hx] at hy; cases hy; exact hE
        · exact hz j y (by omega) hy
    · simp at c2; omega
  obtain rfl : k = bs.length := by omega
  have hall : ∀ b ∈ bs, eachB b (-1000000000000) 1000000000000 = true := fun b hb => by
    obtain ⟨j, hj, rfl⟩ := List.mem_iff_getElem.1 hb
    exact hz j _ hj (by simp)
  have hp1 := (hkpb s.next (by omega)).trans hp0
  apply zz
  refine Cd.ra (h := ?_)
  apply Run.by_eq
  · intro self
    conv => lhs; simp -implicitDefEqProofs (maxSteps := 300000) (disch := omega) [-getElem?_pos, -getElem?_neg, h26, h25]
  try (with_reducible refine Run.ret ?_)
  apply zz
  apply Cd.ite rfl
  · conv => lhs; simp -implicitDefEqProofs (maxSteps := 300000) (disch := omega) [-getElem?_pos, -getElem?_neg]
  all_goals intro c2
  all_goals try (cases c2; done)
  all_goals try simp only [Bool.not_eq_true', Bool.not_eq_false', decide_eq_true_eq, decide_eq_false_iff_not] at c2
  all_goals apply zz
  apply zz
  refine Cd.ra (h := ?_)
  apply Run.by_eq
  · intro self
    conv => lhs; simp -implicitDefEqProofs (maxSteps := 300000) (disch := omega) [-getElem?_pos, -getElem?_neg, h2, hp1]
  try (with_reducible refine Run.ret ?_)
  apply zz
  have hk1 : Keep s s' := hkq.trans hkp
  refine Run.call ((clone_ev _ fs _ (hf.keep hk1) hl).mono fun r w2 hv => ?_)
  obtain ⟨k2, hC⟩ := hv
  have k2a := k2.1
  have k2b := k2.2
  obtain ⟨ac, cc, rfl⟩ := hC.1.shape
  rw [List.length_map] at hC ⊢
  have hp2 := (k2b s.next (by omega)).trans hp1
  have hT0 := TL.start bs hC
  have hw2 : Keep s w2 := hk1.trans k2
  apply Run.by_eq
  · intro self
    conv => lhs; simp -implicitDefEqProofs (maxSteps := 300000) (disch := omega) [-getElem?_pos, -getElem?_neg]
  try (with_reducible refine Run.ret ?_)
  apply zz
  refine Cd.ra (h := ?_)
  apply Run.by_eq
  · intro self
    conv => lhs; simp -implicitDefEqProofs (maxSteps := 300000) (disch := omega) [-getElem?_pos, -getElem?_neg]
  try (with_reducible refine Run.ret ?_)
  apply zz
  refine Cd.inv (fun z f s' => ∃ k : Nat, k ≤ fs.length ∧ z = fs.length - k ∧ f.marks = [] ∧ f.get 39 = .int .i64 k ∧ f.get 38 = .int .i64 fs.length ∧ f.get 37 = .slice ac fs.length cc ∧ f.get 8 = .slice ac fs.length cc ∧ f.get 1 = .slice ab bs.length cb ∧ f.get 2 = .pointer (some ⟨s.next, 0, none⟩) ∧ s'.next ≥ w2.next ∧ (∀ i, i < s'.next → i < w2.next → i < s.next + 1 → s'.heap.get i = w2.heap.get i) ∧ TL (s.next + 1) s' (.slice ac fs.length cc) fs bs k ∧
    (∀ (j : Nat), j < k → (fs.getD j fd0).me = true → bs.getD j Mass.zero = (fs.getD j fd0).m)) fs.length ?_ ?_
  · refine ⟨0, by omega, rfl, by simp [hm], by simp, by simp, by simp, by simp, by simp [h1], by simp [h2], Nat.le_refl _, fun i _ _ _ => rfl, ?_, fun j hj => absurd hj (by omega)⟩
    rcases hT0 with h | ⟨β, e, b1, b2, b3⟩
    · exact .inl h
    · exact .inr ⟨β, e, by omega, b2, b3⟩
  clear h26 h25 h24 h1 h2 hm
  rintro z f s3 ⟨k, hk, rfl, hm, h39, h38, h37, h8, h1, h2, h3a, h3b, hT, hz⟩
  have hold3 : ∀ i, i < s.next → s3.heap.get i = s.heap.get i := fun i hi => by rw [h3b i (by omega) (by omega) (by omega)]; exact hw2.2 i hi
  have hk3 : Keep s s3 := ⟨by have := hw2.1; omega, hold3⟩
  have hp3 : s3.heap.get s.next = some (.cells [.int .i64 n, .slice a fs.length c] none) := (h3b _ (by omega) (by omega) (by omega)).trans hp2
  by_cases hlt : k < fs.length
  · obtain ⟨g, hg⟩ : ∃ g, fs[k]? = some g := ⟨fs[k], by simp [hlt]⟩
    obtain ⟨x, hx⟩ : ∃ x, bs[k]? = some x := ⟨bs[k], by simp [show k < bs.length by omega]⟩
    have hgk := getD_at (d := fd0) hg
    have hxk := getD_at (d := Mass.zero) hx
    have hxl := eachB_le12 (hall x (List.mem_of_getElem? hx))
    have hmx := mixF_next fs bs k
    rw [hgk, hxk] at hmx
    have hml : g.me = true → g.m.le 1000000000000 := checkErr_le hck g (List.mem_of_getElem? hg)
    rcases hT with ⟨e, _⟩ | ⟨β, e, b1, b2, b3⟩
    · subst e; simp at hlt
    cases e
    have hget := flatG_get (g := fun j => (mixF fs bs k j).cs) (N := 7) (fun j => rfl) hlt
    have hmk : mixF fs bs k k = g := by unfold mixF; rw [if_neg (by omega), hgk]
    have hputA := fun vs x off h => flatG_putAt (g := fun j => (mixF fs bs k j).cs) (N := 7) (fun j => rfl) (vs := vs) (x := x) (off := off) (i := k) h hlt
    simp only [hmk] at hget hputA
    obtain ⟨b, off, o, cs, gg, rfl, hbb, ho, hc, ht⟩ := BalAt.at (hb.keep hk3) hx
    obtain ⟨g0, g1, gm, m⟩ := g
    rw [show FlowD.cs ⟨g0, g1, gm, m⟩ = [.int .i64 g0, .int .i64 g1, .bool gm, .int .i64 m.a, .int .i64 m.b, .int .i64 m.c, .int .i64 m.d] from rfl] at hget
    simp only [] at hml hgk hmx
    have hput1 := hputA [.bool true] [.int .i64 g0, .int .i64 g1, .bool true, .int .i64 m.a, .int .i64 m.b, .int .i64 m.c, .int .i64 m.d] 2 rfl
    have hput2 := flatG_putAt (g := fun j => if j = k then [Value.int .i64 g0, .int .i64 g1, .bool true, .int .i64 m.a, .int .i64 m.b, .int .i64 m.c, .int .i64 m.d] else (mixF fs bs k j).cs) (N := 7) (fun j => by split <;> rfl) (vs := [.int .i64 x.a, .int .i64 x.b, .int .i64 x.c, .int .i64 x.d]) (x := [.int .i64 g0, .int .i64 g1, .bool true, .int .i64 x.a, .int .i64 x.b, .int .i64 x.c, .int .i64 x.d]) (off := 3) (i := k) (by rw [if_pos rfl]; rfl) hlt
    rw [show (fun j => if j = k then [Value.int .i64 g0, .int .i64 g1, .bool true, .int .i64 x.a, .int .i64 x.b, .int .i64 x.c, .int .i64 x.d] else if j = k then [Value.int .i64 g0, .int .i64 g1, .bool true, .int .i64 m.a, .int .i64 m.b, .int .i64 m.c, .int .i64 m.d] else (mixF fs bs k j).cs) = fun j => (mixF fs bs (k + 1) j).cs from by
      rw [hmx]
      funext j
      by_cases e : j = k
      · rw [if_pos e, if_pos e]; rfl
      · rw [if_neg e, if_neg e, if_neg e]] at hput2
    unfold Mass.cs at ht
    apply zz
    refine Cd.ra (h := ?_)
    apply Run.by_eq
    · intro self
      conv => lhs; simp -implicitDefEqProofs (maxSteps := 300000) (disch := omega) [-getElem?_pos, -getElem?_neg, h39, h38]
    try (with_reducible refine Run.ret ?_)
    apply zz
    apply Cd.ite rfl
    · conv => lhs; simp -implicitDefEqProofs (maxSteps := 300000) (disch := omega) [-getElem?_pos, -getElem?_neg]
    all_goals intro c3
    all_goals try (cases c3; done)
    all_goals try simp only [Bool.not_eq_true', Bool.not_eq_false', decide_eq_true_eq, decide_eq_false_iff_not] at c3
    all_goals apply zz
    · apply zz
      refine Cd.ra (h := ?_)
      apply Run.by_eq
      · intro self
        conv => lhs; simp -implicitDefEqProofs (maxSteps := 300000) (disch := omega) [-getElem?_pos, -getElem?_neg, h39, h37, b3, hget, hlt]
      try (with_reducible refine Run.ret ?_)
      apply zz
      cases gm with
      | false =>
        apply zz
        refine Cd.drawnH (pl := [(0, 0, false, false), (1, 1, false, false), (2, 3, false, false), (3, 7, false, false), (4, 7, false, false), (5, 31, false, false), (6, 63, false, false), (7, 7, false, false), (8, 135, false, false), (9, 511, false, false), (10, 1023, false, false)]) [false, false, false, false, false, false, false, false, false, false, false] (by kernel_rfl) (by decide) (by decide) (by conv => lhs; simp only [List.map_cons, List.map_nil]) (by conv => lhs; simp [strip, orderedG, flagH]) ?_
        apply Run.by_eq
        · intro self
          conv => lhs; simp -implicitDefEqProofs (maxSteps := 300000) (disch := omega) [-getElem?_pos, -getElem?_neg]
        try (with_reducible refine Run.ret ?_)
        apply zz
        apply Cd.ite rfl
        · conv => lhs; simp -implicitDefEqProofs (maxSteps := 300000) (disch := omega) [-getElem?_pos, -getElem?_neg]
        all_goals intro c4
        all_goals try (cases c4; done)
        all_goals try simp only [Bool.not_eq_true', Bool.not_eq_false', decide_eq_true_eq, decide_eq_false_iff_not] at c4
        all_goals apply zz
        apply zz
        refine Cd.ra (h := ?_)
        apply Run.by_eq
        · intro self
          conv => lhs; simp -implicitDefEqProofs (maxSteps := 300000) (disch := omega) [-getElem?_pos, -getElem?_neg, h8, h1, b3, hlt, ho, hc, ht, hput1, hput2, show k < bs.length by omega]
        try (with_reducible refine Run.ret ?_)
        apply zz
        refine Cd.ra (h := ?_)
        apply Run.by_eq
        · intro self
          conv => lhs; simp -implicitDefEqProofs (maxSteps := 300000) (disch := omega) [-getElem?_pos, -getElem?_neg, h39]
        try (with_reducible refine Run.ret ?_)
        apply zz
        refine LoopK.nm (fs.length - (k + 1)) (by omega) ⟨k + 1, by omega, rfl, by simp [hm], by simp, by simp [h38], by simp [h37], by simp [h8], by simp [h1], by simp [h2], ?_, fun i q1 q2 q3 => ?_, ?_, fun j hj hme => ?_⟩
        · (try simp only [pushed_next', upded_next']); omega
        · have := h3b i (by omega) q2 q3
          simp -implicitDefEqProofs (disch := omega) [this]
        · refine .inr ⟨β, rfl, b1, ?_, ?_⟩
          · (try simp only [pushed_next', upded_next']); omega
          · simp -implicitDefEqProofs (disch := omega)
        · by_cases e : j = k
          · subst e; rw [hgk] at hme; cases hme
          · exact hz j (by omega) hme
      | true =>
        have hEq : aggEq TT 36 #[.int .i64 x.a, .int .i64 x.b, .int .i64 x.c, .int .i64 x.d] #[.int .i64 m.a, .int .i64 m.b, .int .i64 m.c, .int .i64 m.d] = some (decide (x = m)) := aggEqA unA36 ceA36 (hxl.mono (by omega)) ((hml rfl).mono (by omega))
        have veb : veq 5 (Value.slice (some ⟨b, off, none⟩) bs.length cb) (Value.slice (some ⟨b, off, none⟩) bs.length cb) = true := veq_slice _ _ _ _ _
        by_cases hxm : x = m
        case neg =>
          rw [decide_eq_false hxm] at hEq
          apply zz
          refine Cd.drawnH (pl := [(0, 0, false, false), (1, 1, false, false), (2, 3, false, false), (3, 7, false, false), (4, 7, false, false), (5, 31, false, false), (6, 63, false, false), (7, 7, false, false), (8, 135, false, false), (9, 511, false, false), (10, 1023, false, false)]) [false, false, false, false, false, false, false, false, false, false, false] (by kernel_rfl) (by decide) (by decide) (by conv => lhs; simp only [List.map_cons, List.map_nil]) (by conv => lhs; simp [strip, orderedG, flagH]) ?_
          apply Run.by_eq
          · intro self
            conv => lhs; simp -implicitDefEqProofs (maxSteps := 300000) (disch := omega) [-getElem?_pos, -getElem?_neg, h1, hlt, ho, hc, ht, show k < bs.length by omega, veb, hEq]
          try (with_reducible refine Run.ret ?_)
          apply zz
          apply Cd.ite rfl
          · conv => lhs; simp -implicitDefEqProofs (maxSteps := 300000) (disch := omega) [-getElem?_pos, -getElem?_neg]
          all_goals intro c4
          all_goals try (cases c4; done)
          all_goals try simp only [Bool.not_eq_true', Bool.not_eq_false', decide_eq_true_eq, decide_eq_false_iff_not] at c4
          all_goals apply zz
          apply zz
          refine Cd.ra (h := ?_)
          apply Run.by_eq
          · intro self
            conv => lhs; simp -implicitDefEqProofs (maxSteps := 300000) (disch := omega) [-getElem?_pos, -getElem?_neg]
          try (with_reducible refine Run.ret ?_)
          apply zz
          apply Leave.mk (by first | exact .inl rfl | exact .inr rfl) (by simp only [Fr.marks_put, fr0_marks, hm])
          · conv => lhs; simp -implicitDefEqProofs (disch := omega) [Try.results29, hm]
          have hv : verE n fs bs = (0, 22) := by
            unfold verE
            rw [if_neg (by simp [hck]), if_neg (by omega), if_neg (by
              rintro ⟨y, hy, he⟩
              rw [hall y hy] at he; cases he), if_pos ⟨k, hlt, by rw [hgk], by rw [hgk, hxk]; exact hxm⟩]
          rw [hv]
          exact ⟨rfl, ⟨by (try simp only [pushed_next', upded_next']); omega, fun i hi => by simp -implicitDefEqProofs (disch := omega) [hold3]⟩⟩
        rw [decide_eq_true hxm] at hEq
        apply zz
        refine Cd.drawnH (pl := [(0, 0, false, false), (1, 1, false, false), (2, 3, false, false), (3, 7, false, false), (4, 7, false, false), (5, 31, false, false), (6, 63, false, false), (7, 7, false, false), (8, 135, false, false), (9, 511, false, false), (10, 1023, false, false)]) [false, false, false, false, false, false, false, false, false, false, false] (by kernel_rfl) (by decide) (by decide) (by conv => lhs; simp only [List.map_cons, List.map_nil]) (by conv => lhs; simp [strip, orderedG, flagH]) ?_
        apply Run.by_eq
        · intro self
          conv => lhs; simp -implicitDefEqProofs (maxSteps := 300000) (disch := omega) [-getElem?_pos, -getElem?_neg, h1, hlt, ho, hc, ht, show k < bs.length by omega, veb, hEq]
        try (with_reducible refine Run.ret ?_)
        apply zz
        apply Cd.ite rfl
        · conv => lhs; simp -implicitDefEqProofs (maxSteps := 300000) (disch := omega) [-getElem?_pos, -getElem?_neg]
        all_goals intro c4
        all_goals try (cases c4; done)
        all_goals try simp only [Bool.not_eq_true', Bool.not_eq_false', decide_eq_true_eq, decide_eq_false_iff_not] at c4
        all_goals apply zz
        apply zz
        refine Cd.ra (h := ?_)
        apply Run.by_eq
        · intro self
          conv => lhs; simp -implicitDefEqProofs (maxSteps := 300000) (disch := omega) [-getElem?_pos, -getElem?_neg, h8, h1, b3, hlt, ho, hc, ht, hput1, hput2, show k < bs.length by omega]
        try (with_reducible refine Run.ret ?_)
        apply zz
        refine Cd.ra (h := ?_)
        apply Run.by_eq
        · intro self
          conv => lhs; simp -implicitDefEqProofs (maxSteps := 300000) (disch := omega) [-getElem?_pos, -getElem?_neg, h39]
        try (with_reducible refine Run.ret ?_)
        apply zz
        refine LoopK.nm (fs.length - (k + 1)) (by omega) ⟨k + 1, by omega, rfl, by simp [hm], by simp, by simp [h38], by simp [h37], by simp [h8], by simp [h1], by simp [h2], ?_, fun i q1 q2 q3 => ?_, ?_, fun j hj hme => ?_⟩
        · (try simp only [pushed_next', upded_next']); omega
        · have := h3b i (by omega) q2 q3
          simp -implicitDefEqProofs (disch := omega) [this]
        · refine .inr ⟨β, rfl, b1, ?_, ?_⟩
          · (try simp only [pushed_next', upded_next']); omega
          · simp -implicitDefEqProofs (disch := omega)
        · by_cases e : j = k
          · subst e; rw [hgk, hxk]; exact hxm
          · exact hz j (by omega) hme
    · simp at c3; omega
  obtain rfl : k = fs.length := by omega
  have hTF := hT.done
  have hTL := told_le hll' hall
  have htl : (told fs bs).length = fs.length := by simp [told]
  have hvE : verE n fs bs = unitE (told fs bs) n 0 := by
    unfold verE
    rw [if_neg (by simp [hck]), if_neg (by omega), if_neg (by
      rintro ⟨y, hy, he⟩
      rw [hall y hy] at he; cases he), if_neg (by
      rintro ⟨j, h1, h2, h3⟩
      exact h3 (hz j h1 h2))]
    rfl
  rw [hvE]
  generalize told fs bs = gs at hTF hTL htl ⊢
  apply zz
  refine Cd.ra (h := ?_)
  apply Run.by_eq
  · intro self
    conv => lhs; simp -implicitDefEqProofs (maxSteps := 300000) (disch := omega) [-getElem?_pos, -getElem?_neg, h39, h38]
  try (with_reducible refine Run.ret ?_)
  apply zz
  apply Cd.ite rfl
  · conv => lhs; simp -implicitDefEqProofs (maxSteps := 300000) (disch := omega) [-getElem?_pos, -getElem?_neg]
  all_goals intro c3
  all_goals try (cases c3; done)
  all_goals try simp only [Bool.not_eq_true', Bool.not_eq_false', decide_eq_true_eq, decide_eq_false_iff_not] at c3
  all_goals apply zz
  apply zz
  refine Cd.ra (h := ?_)
  apply Run.by_eq
  · intro self
    conv => lhs; simp -implicitDefEqProofs (maxSteps := 300000) (disch := omega) [-getElem?_pos, -getElem?_neg, h2, h8, hp3]
  try (with_reducible refine Run.ret ?_)
  apply zz
  refine Cd.ra (h := ?_)
  apply Run.by_eq
  · intro self
    conv => lhs; simp -implicitDefEqProofs (maxSteps := 300000) (disch := omega) [-getElem?_pos, -getElem?_neg, h2, hp3]
  try (with_reducible refine Run.ret ?_)
  apply zz
  refine Cd.inv (fun z f s' => ∃ k : Nat, k ≤ n ∧ z = n - k ∧ f.marks = [] ∧ f.get 74 = .int .i64 k ∧ f.get 73 = .int .i64 n ∧ f.get 11 = .pointer (some ⟨s3.next, 0, none⟩) ∧ Keep s3 s' ∧ s3.next < s'.next ∧ s'.heap.get s3.next = some (.cells [.int .i64 n, .slice ac fs.length cc] none) ∧ unitE gs (n - k) k = unitE gs n 0) n ?_ ?_
  · exact ⟨0, by omega, rfl, by simp [hm], by simp, by simp, by simp, ⟨by (try simp only [pushed_next', upded_next']); omega, fun i hi => by simp -implicitDefEqProofs (disch := omega) []⟩, by simp, by simp -implicitDefEqProofs (disch := omega), by rw [Nat.sub_zero]⟩
  clear hm h39 h38 h37 h8 h1 h2
  rintro z f s4 ⟨k, hk, rfl, hm, h74, h73, h11, hkp4, hn4, hg4, hU⟩
  have hkp4a := hkp4.1
  have hkp4b := hkp4.2
  by_cases hlt : k < n
  · have hlt' : (k : Int) < n := by omega
    apply zz
    refine Cd.ra (h := ?_)
    apply Run.by_eq
    · intro self
      conv => lhs; simp -implicitDefEqProofs (maxSteps := 300000) (disch := omega) [-getElem?_pos, -getElem?_neg, h74, h73]
    try (with_reducible refine Run.ret ?_)
    apply zz
    apply Cd.ite rfl
    · conv => lhs; simp -implicitDefEqProofs (maxSteps := 300000) (disch := omega) [-getElem?_pos, -getElem?_neg]
    all_goals intro c5
    all_goals try (cases c5; done)
    all_goals try simp only [Bool.not_eq_true', Bool.not_eq_false', decide_eq_true_eq, decide_eq_false_iff_not] at c5
    all_goals apply zz
    · apply zz
      refine Cd.ra (h := ?_)
      apply Run.by_eq
      · intro self
        conv => lhs; simp -implicitDefEqProofs (maxSteps := 300000) (disch := omega) [-getElem?_pos, -getElem?_neg, h74]
      try (with_reducible refine Run.ret ?_)
      apply zz
      refine Cd.ra (h := ?_)
      apply Run.by_eq
      · intro self
        conv => lhs; simp -implicitDefEqProofs (maxSteps := 300000) (disch := omega) [-getElem?_pos, -getElem?_neg, h11, hg4]
      try (with_reducible refine Run.ret ?_)
      apply zz
      refine Run.call ((excess_ev n (.slice ac fs.length cc) (.slice (some ⟨s4.next, 0, none⟩) 1 1) gs [(k : Int)] _ (hTF.keep ⟨by (try simp only [pushed_next', upded_next']); omega, fun i hi => by simp -implicitDefEqProofs (disch := omega) [hkp4b]⟩) (ints_of_cells (xs := [(k : Int)]) (g := none) (by simp) (by simp -implicitDefEqProofs (disch := omega))) (by omega) (by simp) hTL).mono fun v wy hv => ?_)
      obtain ⟨rfl, y⟩ := hv
      have ya := y.1
      have yb := y.2
      try simp only [pushed_next', upded_next'] at ya yb
      have hxl := exc_bound (xs := [(k : Int)]) (by omega) hTL gs.length
      rw [List.take_length] at hxl
      have hxl : (excM [(k : Int)] gs).le 1000000000000000 := hxl.mono (by omega)
      rw [show n - k = (n - (k + 1)) + 1 by omega, unitE] at hU
      generalize hmx : excM [(k : Int)] gs = mx at hxl hU
      have hEq : aggEq TT 36 #[.int .i64 mx.a, .int .i64 mx.b, .int .i64 mx.c, .int .i64 mx.d] #[.int .i64 0, .int .i64 0, .int .i64 0, .int .i64 0] = some (decide (mx = Mass.zero)) := aggEqA unA36 ceA36 (m := mx) (p := Mass.zero) (hxl.mono (by omega)) (Mass.le_zero (by omega))
      by_cases hz0 : mx = Mass.zero
      · rw [decide_eq_true hz0] at hEq
        rw [if_pos hz0] at hU
        apply Run.by_eq
        · intro self
          conv => lhs; simp -implicitDefEqProofs (maxSteps := 300000) (disch := omega) [-getElem?_pos, -getElem?_neg, Mass.v, hEq]
        try (with_reducible refine Run.ret ?_)
        apply zz
        apply Cd.ite rfl
        · conv => lhs; simp -implicitDefEqProofs (maxSteps := 300000) (disch := omega) [-getElem?_pos, -getElem?_neg]
        all_goals intro c6
        all_goals try (cases c6; done)
        all_goals try simp only [Bool.not_eq_true', Bool.not_eq_false', decide_eq_true_eq, decide_eq_false_iff_not] at c6
        all_goals apply zz
        apply zz
        refine Cd.ra (h := ?_)
        apply Run.by_eq
        · intro self
          conv => lhs; simp -implicitDefEqProofs (maxSteps := 300000) (disch := omega) [-getElem?_pos, -getElem?_neg, h74]
        try (with_reducible refine Run.ret ?_)
        apply zz
        refine LoopK.nm (n - (k + 1)) (by omega) ⟨k + 1, by omega, rfl, by simp [hm], by simp, by simp [h73], by simp [h11], ⟨by (try simp only [pushed_next', upded_next']); omega, fun i hi => by simp -implicitDefEqProofs (disch := omega) [yb, hkp4b]⟩, by (try simp only [pushed_next', upded_next'] at ya ⊢); omega, by simp -implicitDefEqProofs (disch := omega) [yb, hg4], hU⟩
      · rw [decide_eq_false hz0] at hEq
        rw [if_neg hz0] at hU
        apply Run.by_eq
        · intro self
          conv => lhs; simp -implicitDefEqProofs (maxSteps := 300000) (disch := omega) [-getElem?_pos, -getElem?_neg, Mass.v, hEq]
        try (with_reducible refine Run.ret ?_)
        apply zz
        apply Cd.ite rfl
        · conv => lhs; simp -implicitDefEqProofs (maxSteps := 300000) (disch := omega) [-getElem?_pos, -getElem?_neg]
        all_goals intro c6
        all_goals try (cases c6; done)
        all_goals try simp only [Bool.not_eq_true', Bool.not_eq_false', decide_eq_true_eq, decide_eq_false_iff_not] at c6
        all_goals apply zz
        apply zz
        refine Cd.ra (h := ?_)
        apply Run.by_eq
        · intro self
          conv => lhs; simp -implicitDefEqProofs (maxSteps := 300000) (disch := omega) [-getElem?_pos, -getElem?_neg]
        try (with_reducible refine Run.ret ?_)
        apply zz
        apply Leave.mk (by first | exact .inl rfl | exact .inr rfl) (by simp only [Fr.marks_put, fr0_marks, hm])
        · conv => lhs; simp -implicitDefEqProofs (disch := omega) [Try.results29, hm]
        rw [← hU]
        exact ⟨rfl, ⟨by (try simp only [pushed_next', upded_next']); omega, fun i hi => by simp -implicitDefEqProofs (disch := omega) [yb, hkp4b, hold3]⟩⟩
    · simp at c5; omega
  obtain rfl : k = n := by omega
  apply zz
  refine Cd.ra (h := ?_)
  apply Run.by_eq
  · intro self
    conv => lhs; simp -implicitDefEqProofs (maxSteps := 300000) (disch := omega) [-getElem?_pos, -getElem?_neg, h74, h73]
  try (with_reducible refine Run.ret ?_)
  apply zz
  apply Cd.ite rfl
  · conv => lhs; simp -implicitDefEqProofs (maxSteps := 300000) (disch := omega) [-getElem?_pos, -getElem?_neg]
  all_goals intro c5
  all_goals try (cases c5; done)
  all_goals try simp only [Bool.not_eq_true', Bool.not_eq_false', decide_eq_true_eq, decide_eq_false_iff_not] at c5
  all_goals apply zz
  apply zz
  refine Cd.ra (h := ?_)
  apply Run.by_eq
  · intro self
    conv => lhs; simp -implicitDefEqProofs (maxSteps := 300000) (disch := omega) [-getElem?_pos, -getElem?_neg]
  try (with_reducible refine Run.ret ?_)
  apply zz
  apply Leave.mk (by first | exact .inl rfl | exact .inr rfl) (by simp only [Fr.marks_put, fr0_marks, hm])
  · conv => lhs; simp -implicitDefEqProofs (disch := omega) [Try.results29, hm]
  rw [← hU, Nat.sub_self]
  exact ⟨rfl, ⟨by (try simp only [pushed_next', upded_next']); omega, fun i hi => by simp -implicitDefEqProofs (disch := omega) [hkp4b, hold3]⟩⟩
end Go.Proofs.Ytifkpaomhnlahaa
namespace Go.Proofs.Ytifkpaomhnlahaa
open Go Kern
theorem told_at {fs : List FlowD} {bs : List Mass} {k : Nat} {f : FlowD} {x : Mass} (hf : fs[k]? = some f) (hx : bs[k]? = some x) : (told fs bs)[k]? = some ⟨f.fr, f.to, true, x⟩ := by
  have hk := (List.getElem?_eq_some_iff.1 hf).1
  unfold told
  rw [List.getElem?_map, List.getElem?_range hk]
  show some (mixF fs bs fs.length k) = _
  unfold mixF
  rw [if_pos hk, getD_at hf, getD_at hx]
theorem excStep_one (k : Int) (acc : Mass) (f : FlowD) (x : Mass) : excStep [k] acc ⟨f.fr, f.to, true, x⟩ = if f.fr = k then (if f.to = k then acc.add x else acc).sub x else if f.to = k then acc.add x else acc := by
  unfold excStep
  simp
theorem takeL_cons {α : Type} {n k : Nat} {l : List α} {a : α} {r : List α} (h : takeL (k + 1) (l.drop n) = some (a :: r)) : l[n]? = some a ∧ takeL k (l.drop (n + 1)) = some r := by
  have h0 := takeL_at h (i := 0) (by omega)
  rw [List.getElem?_drop] at h0
  refine ⟨by simpa using h0, ?_⟩
  cases hl : l.drop n with
  | nil => rw [hl] at h; cases h
  | cons x t =>
    rw [hl] at h
    obtain ⟨t', h1, h2⟩ := ob_eq (show ob (takeL k t) (fun t => some (x :: t)) = some (a :: r) from h)
    cases h2
    rw [← List.drop_drop, hl]
    exact h1
/-- The parts of a flow in memory. -/
theorem flow_parts {cs : List Value} {p : Nat} {a b c : Value} {r : List Value} (h : takeL 7 (cs.drop p) = some (a :: b :: c :: r)) : cs[p]? = some a ∧ cs[p + 1]? = some b ∧ cs[p + 2]? = some c ∧ takeL 4 (cs.drop (p + 3)) = some r := by
  obtain ⟨h1, h⟩ := takeL_cons h
  obtain ⟨h2, h⟩ := takeL_cons h
  obtain ⟨h3, h⟩ := takeL_cons h
  exact ⟨h1, h2, h3, h⟩
set_option maxRecDepth 100000 in
set_option maxHeartbeats 4000000 in
theorem refVerify_ev (u : Int) (v w : Value) (fs : List FlowD) (bs : List Mass) (s : St) (hf : FlAt s v fs) (hb : BalAt s w bs) (hl : fs.length ≤ 1000) (hlb : bs.length ≤ 1000) :
    Ev TT 28 [plantV u v, w] s fun r s' => r = .tuple #[.int .i64 (verE u fs bs).1, .int .i64 (verE u fs bs).2] ∧ Keep s s' := by
  obtain ⟨a, c, rfl⟩ := hf.shape
  obtain ⟨ab, cb, rfl⟩ := hb.shape
  rw [List.length_map] at hf hb ⊢
  rw [List.length_map]
  unfold plantV
  have nl := natOf_cast .i64 fs.length
  have nb := natOf_cast .i64 bs.length
  refine Ev.intro (fn := Try.f28) rfl (by kernel_rfl) rfl rfl ?_
  apply zz
  refine Cd.ra (h := ?_)
  apply Run.by_eq
  · intro self
    conv => lhs; simp -implicitDefEqProofs (maxSteps := 300000) (disch := omega) [-getElem?_pos, -getElem?_neg]
  try (with_reducible refine Run.ret ?_)
  apply zz
  refine Cd.ra (h := ?_)
  apply Run.by_eq
  · intro self
    conv => lhs; simp -implicitDefEqProofs (maxSteps := 300000) (disch := omega) [-getElem?_pos, -getElem?_neg]
  try (with_reducible refine Run.ret ?_)
  apply zz
  refine Run.call ((refCheck_ev u _ fs _ (hf.keep ⟨by (try simp only [pushed_next', upded_next']); omega, fun i hi => by simp -implicitDefEqProofs (disch := omega) []⟩) (by omega)).mono fun v wq hv => ?_)
  obtain ⟨rfl, q⟩ := hv
  have qa := q.1
  have qb := q.2
  try simp only [pushed_next', upded_next'] at qa qb
  apply Run.by_eq
  · intro self
    conv => lhs; simp -implicitDefEqProofs (maxSteps := 300000) (disch := omega) [-getElem?_pos, -getElem?_neg, qb]
  try (with_reducible refine Run.ret ?_)
  apply zz
  refine Cd.ra (h := ?_)
  apply Run.by_eq
  · intro self
    conv => lhs; simp -implicitDefEqProofs (maxSteps := 300000) (disch := omega) [-getElem?_pos, -getElem?_neg, qb]
  try (with_reducible refine Run.ret ?_)
  apply zz
  apply Cd.ite rfl
  · conv => lhs; simp -implicitDefEqProofs (maxSteps := 300000) (disch := omega) [-getElem?_pos, -getElem?_neg]
  all_goals intro c0
  all_goals try (cases c0; done)
  all_goals try simp only [Bool.not_eq_true', Bool.not_eq_false', decide_eq_true_eq, decide_eq_false_iff_not] at c0
  all_goals apply zz
  · apply zz
    refine Cd.ra (h := ?_)
    apply Run.by_eq
    · intro self
      conv => lhs; simp -implicitDefEqProofs (maxSteps := 300000) (disch := omega) [-getElem?_pos, -getElem?_neg, qb]
    try (with_reducible refine Run.ret ?_)
    apply zz
    apply Leave.mk (by first | exact .inl rfl | exact .inr rfl) (by simp only [Fr.marks_put, fr0_marks, qb])
    · conv => lhs; simp -implicitDefEqProofs (disch := omega) [Try.results28, qb]
    have hv : verE u fs bs = (0, checkErr u fs) := by unfold verE; rw [if_pos c0]
    rw [hv]
    exact ⟨rfl, ⟨by (try simp only [pushed_next', upded_next']); omega, fun i hi => by simp -implicitDefEqProofs (disch := omega) [qb]⟩⟩
  have hck : checkErr u fs = 0 := c0
  obtain ⟨hu1, hu2, hl20, _⟩ := checkErr_ok hck
  obtain ⟨n, hn⟩ : ∃ n : Nat, u = n := ⟨u.toNat, by omega⟩
  subst hn
  by_cases hll : (bs.length : Int) = fs.length
  case neg =>
    apply zz
    refine Cd.ra (h := ?_)
    apply Run.by_eq
    · intro self
      conv => lhs; simp -implicitDefEqProofs (maxSteps := 300000) (disch := omega) [-getElem?_pos, -getElem?_neg, qb, hll]
    try (with_reducible refine Run.ret ?_)
    apply zz
    apply Cd.ite rfl
    · conv => lhs; simp -implicitDefEqProofs (maxSteps := 300000) (disch := omega) [-getElem?_pos, -getElem?_neg]
    all_goals intro c1
    all_goals try (cases c1; done)
    all_goals try simp only [Bool.not_eq_true', Bool.not_eq_false', decide_eq_true_eq, decide_eq_false_iff_not] at c1
    all_goals apply zz
    apply zz
    refine Cd.ra (h := ?_)
    apply Run.by_eq
    · intro self
      conv => lhs; simp -implicitDefEqProofs (maxSteps := 300000) (disch := omega) [-getElem?_pos, -getElem?_neg, qb]
    try (with_reducible refine Run.ret ?_)
    apply zz
    apply Leave.mk (by first | exact .inl rfl | exact .inr rfl) (by simp only [Fr.marks_put, fr0_marks, qb])
    · conv => lhs; simp -implicitDefEqProofs (disch := omega) [Try.results28, qb]
    have hv : verE n fs bs = (0, 3) := by unfold verE; rw [if_neg (by simp [hck]), if_pos (by omega)]
    rw [hv]
    exact ⟨rfl, ⟨by (try simp only [pushed_next', upded_next']); omega, fun i hi => by simp -implicitDefEqProofs (disch := omega) [qb]⟩⟩
  apply zz
  refine Cd.ra (h := ?_)
  apply Run.by_eq
  · intro self
    conv => lhs; simp -implicitDefEqProofs (maxSteps := 300000) (disch := omega) [-getElem?_pos, -getElem?_neg, qb, hll]
  try (with_reducible refine Run.ret ?_)
  apply zz
  apply Cd.ite rfl
  · conv => lhs; simp -implicitDefEqProofs (maxSteps := 300000) (disch := omega) [-getElem?_pos, -getElem?_neg]
  all_goals intro c1
  all_goals try (cases c1; done)
  all_goals try simp only [Bool.not_eq_true', Bool.not_eq_false', decide_eq_true_eq, decide_eq_false_iff_not] at c1
  all_goals apply zz
  have hll' : bs.length = fs.length := by omega
  have hp0 : wq.heap.get s.next = some (.cells [.int .i64 n, .slice a fs.length c] none) := by rw [qb _ (by omega)]; simp -implicitDefEqProofs (disch := omega)
  have hold : ∀ i, i < s.next → wq.heap.get i = s.heap.get i := fun i hi => by rw [qb i (by omega)]; simp -implicitDefEqProofs (disch := omega)
  have hkq : Keep s wq := ⟨by omega, hold⟩
  apply zz
  refine Cd.ra (h := ?_)
  apply Run.by_eq
  · intro self
    conv => lhs; simp -implicitDefEqProofs (maxSteps := 300000) (disch := omega) [-getElem?_pos, -getElem?_neg]
  try (with_reducible refine Run.ret ?_)
  apply zz
  refine Cd.inv (fun z f s' => ∃ k : Nat, k ≤ bs.length ∧ z = bs.length - k ∧ f.marks = [] ∧ f.get 7 = .int .i64 k ∧ f.get 1 = .slice ab bs.length cb ∧ f.get 2 = .pointer (some ⟨s.next, 0, none⟩) ∧ Keep wq s' ∧ (∀ (j : Nat) (x : Mass), j < k → bs[j]? = some x → eachB x (-1000000000000) 1000000000000 = true)) bs.length ?_ ?_
  · exact ⟨0, by omega, rfl, by simp, by simp, by simp, by simp, Keep.refl _, fun j x hj => absurd hj (by omega)⟩
  rintro z f s' ⟨k, hk, rfl, hm, h7, h1, h2, hkp, hz⟩
  have hkpa := hkp.1
  have hkpb := hkp.2
  by_cases hlt : k < bs.length
  · obtain ⟨x, hx⟩ : ∃ x, bs[k]? = some x := ⟨bs[k], by simp [hlt]⟩
    obtain ⟨b, off, o, cs, gg, rfl, hbb, ho, hc, ht⟩ := BalAt.at (hb.keep (hkq.trans hkp)) hx
    unfold Mass.cs at ht
    apply zz
    refine Cd.ra (h := ?_)
    apply Run.by_eq
    · intro self
      conv => lhs; simp -implicitDefEqProofs (maxSteps := 300000) (disch := omega) [-getElem?_pos, -getElem?_neg, h7, h1]
    try (with_reducible refine Run.ret ?_)
    apply zz
    apply Cd.ite rfl
    · conv => lhs; simp -implicitDefEqProofs (maxSteps := 300000) (disch := omega) [-getElem?_pos, -getElem?_neg]
    all_goals intro c2
    all_goals try (cases c2; done)
    all_goals try simp only [Bool.not_eq_true', Bool.not_eq_false', decide_eq_true_eq, decide_eq_false_iff_not] at c2
    all_goals apply zz
    · apply zz
      refine Cd.ra (h := ?_)
      apply Run.by_eq
      · intro self
        conv => lhs; simp -implicitDefEqProofs (maxSteps := 300000) (disch := omega) [-getElem?_pos, -getElem?_neg, h7, h1, ho, hc, ht, hlt]
      try (with_reducible refine Run.ret ?_)
      apply zz
      refine Run.call ((each_ev x (-1000000000000) 1000000000000 _).mono fun v wl hv => ?_)
      obtain ⟨rfl, l⟩ := hv
      have la := l.1
      have lb := l.2
      try simp only [pushed_next', upded_next'] at la lb
      cases hE : eachB x (-1000000000000) 1000000000000 with
      | false =>
        apply Run.by_eq
        · intro self
          conv => lhs; simp -implicitDefEqProofs (maxSteps := 300000) (disch := omega) [-getElem?_pos, -getElem?_neg, hE]
        try (with_reducible refine Run.ret ?_)
        apply zz
        apply Cd.ite rfl
        · conv => lhs; simp -implicitDefEqProofs (maxSteps := 300000) (disch := omega) [-getElem?_pos, -getElem?_neg]
        all_goals intro c3
        all_goals try (cases c3; done)
        all_goals try simp only [Bool.not_eq_true', Bool.not_eq_false', decide_eq_true_eq, decide_eq_false_iff_not] at c3
        all_goals apply zz
        apply zz
        refine Cd.ra (h := ?_)
        apply Run.by_eq
        · intro self
          conv => lhs; simp -implicitDefEqProofs (maxSteps := 300000) (disch := omega) [-getElem?_pos, -getElem?_neg]
        try (with_reducible refine Run.ret ?_)
        apply zz
        apply Leave.mk (by first | exact .inl rfl | exact .inr rfl) (by simp only [Fr.marks_put, fr0_marks, hm])
        · conv => lhs; simp -implicitDefEqProofs (disch := omega) [Try.results28, hm]
        have hv : verE n fs bs = (0, 2) := by unfold verE; rw [if_neg (by simp [hck]), if_neg (by omega), if_pos ⟨x, List.mem_of_getElem? hx, hE⟩]
        rw [hv]
        exact ⟨rfl, ⟨by (try simp only [pushed_next', upded_next']); omega, fun i hi => by simp -implicitDefEqProofs (disch := omega) [lb, hkpb, hold]⟩⟩
      | true =>
        apply Run.by_eq
        · intro self
          conv => lhs; simp -implicitDefEqProofs (maxSteps := 300000) (disch := omega) [-getElem?_pos, -getElem?_neg, hE]
        try (with_reducible refine Run.ret ?_)
        apply zz
        apply Cd.ite rfl
        · conv => lhs; simp -implicitDefEqProofs (maxSteps := 300000) (disch := omega) [-getElem?_pos, -getElem?_neg]
        all_goals intro c3
        all_goals try (cases c3; done)
        all_goals try simp only [Bool.not_eq_true', Bool.not_eq_false', decide_eq_true_eq, decide_eq_false_iff_not] at c3
        all_goals apply zz
        apply zz
        refine Cd.ra (h := ?_)
        apply Run.by_eq
        · intro self
          conv => lhs; simp -implicitDefEqProofs (maxSteps := 300000) (disch := omega) [-getElem?_pos, -getElem?_neg, h7]
        try (with_reducible refine Run.ret ?_)
        apply zz
        refine LoopK.nm (bs.length - (k + 1)) (by omega) ⟨k + 1, by omega, rfl, by simp [hm], by simp, by simp [h1], by simp [h2], ⟨by (try simp only [pushed_next', upded_next']); omega, fun i hi => by simp -implicitDefEqProofs (disch := omega) [lb, hkpb]⟩, fun j y hj hy => ?_⟩
        by_cases e : j = k
        · subst e; rw [hx] at hy; cases hy; exact hE
        · exact hz j y (by omega) hy
    · simp at c2; omega
  obtain rfl : k = bs.length := by omega
  have hall : ∀ b ∈ bs, eachB b (-1000000000000) 1000000000000 = true := fun b hb => by
    obtain ⟨j, hj, rfl⟩ := List.mem_iff_getElem.1 hb
    exact hz j _ hj (by simp)
  clear hz
  have hp1 := (hkpb s.next (by omega)).trans hp0
  have hk1 : Keep s s' := hkq.trans hkp
  apply zz
  refine Cd.ra (h := ?_)
  apply Run.by_eq
  · intro self
    conv => lhs; simp -implicitDefEqProofs (maxSteps := 300000) (disch := omega) [-getElem?_pos, -getElem?_neg, h7, h1]
  try (with_reducible refine Run.ret ?_)
  apply zz
  apply Cd.ite rfl
  · conv => lhs; simp -implicitDefEqProofs (maxSteps := 300000) (disch := omega) [-getElem?_pos, -getElem?_neg]
  all_goals intro c2
  all_goals try (cases c2; done)
  all_goals try simp only [Bool.not_eq_true', Bool.not_eq_false', decide_eq_true_eq, decide_eq_false_iff_not] at c2
  all_goals apply zz
  apply zz
  refine Cd.ra (h := ?_)
  apply Run.by_eq
  · intro self
    conv => lhs; simp -implicitDefEqProofs (maxSteps := 300000) (disch := omega) [-getElem?_pos, -getElem?_neg]
  try (with_reducible refine Run.ret ?_)
  apply zz
  refine Cd.inv (fun z f s2 => ∃ k : Nat, k ≤ bs.length ∧ z = bs.length - k ∧ f.marks = [] ∧ f.get 8 = .int .i64 k ∧ f.get 1 = .slice ab bs.length cb ∧ f.get 2 = .pointer (some ⟨s.next, 0, none⟩) ∧ Keep s' s2 ∧ (∀ (j : Nat), j < k → (fs.getD j fd0).me = true → bs.getD j Mass.zero = (fs.getD j fd0).m)) bs.length ?_ ?_
  · exact ⟨0, by omega, rfl, by simp [hm], by simp, by simp [h1], by simp [h2], Keep.refl _, fun j hj => absurd hj (by omega)⟩
  clear hm h7 h1 h2
  rintro z f s2 ⟨k, hk, rfl, hm, h8, h1, h2, hkp2, hz⟩
  have hkp2a := hkp2.1
  have hkp2b := hkp2.2
  have hp2 := (hkp2b s.next (by omega)).trans hp1
  have hk2 : Keep s s2 := hk1.trans hkp2
  by_cases hlt : k < bs.length
  · obtain ⟨g, hg⟩ : ∃ g, fs[k]? = some g := ⟨fs[k], by simp [show k < fs.length by omega]⟩
    obtain ⟨x, hx⟩ : ∃ x, bs[k]? = some x := ⟨bs[k], by simp [hlt]⟩
    have hgk := getD_at (d := fd0) hg
    have hxk := getD_at (d := Mass.zero) hx
    have hxl := eachB_le12 (hall x (List.mem_of_getElem? hx))
    have hml : g.me = true → g.m.le 1000000000000 := checkErr_le hck g (List.mem_of_getElem? hg)
    obtain ⟨b, off, o, cs, gg, rfl, hbb, ho, hc, ht⟩ := BalAt.at (hb.keep hk2) hx
    obtain ⟨bf, of, obf, csf, ggf, rfl, hbf, hof, hcf, htf⟩ := FlAt.at (hf.keep hk2) hg
    obtain ⟨g0, g1, gm, m⟩ := g
    rw [FlowD.cs] at htf
    unfold Mass.cs at ht
    simp only [] at hml hgk htf
    obtain ⟨p0, p1, p2, p3⟩ := flow_parts htf
    apply zz
    refine Cd.ra (h := ?_)
    apply Run.by_eq
    · intro self
      conv => lhs; simp -implicitDefEqProofs (maxSteps := 300000) (disch := omega) [-getElem?_pos, -getElem?_neg, h8, h1]
    try (with_reducible refine Run.ret ?_)
    apply zz
    apply Cd.ite rfl
    · conv => lhs; simp -implicitDefEqProofs (maxSteps := 300000) (disch := omega) [-getElem?_pos, -getElem?_neg]
    all_goals intro c3
    all_goals try (cases c3; done)
    all_goals try simp only [Bool.not_eq_true', Bool.not_eq_false', decide_eq_true_eq, decide_eq_false_iff_not] at c3
    all_goals apply zz
    · cases gm with
      | false =>
        apply zz
        refine Cd.drawnH (pl := [(0, 0, false, false), (1, 1, false, false), (2, 0, false, false), (3, 7, false, false), (4, 15, false, false), (5, 31, false, false), (6, 63, false, false), (7, 127, false, false), (8, 127, false, false), (9, 511, false, false), (10, 1023, false, false), (11, 127, false, false), (12, 2175, false, false), (13, 127, false, false), (14, 14463, false, false), (15, 30847, false, false), (16, 63615, false, false), (17, 131071, false, false), (18, 262143, false, false)]) [false, false, false, false, false, false, false, false, false, false, false, false, false, false, false, false, false, false, false] (by kernel_rfl) (by decide) (by decide) (by conv => lhs; simp only [List.map_cons, List.map_nil]) (by conv => lhs; simp [strip, orderedG, flagH]) ?_
        apply Run.by_eq
        · intro self
          conv => lhs; simp -implicitDefEqProofs (maxSteps := 300000) (disch := omega) [-getElem?_pos, -getElem?_neg, h8, h1, h2, hp2, hof, hcf, p2, p3, show k < fs.length by omega]
        try (with_reducible refine Run.ret ?_)
        apply zz
        apply Cd.ite rfl
        · conv => lhs; simp -implicitDefEqProofs (maxSteps := 300000) (disch := omega) [-getElem?_pos, -getElem?_neg]
        all_goals intro c4
        all_goals try (cases c4; done)
        all_goals try simp only [Bool.not_eq_true', Bool.not_eq_false', decide_eq_true_eq, decide_eq_false_iff_not] at c4
        all_goals apply zz
        apply zz
        refine Cd.ra (h := ?_)
        apply Run.by_eq
        · intro self
          conv => lhs; simp -implicitDefEqProofs (maxSteps := 300000) (disch := omega) [-getElem?_pos, -getElem?_neg, h8]
        try (with_reducible refine Run.ret ?_)
        apply zz
        refine LoopK.nm (bs.length - (k + 1)) (by omega) ⟨k + 1, by omega, rfl, by simp [hm], by simp, by simp [h1], by simp [h2], hkp2, fun j hj hme => ?_⟩
        by_cases e : j = k
        · subst e; rw [hgk] at hme; cases hme
        · exact hz j (by omega) hme
      | true =>
        have hEq : aggEq TT 39 #[.int .i64 x.a, .int .i64 x.b, .int .i64 x.c, .int .i64 x.d] #[.int .i64 m.a, .int .i64 m.b, .int .i64 m.c, .int .i64 m.d] = some (decide (x = m)) := aggEqA unA39 ceA39 (hxl.mono (by omega)) ((hml rfl).mono (by omega))
        have veb : veq 5 (Value.slice (some ⟨b, off, none⟩) bs.length cb) (Value.slice (some ⟨b, off, none⟩) bs.length cb) = true := veq_slice _ _ _ _ _
        have vef : veq 5 (Value.slice (some ⟨bf, of, none⟩) fs.length c) (Value.slice (some ⟨bf, of, none⟩) fs.length c) = true := veq_slice _ _ _ _ _
        by_cases hxm : x = m
        case neg =>
          rw [decide_eq_false hxm] at hEq
          apply zz
          refine Cd.drawnH (pl := [(0, 0, false, false), (1, 1, false, false), (2, 0, false, false), (3, 7, false, false), (4, 15, false, false), (5, 31, false, false), (6, 63, false, false), (7, 127, false, false), (8, 127, false, false), (9, 511, false, false), (10, 1023, false, false), (11, 127, false, false), (12, 2175, false, false), (13, 127, false, false), (14, 14463, false, false), (15, 30847, false, false), (16, 63615, false, false), (17, 131071, false, false), (18, 262143, false, false)]) [false, false, false, false, false, false, false, false, false, false, false, false, false, false, false, false, false, false, false] (by kernel_rfl) (by decide) (by decide) (by conv => lhs; simp only [List.map_cons, List.map_nil]) (by conv => lhs; simp [strip, orderedG, flagH]) ?_
          apply Run.by_eq
          · intro self
            conv => lhs; simp -implicitDefEqProofs (maxSteps := 300000) (disch := omega) [-getElem?_pos, -getElem?_neg, h8, h1, h2, hp2, hof, hcf, p2, p3, show k < fs.length by omega, hlt, ho, hc, ht, veb, vef, hEq]
          try (with_reducible refine Run.ret ?_)
          apply zz
          apply Cd.ite rfl
          · conv => lhs; simp -implicitDefEqProofs (maxSteps := 300000) (disch := omega) [-getElem?_pos, -getElem?_neg]
          all_goals intro c4
          all_goals try (cases c4; done)
          all_goals try simp only [Bool.not_eq_true', Bool.not_eq_false', decide_eq_true_eq, decide_eq_false_iff_not] at c4
          all_goals apply zz
          apply zz
          refine Cd.ra (h := ?_)
          apply Run.by_eq
          · intro self
            conv => lhs; simp -implicitDefEqProofs (maxSteps := 300000) (disch := omega) [-getElem?_pos, -getElem?_neg]
          try (with_reducible refine Run.ret ?_)
          apply zz
          apply Leave.mk (by first | exact .inl rfl | exact .inr rfl) (by simp only [Fr.marks_put, fr0_marks, hm])
          · conv => lhs; simp -implicitDefEqProofs (disch := omega) [Try.results28, hm]
          have hv : verE n fs bs = (0, 22) := by
            unfold verE
            rw [if_neg (by simp [hck]), if_neg (by omega), if_neg (by
              rintro ⟨y, hy, he⟩
              rw [hall y hy] at he; cases he), if_pos ⟨k, by omega, by rw [hgk], by rw [hgk, hxk]; exact hxm⟩]
          rw [hv]
          exact ⟨rfl, hk2⟩
        rw [decide_eq_true hxm] at hEq
        apply zz
        refine Cd.drawnH (pl := [(0, 0, false, false), (1, 1, false, false), (2, 0, false, false), (3, 7, false, false), (4, 15, false, false), (5, 31, false, false), (6, 63, false, false), (7, 127, false, false), (8, 127, false, false), (9, 511, false, false), (10, 1023, false, false), (11, 127, false, false), (12, 2175, false, false), (13, 127, false, false), (14, 14463, false, false), (15, 30847, false, false), (16, 63615, false, false), (17, 131071, false, false), (18, 262143, false, false)]) [false, false, false, false, false, false, false, false, false, false, false, false, false, false, false, false, false, false, false] (by kernel_rfl) (by decide) (by decide) (by conv => lhs; simp only [List.map_cons, List.map_nil]) (by conv => lhs; simp [strip, orderedG, flagH]) ?_
        apply Run.by_eq
        · intro self
          conv => lhs; simp -implicitDefEqProofs (maxSteps := 300000) (disch := omega) [-getElem?_pos, -getElem?_neg, h8, h1, h2, hp2, hof, hcf, p2, p3, show k < fs.length by omega, hlt, ho, hc, ht, veb, vef, hEq]
        try (with_reducible refine Run.ret ?_)
        apply zz
        apply Cd.ite rfl
        · conv => lhs; simp -implicitDefEqProofs (maxSteps := 300000) (disch := omega) [-getElem?_pos, -getElem?_neg]
        all_goals intro c4
        all_goals try (cases c4; done)
        all_goals try simp only [Bool.not_eq_true', Bool.not_eq_false', decide_eq_true_eq, decide_eq_false_iff_not] at c4
        all_goals apply zz
        apply zz
        refine Cd.ra (h := ?_)
        apply Run.by_eq
        · intro self
          conv => lhs; simp -implicitDefEqProofs (maxSteps := 300000) (disch := omega) [-getElem?_pos, -getElem?_neg, h8]
        try (with_reducible refine Run.ret ?_)
        apply zz
        refine LoopK.nm (bs.length - (k + 1)) (by omega) ⟨k + 1, by omega, rfl, by simp [hm], by simp, by simp [h1], by simp [h2], hkp2, fun j hj hme => ?_⟩
        by_cases e : j = k
        · subst e; rw [hgk, hxk]; exact hxm
        · exact hz j (by omega) hme
    · simp at c3; omega
  obtain rfl : k = bs.length := by omega
  have hTL := told_le hll' hall
  have htl : (told fs bs).length = fs.length := by simp [told]
  have hvE : verE n fs bs = unitE (told fs bs) n 0 := by
    unfold verE
    rw [if_neg (by simp [hck]), if_neg (by omega), if_neg (by
      rintro ⟨y, hy, he⟩
      rw [hall y hy] at he; cases he), if_neg (by
      rintro ⟨j, h1, h2, h3⟩
      exact h3 (hz j (by omega) h2))]
    rfl
  rw [hvE]
  apply zz
  refine Cd.ra (h := ?_)
  apply Run.by_eq
  · intro self
    conv => lhs; simp -implicitDefEqProofs (maxSteps := 300000) (disch := omega) [-getElem?_pos, -getElem?_neg, h8, h1]
  try (with_reducible refine Run.ret ?_)
  apply zz
  apply Cd.ite rfl
  · conv => lhs; simp -implicitDefEqProofs (maxSteps := 300000) (disch := omega) [-getElem?_pos, -getElem?_neg]
  all_goals intro c3
  all_goals try (cases c3; done)
  all_goals try simp only [Bool.not_eq_true', Bool.not_eq_false', decide_eq_true_eq, decide_eq_false_iff_not] at c3
  all_goals apply zz
  apply zz
  refine Cd.ra (h := ?_)
  apply Run.by_eq
  · intro self
    conv => lhs; simp -implicitDefEqProofs (maxSteps := 300000) (disch := omega) [-getElem?_pos, -getElem?_neg]
  try (with_reducible refine Run.ret ?_)
  apply zz
  refine Cd.inv (fun z f s3 => ∃ k : Nat, k ≤ n ∧ z = n - k ∧ f.marks = [] ∧ f.get 9 = .int .i64 k ∧ f.get 1 = .slice ab bs.length cb ∧ f.get 2 = .pointer (some ⟨s.next, 0, none⟩) ∧ Keep s s3 ∧ s.next < s3.next ∧ s3.heap.get s.next = some (.cells [.int .i64 n, .slice a fs.length c] none) ∧ unitE (told fs bs) (n - k) k = unitE (told fs bs) n 0) n ?_ ?_
  · exact ⟨0, by omega, rfl, by simp [hm], by simp, by simp [h1], by simp [h2], hk2, by omega, hp2, by rw [Nat.sub_zero]⟩
  clear hm h8 h1 h2
  rintro z f s3 ⟨k, hk, rfl, hm, h9, h1, h2, hkp3, hn3, hp3, hU⟩
  have hkp3a := hkp3.1
  have hkp3b := hkp3.2
  by_cases hlt : k < n
  · have hlt' : (k : Int) < n := by omega
    apply zz
    refine Cd.ra (h := ?_)
    apply Run.by_eq
    · intro self
      conv => lhs; simp -implicitDefEqProofs (maxSteps := 300000) (disch := omega) [-getElem?_pos, -getElem?_neg, h9, h2, hp3]
    try (with_reducible refine Run.ret ?_)
    apply zz
    apply Cd.ite rfl
    · conv => lhs; simp -implicitDefEqProofs (maxSteps := 300000) (disch := omega) [-getElem?_pos, -getElem?_neg]
    all_goals intro c5
    all_goals try (cases c5; done)
    all_goals try simp only [Bool.not_eq_true', Bool.not_eq_false', decide_eq_true_eq, decide_eq_false_iff_not] at c5
    all_goals apply zz
    · apply zz
      refine Cd.ra (h := ?_)
      apply Run.by_eq
      · intro self
        conv => lhs; simp -implicitDefEqProofs (maxSteps := 300000) (disch := omega) [-getElem?_pos, -getElem?_neg]
      try (with_reducible refine Run.ret ?_)
      apply zz
      refine Cd.ra (h := ?_)
      apply Run.by_eq
      · intro self
        conv => lhs; simp -implicitDefEqProofs (maxSteps := 300000) (disch := omega) [-getElem?_pos, -getElem?_neg]
      try (with_reducible refine Run.ret ?_)
      apply zz
      refine Cd.inv (fun z f s4 => ∃ i : Nat, i ≤ bs.length ∧ z = bs.length - i ∧ f.marks = [] ∧ f.get 11 = .int .i64 i ∧ f.get 10 = .pointer (some ⟨s3.next, 0, none⟩) ∧ f.get 9 = .int .i64 k ∧ f.get 1 = .slice ab bs.length cb ∧ f.get 2 = .pointer (some ⟨s.next, 0, none⟩) ∧ Keep s s4 ∧ s3.next < s4.next ∧ s4.heap.get s.next = some (.cells [.int .i64 n, .slice a fs.length c] none) ∧ s4.heap.get s3.next = some (.cells (((told fs bs).take i).foldl (excStep [(k : Int)]) Mass.zero).cs none)) bs.length ?_ ?_
      · refine ⟨0, by omega, rfl, by simp [hm], by simp, by simp, by simp [h9], by simp [h1], by simp [h2], ⟨by (try simp only [pushed_next', upded_next']); omega, fun i hi => by simp -implicitDefEqProofs (disch := omega) [hkp3b]⟩, by simp, ?_, ?_⟩
        · simp -implicitDefEqProofs (disch := omega) [hp3]
        · simp -implicitDefEqProofs (disch := omega) [Mass.cs, Mass.zero]
      clear hm h9 h1 h2
      rintro z f s4 ⟨i, hi, rfl, hm, h11, h10, h9, h1, h2, hkp4, hn4, hp4, hσ⟩
      have hkp4a := hkp4.1
      have hkp4b := hkp4.2
      have hbd := exc_bound (xs := [(k : Int)]) (by omega) hTL i
      have hbd : (((told fs bs).take i).foldl (excStep [(k : Int)]) Mass.zero).le 100000000000000 := hbd.mono (by omega)
      by_cases hil : i < bs.length
      · obtain ⟨g, hg⟩ : ∃ g, fs[i]? = some g := ⟨fs[i], by simp [show i < fs.length by omega]⟩
        obtain ⟨x, hx⟩ : ∃ x, bs[i]? = some x := ⟨bs[i], by simp [hil]⟩
        have hxl := eachB_le12 (hall x (List.mem_of_getElem? hx))
        have hnext := fold_take (excStep [(k : Int)]) Mass.zero (told fs bs) (told_at hg hx)
        rw [excStep_one] at hnext
        generalize ((told fs bs).take i).foldl (excStep [(k : Int)]) Mass.zero = acc at hnext hbd hσ
        obtain ⟨b, off, o, cs, gg, rfl, hbb, ho, hc, ht⟩ := BalAt.at hb hx
        obtain ⟨bf, of, obf, csf, ggf, rfl, hbf, hof, hcf, htf⟩ := FlAt.at hf hg
        replace ho := (hkp4b b hbb).trans ho
        replace hof := (hkp4b bf hbf).trans hof
        obtain ⟨g0, g1, gm, m⟩ := g
        rw [FlowD.cs] at htf
        unfold Mass.cs at ht hσ
        simp only [] at htf hnext
        obtain ⟨p0, p1, _, _⟩ := flow_parts htf
        have veb : veq 5 (Value.slice (some ⟨b, off, none⟩) bs.length cb) (Value.slice (some ⟨b, off, none⟩) bs.length cb) = true := veq_slice _ _ _ _ _
        have hif : i < fs.length := by omega
        apply zz
        refine Cd.ra (h := ?_)
        apply Run.by_eq
        · intro self
          conv => lhs; simp -implicitDefEqProofs (maxSteps := 300000) (disch := omega) [-getElem?_pos, -getElem?_neg, h11, h1]
        try (with_reducible refine Run.ret ?_)
        apply zz
        apply Cd.ite rfl
        · conv => lhs; simp -implicitDefEqProofs (maxSteps := 300000) (disch := omega) [-getElem?_pos, -getElem?_neg]
        all_goals intro c6
        all_goals try (cases c6; done)
        all_goals try simp only [Bool.not_eq_true', Bool.not_eq_false', decide_eq_true_eq, decide_eq_false_iff_not] at c6
        all_goals apply zz
        · by_cases m1 : g1 = k <;> by_cases m0 : g0 = k
          · rw [if_pos m0, if_pos m1] at hnext
            apply zz
            refine Cd.ra (h := ?_)
            apply Run.by_eq
            · intro self
              conv => lhs; simp -implicitDefEqProofs (maxSteps := 300000) (disch := omega) [-getElem?_pos, -getElem?_neg, h11, h2, h9, hp4, hof, hcf, p1, hif, m1]
            try (with_reducible refine Run.ret ?_)
            apply zz
            apply Cd.ite rfl
            · conv => lhs; simp -implicitDefEqProofs (maxSteps := 300000) (disch := omega) [-getElem?_pos, -getElem?_neg]
            all_goals intro c7
            all_goals try (cases c7; done)
            all_goals try simp only [Bool.not_eq_true', Bool.not_eq_false', decide_eq_true_eq, decide_eq_false_iff_not] at c7
            all_goals apply zz
            apply zz
            refine Cd.drawnH (pl := [(0, 0, false, false), (1, 0, false, false), (2, 0, false, false), (3, 6, false, false), (4, 14, false, false), (5, 31, true, false), (6, 63, true, false)]) [false, false, false, false, false, false, false] (by kernel_rfl) (by decide) (by decide) (by conv => lhs; simp only [List.map_cons, List.map_nil]) (by conv => lhs; simp [strip, orderedG, flagH]) ?_
            apply Run.by_eq
            · intro self
              conv => lhs; simp -implicitDefEqProofs (maxSteps := 300000) (disch := omega) [-getElem?_pos, -getElem?_neg, h10, hσ, h1, h11, ho, hc, ht, hil, veb]
            try (with_reducible refine Run.ret ?_)
            apply zz
            refine Run.call ((addT_ev acc x 1 _ (by rw [Mass.tim_one]; exact hxl.mono (by omega)) (by rw [Mass.tim_one]; exact (hbd.add hxl).mono (by omega))).mono fun v wp hv => ?_)
            obtain ⟨rfl, p⟩ := hv
            have pa := p.1
            have pb := p.2
            try simp only [pushed_next', upded_next'] at pa pb
            rw [Mass.tim_one]
            apply Run.by_eq
            · intro self
              conv => lhs; simp -implicitDefEqProofs (maxSteps := 300000) (disch := omega) [-getElem?_pos, -getElem?_neg, Mass.v, pb, hσ]
            try (with_reducible refine Run.ret ?_)
            apply zz
            refine Cd.ra (h := ?_)
            apply Run.by_eq
            · intro self
              conv => lhs; simp -implicitDefEqProofs (maxSteps := 300000) (disch := omega) [-getElem?_pos, -getElem?_neg, h11, h2, h9, hp4, hof, hcf, p0, hif, m0, pb]
            try (with_reducible refine Run.ret ?_)
            apply zz
            apply Cd.ite rfl
            · conv => lhs; simp -implicitDefEqProofs (maxSteps := 300000) (disch := omega) [-getElem?_pos, -getElem?_neg]
            all_goals intro c8
            all_goals try (cases c8; done)
            all_goals try simp only [Bool.not_eq_true', Bool.not_eq_false', decide_eq_true_eq, decide_eq_false_iff_not] at c8
            all_goals apply zz
            apply zz
            refine Cd.drawnH (pl := [(0, 0, false, false), (1, 0, false, false), (2, 0, false, false), (3, 6, false, false), (4, 14, false, false), (5, 31, true, false), (6, 63, true, false)]) [false, false, false, false, false, false, false] (by kernel_rfl) (by decide) (by decide) (by conv => lhs; simp only [List.map_cons, List.map_nil]) (by conv => lhs; simp [strip, orderedG, flagH]) ?_
            apply Run.by_eq
            · intro self
              conv => lhs; simp -implicitDefEqProofs (maxSteps := 300000) (disch := omega) [-getElem?_pos, -getElem?_neg, h10, hσ, h1, h11, ho, hc, ht, hil, veb, pb]
            try (with_reducible refine Run.ret ?_)
            apply zz
            refine Run.call ((addT_ev (acc.add x) x (-1) _ ((Mass.tim_le hxl).mono (by omega)) (by rw [Mass.add_tim]; exact ((hbd.add hxl).sub hxl).mono (by omega))).mono fun v wr hv => ?_)
            obtain ⟨rfl, r⟩ := hv
            have ra := r.1
            have rb := r.2
            try simp only [pushed_next', upded_next'] at ra rb
            rw [Mass.add_tim]
            apply Run.by_eq
            · intro self
              conv => lhs; simp -implicitDefEqProofs (maxSteps := 300000) (disch := omega) [-getElem?_pos, -getElem?_neg, Mass.v, rb, hσ, pb]
            try (with_reducible refine Run.ret ?_)
            apply zz
            refine Cd.ra (h := ?_)
            apply Run.by_eq
            · intro self
              conv => lhs; simp -implicitDefEqProofs (maxSteps := 300000) (disch := omega) [-getElem?_pos, -getElem?_neg, h11]
            try (with_reducible refine Run.ret ?_)
            apply zz
            refine LoopK.nm (bs.length - (i + 1)) (by omega) ⟨i + 1, by omega, rfl, by simp [hm], by simp, by simp [h10], by simp [h9], by simp [h1], by simp [h2], ⟨by (try simp only [pushed_next', upded_next']); omega, fun i hi => by simp -implicitDefEqProofs (disch := omega) [rb, pb, hkp4b]⟩, by (try simp only [pushed_next', upded_next']); omega, ?_, ?_⟩
            · simp -implicitDefEqProofs (disch := omega) [rb, pb, hp4]
            · rw [hnext]
              simp -implicitDefEqProofs (disch := omega) [rb, pb, hσ, Mass.cs]
          · rw [if_neg m0, if_pos m1] at hnext
            apply zz
            refine Cd.ra (h := ?_)
            apply Run.by_eq
            · intro self
              conv => lhs; simp -implicitDefEqProofs (maxSteps := 300000) (disch := omega) [-getElem?_pos, -getElem?_neg, h11, h2, h9, hp4, hof, hcf, p1, hif, m1]
            try (with_reducible refine Run.ret ?_)
            apply zz
            apply Cd.ite rfl
            · conv => lhs; simp -implicitDefEqProofs (maxSteps := 300000) (disch := omega) [-getElem?_pos, -getElem?_neg]
            all_goals intro c7
            all_goals try (cases c7; done)
            all_goals try simp only [Bool.not_eq_true', Bool.not_eq_false', decide_eq_true_eq, decide_eq_false_iff_not] at c7
            all_goals apply zz
            apply zz
            refine Cd.drawnH (pl := [(0, 0, false, false), (1, 0, false, false), (2, 0, false, false), (3, 6, false, false), (4, 14, false, false), (5, 31, true, false), (6, 63, true, false)]) [false, false, false, false, false, false, false] (by kernel_rfl) (by decide) (by decide) (by conv => lhs; simp only [List.map_cons, List.map_nil]) (by conv => lhs; simp [strip, orderedG, flagH]) ?_
            apply Run.by_eq
            · intro self
              conv => lhs; simp -implicitDefEqProofs (maxSteps := 300000) (disch := omega) [-getElem?_pos, -getElem?_neg, h10, hσ, h1, h11, ho, hc, ht, hil, veb]
            try (with_reducible refine Run.ret ?_)
            apply zz
            refine Run.call ((addT_ev acc x 1 _ (by rw [Mass.tim_one]; exact hxl.mono (by omega)) (by rw [Mass.tim_one]; exact (hbd.add hxl).mono (by omega))).mono fun v wp hv => ?_)
            obtain ⟨rfl, p⟩ := hv
            have pa := p.1
            have pb := p.2
            try simp only [pushed_next', upded_next'] at pa pb
            rw [Mass.tim_one]
            apply Run.by_eq
            · intro self
              conv => lhs; simp -implicitDefEqProofs (maxSteps := 300000) (disch := omega) [-getElem?_pos, -getElem?_neg, Mass.v, pb, hσ]
            try (with_reducible refine Run.ret ?_)
            apply zz
            refine Cd.ra (h := ?_)
            apply Run.by_eq
            · intro self
              conv => lhs; simp -implicitDefEqProofs (maxSteps := 300000) (disch := omega) [-getElem?_pos, -getElem?_neg, h11, h2, h9, hp4, hof, hcf, p0, hif, m0, pb]
            try (with_reducible refine Run.ret ?_)
            apply zz
            apply Cd.ite rfl
            · conv => lhs; simp -implicitDefEqProofs (maxSteps := 300000) (disch := omega) [-getElem?_pos, -getElem?_neg]
            all_goals intro c8
            all_goals try (cases c8; done)
            all_goals try simp only [Bool.not_eq_true', Bool.not_eq_false', decide_eq_true_eq, decide_eq_false_iff_not] at c8
            all_goals apply zz
            apply zz
            refine Cd.ra (h := ?_)
            apply Run.by_eq
            · intro self
              conv => lhs; simp -implicitDefEqProofs (maxSteps := 300000) (disch := omega) [-getElem?_pos, -getElem?_neg, h11]
            try (with_reducible refine Run.ret ?_)
            apply zz
            refine LoopK.nm (bs.length - (i + 1)) (by omega) ⟨i + 1, by omega, rfl, by simp [hm], by simp, by simp [h10], by simp [h9], by simp [h1], by simp [h2], ⟨by (try simp only [pushed_next', upded_next']); omega, fun i hi => by simp -implicitDefEqProofs (disch := omega) [pb, hkp4b]⟩, by (try simp only [pushed_next', upded_next']); omega, ?_, ?_⟩
            · simp -implicitDefEqProofs (disch := omega) [pb, hp4]
            · rw [hnext]
              simp -implicitDefEqProofs (disch := omega) [pb, hσ, Mass.cs]
          · rw [if_pos m0, if_neg m1] at hnext
            apply zz
            refine Cd.ra (h := ?_)
            apply Run.by_eq
            · intro self
              conv => lhs; simp -implicitDefEqProofs (maxSteps := 300000) (disch := omega) [-getElem?_pos, -getElem?_neg, h11, h2, h9, hp4, hof, hcf, p1, hif, m1]
            try (with_reducible refine Run.ret ?_)
            apply zz
            apply Cd.ite rfl
            · conv => lhs; simp -implicitDefEqProofs (maxSteps := 300000) (disch := omega) [-getElem?_pos, -getElem?_neg]
            all_goals intro c7
            all_goals try (cases c7; done)
            all_goals try simp only [Bool.not_eq_true', Bool.not_eq_false', decide_eq_true_eq, decide_eq_false_iff_not] at c7
            all_goals apply zz
            apply zz
            refine Cd.ra (h := ?_)
            apply Run.by_eq
            · intro self
              conv => lhs; simp -implicitDefEqProofs (maxSteps := 300000) (disch := omega) [-getElem?_pos, -getElem?_neg, h11, h2, h9, hp4, hof, hcf, p0, hif, m0]
            try (with_reducible refine Run.ret ?_)
            apply zz
            apply Cd.ite rfl
            · conv => lhs; simp -implicitDefEqProofs (maxSteps := 300000) (disch := omega) [-getElem?_pos, -getElem?_neg]
            all_goals intro c8
            all_goals try (cases c8; done)
            all_goals try simp only [Bool.not_eq_true', Bool.not_eq_false', decide_eq_true_eq, decide_eq_false_iff_not] at c8
            all_goals apply zz
            apply zz
            refine Cd.drawnH (pl := [(0, 0, false, false), (1, 0, false, false), (2, 0, false, false), (3, 6, false, false), (4, 14, false, false), (5, 31, true, false), (6, 63, true, false)]) [false, false, false, false, false, false, false] (by kernel_rfl) (by decide) (by decide) (by conv => lhs; simp only [List.map_cons, List.map_nil]) (by conv => lhs; simp [strip, orderedG, flagH]) ?_
            apply Run.by_eq
            · intro self
              conv => lhs; simp -implicitDefEqProofs (maxSteps := 300000) (disch := omega) [-getElem?_pos, -getElem?_neg, h10, hσ, h1, h11, ho, hc, ht, hil, veb]
            try (with_reducible refine Run.ret ?_)
            apply zz
            refine Run.call ((addT_ev acc x (-1) _ ((Mass.tim_le hxl).mono (by omega)) (by rw [Mass.add_tim]; exact (hbd.sub hxl).mono (by omega))).mono fun v wr hv => ?_)
            obtain ⟨rfl, r⟩ := hv
            have ra := r.1
            have rb := r.2
            try simp only [pushed_next', upded_next'] at ra rb
            rw [Mass.add_tim]
            apply Run.by_eq
            · intro self
              conv => lhs; simp -implicitDefEqProofs (maxSteps := 300000) (disch := omega) [-getElem?_pos, -getElem?_neg, Mass.v, rb, hσ]
            try (with_reducible refine Run.ret ?_)
            apply zz
            refine Cd.ra (h := ?_)
            apply Run.by_eq
            · intro self
              conv => lhs; simp -implicitDefEqProofs (maxSteps := 300000) (disch := omega) [-getElem?_pos, -getElem?_neg, h11]
            try (with_reducible refine Run.ret ?_)
            apply zz
            refine LoopK.nm (bs.length - (i + 1)) (by omega) ⟨i + 1, by omega, rfl, by simp [hm], by simp, by simp [h10], by simp [h9], by simp [h1], by simp [h2], ⟨by (try simp only [pushed_next', upded_next']); omega, fun i hi => by simp -implicitDefEqProofs (disch := omega) [rb, hkp4b]⟩, by (try simp only [pushed_next', upded_next']); omega, ?_, ?_⟩
            · simp -implicitDefEqProofs (disch := omega) [rb, hp4]
            · rw [hnext]
              simp -implicitDefEqProofs (disch := omega) [rb, hσ, Mass.cs]
          · rw [if_neg m0, if_neg m1] at hnext
            apply zz
            refine Cd.ra (h := ?_)
            apply Run.by_eq
            · intro self
              conv => lhs; simp -implicitDefEqProofs (maxSteps := 300000) (disch := omega) [-getElem?_pos, -getElem?_neg, h11, h2, h9, hp4, hof, hcf, p1, hif, m1]
            try (with_reducible refine Run.ret ?_)
            apply zz
            apply Cd.ite rfl
            · conv => lhs; simp -implicitDefEqProofs (maxSteps := 300000) (disch := omega) [-getElem?_pos, -getElem?_neg]
            all_goals intro c7
            all_goals try (cases c7; done)
            all_goals try simp only [Bool.not_eq_true', Bool.not_eq_false', decide_eq_true_eq, decide_eq_false_iff_not] at c7
            all_goals apply zz
            apply zz
            refine Cd.ra (h := ?_)
            apply Run.by_eq
            · intro self
              conv => lhs; simp -implicitDefEqProofs (maxSteps := 300000) (disch := omega) [-getElem?_pos, -getElem?_neg, h11, h2, h9, hp4, hof, hcf, p0, hif, m0]
            try (with_reducible refine Run.ret ?_)
            apply zz
            apply Cd.ite rfl
            · conv => lhs; simp -implicitDefEqProofs (maxSteps := 300000) (disch := omega) [-getElem?_pos, -getElem?_neg]
            all_goals intro c8
            all_goals try (cases c8; done)
            all_goals try simp only [Bool.not_eq_true', Bool.not_eq_false', decide_eq_true_eq, decide_eq_false_iff_not] at c8
            all_goals apply zz
            apply zz
            refine Cd.ra (h := ?_)
            apply Run.by_eq
            · intro self
              conv => lhs; simp -implicitDefEqProofs (maxSteps := 300000) (disch := omega) [-getElem?_pos, -getElem?_neg, h11]
            try (with_reducible refine Run.ret ?_)
            apply zz
            refine LoopK.nm (bs.length - (i + 1)) (by omega) ⟨i + 1, by omega, rfl, by simp [hm], by simp, by simp [h10], by simp [h9], by simp [h1], by simp [h2], ⟨by (try simp only [pushed_next', upded_next']); omega, fun i hi => by simp -implicitDefEqProofs (disch := omega) [hkp4b]⟩, by (try simp only [pushed_next', upded_next']); omega, ?_, ?_⟩
            · simp -implicitDefEqProofs (disch := omega) [hp4]
            · rw [hnext]
              simp -implicitDefEqProofs (disch := omega) [hσ, Mass.cs]
        · simp at c6; omega
      obtain rfl : i = bs.length := by omega
      rw [show ((told fs bs).take bs.length) = told fs bs from List.take_of_length_le (by omega)] at hσ hbd
      change (excM [(k : Int)] (told fs bs)).le _ at hbd
      change s4.heap.get s3.next = some (.cells (excM [(k : Int)] (told fs bs)).cs none) at hσ
      rw [show n - k = (n - (k + 1)) + 1 by omega, unitE] at hU
      generalize hmx : excM [(k : Int)] (told fs bs) = mx at hbd hU hσ
      have hEq : aggEq TT 39 #[.int .i64 mx.a, .int .i64 mx.b, .int .i64 mx.c, .int .i64 mx.d] #[.int .i64 0, .int .i64 0, .int .i64 0, .int .i64 0] = some (decide (mx = Mass.zero)) := aggEqA unA39 ceA39 (m := mx) (p := Mass.zero) (hbd.mono (by omega)) (Mass.le_zero (by omega))
      unfold Mass.cs at hσ
      apply zz
      refine Cd.ra (h := ?_)
      apply Run.by_eq
      · intro self
        conv => lhs; simp -implicitDefEqProofs (maxSteps := 300000) (disch := omega) [-getElem?_pos, -getElem?_neg, h11, h1]
      try (with_reducible refine Run.ret ?_)
      apply zz
      apply Cd.ite rfl
      · conv => lhs; simp -implicitDefEqProofs (maxSteps := 300000) (disch := omega) [-getElem?_pos, -getElem?_neg]
      all_goals intro c6
      all_goals try (cases c6; done)
      all_goals try simp only [Bool.not_eq_true', Bool.not_eq_false', decide_eq_true_eq, decide_eq_false_iff_not] at c6
      all_goals apply zz
      by_cases hz0 : mx = Mass.zero
      · rw [decide_eq_true hz0] at hEq
        rw [if_pos hz0] at hU
        apply zz
        refine Cd.ra (h := ?_)
        apply Run.by_eq
        · intro self
          conv => lhs; simp -implicitDefEqProofs (maxSteps := 300000) (disch := omega) [-getElem?_pos, -getElem?_neg, h10, hσ, hEq]
        try (with_reducible refine Run.ret ?_)
        apply zz
        apply Cd.ite rfl
        · conv => lhs; simp -implicitDefEqProofs (maxSteps := 300000) (disch := omega) [-getElem?_pos, -getElem?_neg]
        all_goals intro c9
        all_goals try (cases c9; done)
        all_goals try simp only [Bool.not_eq_true', Bool.not_eq_false', decide_eq_true_eq, decide_eq_false_iff_not] at c9
        all_goals apply zz
        apply zz
        refine Cd.ra (h := ?_)
        apply Run.by_eq
        · intro self
          conv => lhs; simp -implicitDefEqProofs (maxSteps := 300000) (disch := omega) [-getElem?_pos, -getElem?_neg, h9]
        try (with_reducible refine Run.ret ?_)
        apply zz
        exact LoopK.nm (n - (k + 1)) (by omega) ⟨k + 1, by omega, rfl, by simp [hm], by simp, by simp [h1], by simp [h2], ⟨by (try simp only [pushed_next', upded_next']); omega, fun i hi => by simp -implicitDefEqProofs (disch := omega) [hkp4b]⟩, by omega, by simp -implicitDefEqProofs (disch := omega) [hp4], hU⟩
      · rw [decide_eq_false hz0] at hEq
        rw [if_neg hz0] at hU
        apply zz
        refine Cd.ra (h := ?_)
        apply Run.by_eq
        · intro self
          conv => lhs; simp -implicitDefEqProofs (maxSteps := 300000) (disch := omega) [-getElem?_pos, -getElem?_neg, h10, hσ, hEq]
        try (with_reducible refine Run.ret ?_)
        apply zz
        apply Cd.ite rfl
        · conv => lhs; simp -implicitDefEqProofs (maxSteps := 300000) (disch := omega) [-getElem?_pos, -getElem?_neg]
        all_goals intro c9
        all_goals try (cases c9; done)
        all_goals try simp only [Bool.not_eq_true', Bool.not_eq_false', decide_eq_true_eq, decide_eq_false_iff_not] at c9
        all_goals apply zz
        apply zz
        refine Cd.ra (h := ?_)
        apply Run.by_eq
        · intro self
          conv => lhs; simp -implicitDefEqProofs (maxSteps := 300000) (disch := omega) [-getElem?_pos, -getElem?_neg, h9]
        try (with_reducible refine Run.ret ?_)
        apply zz
        apply Leave.mk (by first | exact .inl rfl | exact .inr rfl) (by simp only [Fr.marks_put, fr0_marks, hm])
        · conv => lhs; simp -implicitDefEqProofs (disch := omega) [Try.results28, hm]
        rw [← hU]
        exact ⟨rfl, ⟨by (try simp only [pushed_next', upded_next']); omega, fun i hi => by simp -implicitDefEqProofs (disch := omega) [hkp4b]⟩⟩
    · simp at c5; omega
  obtain rfl : k = n := by omega
  apply zz
  refine Cd.ra (h := ?_)
  apply Run.by_eq
  · intro self
    conv => lhs; simp -implicitDefEqProofs (maxSteps := 300000) (disch := omega) [-getElem?_pos, -getElem?_neg, h9, h2, hp3]
  try (with_reducible refine Run.ret ?_)
  apply zz
  apply Cd.ite rfl
  · conv => lhs; simp -implicitDefEqProofs (maxSteps := 300000) (disch := omega) [-getElem?_pos, -getElem?_neg]
  all_goals intro c5
  all_goals try (cases c5; done)
  all_goals try simp only [Bool.not_eq_true', Bool.not_eq_false', decide_eq_true_eq, decide_eq_false_iff_not] at c5
  all_goals apply zz
  apply zz
  refine Cd.ra (h := ?_)
  apply Run.by_eq
  · intro self
    conv => lhs; simp -implicitDefEqProofs (maxSteps := 300000) (disch := omega) [-getElem?_pos, -getElem?_neg]
  try (with_reducible refine Run.ret ?_)
  apply zz
  apply Leave.mk (by first | exact .inl rfl | exact .inr rfl) (by simp only [Fr.marks_put, fr0_marks, hm])
  · conv => lhs; simp -implicitDefEqProofs (disch := omega) [Try.results28, hm]
  rw [← hU, Nat.sub_self]
  exact ⟨rfl, hkp3⟩
end Go.Proofs.Ytifkpaomhnlahaa
namespace Go.Proofs.Ytifkpaomhnlahaa
open Go Kern
/-! A flow is measured in addition -/
def meas (f : FlowD) (m : Mass) : FlowD := ⟨f.fr, f.to, true, m⟩
theorem set_at {fs : List FlowD} {k : Nat} {f : FlowD} {g : FlowD} (hk : fs[k]? = some f) : (fs.set k g)[k]? = some g := by
  have := (List.getElem?_eq_some_iff.1 hk).1
  simp [List.getElem?_set, this]
theorem set_ne {fs : List FlowD} {k j : Nat} {g : FlowD} (h : j ≠ k) : (fs.set k g)[j]? = fs[j]? := by
  rw [List.getElem?_set, if_neg (fun e => h e.symm)]
theorem rtF_past {lo : Int} : ∀ (r : List FlowD) (j : Nat) (rt : Int → Int), lo < j → rtF lo r j rt = rtF (-1) r j rt
  | [], _, _, _ => rfl
  | f :: r, j, rt, h => by
    unfold rtF
    rw [rtF_past r (j + 1) _ (by omega)]
    have e1 : (j : Int) ≠ lo := by omega
    have e2 : (j : Int) ≠ -1 := by omega
    simp [e1, e2]
theorem rtF_set (f : FlowD) (m : Mass) : ∀ (fs : List FlowD) (k i : Nat) (rt : Int → Int), k < fs.length → rtF (-1) (fs.set k (meas f m)) i rt = rtF ((i + k : Nat) : Int) fs i rt
  | [], _, _, _, h => by simp at h
  | g :: r, 0, i, rt, _ => by
    show rtF (-1) r (i + 1) (if (meas f m).me = false ∧ (i : Int) ≠ -1 then _ else rt) = rtF ((i + 0 : Nat) : Int) r (i + 1) (if g.me = false ∧ (i : Int) ≠ ((i + 0 : Nat) : Int) then _ else rt)
    rw [if_neg (by simp [meas]), if_neg (by simp)]
    exact (rtF_past r (i + 1) rt (by omega)).symm
  | g :: r, k + 1, i, rt, h => by
    show rtF (-1) (r.set k (meas f m)) (i + 1) (if g.me = false ∧ (i : Int) ≠ -1 then uni rt g.fr g.to else rt) = rtF ((i + (k + 1) : Nat) : Int) r (i + 1) (if g.me = false ∧ (i : Int) ≠ ((i + (k + 1) : Nat) : Int) then uni rt g.fr g.to else rt)
    rw [rtF_set f m r k (i + 1) _ (by simpa using h), show i + 1 + k = i + (k + 1) by omega]
    have e1 : (i : Int) ≠ -1 := by omega
    have e2 : (i : Int) ≠ ((i + (k + 1) : Nat) : Int) := by omega
    simp only [e1, e2, ne_eq, not_false_eq_true, and_true]
theorem excM_set {fs : List FlowD} {k : Nat} {f : FlowD} (hk : fs[k]? = some f) (hm : f.me = false) (C : List Int) (m : Mass) : excM C (fs.set k (meas f m)) = (excM C fs).add (bringsL f C m) := by
  have hlt := (List.getElem?_eq_some_iff.1 hk).1
  rw [excM_sum, excM_sum C fs, List.length_set]
  have h1 : bringsL f C m = sumN (fun j => if j = k then bringsL f C m else Mass.zero) fs.length := by
    rw [sumN_one (i := k) hlt fun j _ e => if_neg e, if_pos rfl]
  rw [h1, ← sumN_add]
  refine sumN_congr fun j hj => ?_
  by_cases e : j = k
  · subst e
    rw [set_at hk, hk, if_pos rfl]
    simp only [hm, meas]
    rw [if_pos trivial, if_neg (by simp), Mass.zero_add]
    rfl
  · rw [set_ne e, if_neg e, Mass.add_zero]
theorem provF_nones {rt : Int → Int} {fs : List FlowD} {n : Nat} : ∀ {c i : Nat}, provF rt fs n c i = none → ∀ j, i ≤ j → j < i + c → provAt rt fs n j = none
  | 0, i, _, j, h1, h2 => by omega
  | c + 1, i, h, j, h1, h2 => by
    unfold provF at h
    cases hp : provAt rt fs n i with
    | some p => rw [hp] at h; cases h
    | none =>
      rw [hp] at h
      by_cases e : j = i
      · subst e; exact hp
      · exact provF_nones h j (by omega) (by omega)
theorem closeErr_zero {n : Nat} {fs : List FlowD} (h : closeErr n fs = 0) : checkErr n fs = 0 ∧ ∀ k : Nat, k < n → isLead (rtF (-1) fs 0 id) n k = true → excM (clsN (rtF (-1) fs 0 id) k n) fs = Mass.zero := by
  unfold closeErr at h
  split at h
  · rename_i e; exact absurd h e
  · rename_i e
    refine ⟨by simpa using e, fun k hk hL => ?_⟩
    simp only [Int.toNat_natCast] at h
    cases hp : provF (rtF (-1) fs 0 id) fs n n 0 with
    | some p => rw [hp] at h; cases h
    | none => exact excM_zero_of (provF_nones hp k (by omega) (by omega)) hL
theorem settled_ex {n : Nat} {fs : List FlowD} (hck : checkErr n fs = 0) : ∃ B, Settled fs n 180000000000 B := by
  obtain ⟨hu1, hu2, hl20, _⟩ := checkErr_ok hck
  have h9 := checkErr_le9 hck
  let s : St := (⟨.leaf, 0⟩ : St).pushed (.cells (fs.map FlowD.cs).flatten none)
  have hf : FlAt s (.slice (some ⟨0, 0, none⟩) (fs.map FlowD.cs).length 0) fs := sl_of_cells (g := none) (by simp [s]) (flows_len fs) (by simp [s])
  have hK0 : ((n : Int) + 1) * 20000000000 ≤ 180000000000 := by omega
  obtain ⟨_, _, _, _, _, B, _, _, _, _, hS⟩ := settle_ev n _ fs s 20000000000 180000000000 (by omega) hf (by omega) (ends_in hck) (checkErr_ne hck) (checkErr_le hck) (fun f hf hm => (h9 f hf hm).mono (by omega)) (by omega) (fun e => exc_le (by omega) h9 hl20) hK0 (by omega) (by omega)
  exact ⟨B, hS⟩
theorem clsN_congr {rt rt' : Int → Int} {n k : Nat} (h : ∀ x y, rt x = rt y ↔ rt' x = rt' y) : clsN rt k n = clsN rt' k n := by
  unfold clsN
  congr 1
  refine List.filter_congr fun x _ => ?_
  simp only [h]
theorem isLead_congr {rt rt' : Int → Int} {n k : Nat} (h : ∀ x y, rt x = rt y ↔ rt' x = rt' y) : isLead rt n k = isLead rt' n k := by
  unfold isLead
  rw [clsN_congr h]
  simp only [h]
theorem lead_out {rt : Int → Int} {n k : Nat} (h : isLead rt n k = true) : rt k ≠ rt (-1) := by
  simp only [isLead, Bool.and_eq_true, Bool.not_eq_true', decide_eq_false_iff_not] at h
  exact h.2
theorem clsN_range {rt : Int → Int} {n k : Nat} {x : Int} (hx : x ∈ clsN rt k n) : 0 ≤ x ∧ x < n := by
  unfold clsN at hx
  obtain ⟨y, hy, rfl⟩ := List.mem_map.1 hx
  have := List.mem_range.1 (List.mem_filter.1 hy).1
  omega
theorem set_zero {n : Nat} {fs : List FlowD} {k : Nat} {f : FlowD} {m : Mass} (hce : closeErr n fs = 0) (hk : fs[k]? = some f) (hm : (closeF fs n k).st = 3 ∨ (closeF fs n k).m = m) :
    ∀ l : Nat, l < n → isLead (rtF (-1) (fs.set k (meas f m)) 0 id) n l = true → excM (clsN (rtF (-1) (fs.set k (meas f m)) 0 id) l n) (fs.set k (meas f m)) = Mass.zero := by
  intro l hl hL
  have hlt := (List.getElem?_eq_some_iff.1 hk).1
  obtain ⟨hck, hz⟩ := closeErr_zero hce
  have hends := ends_in hck
  have hne := checkErr_ne hck
  have hcf : closeF fs n k = closeAt fs n k f := by unfold closeF; rw [hk]
  rw [hcf] at hm
  cases hme : f.me with
  | true =>
    have hca : closeAt fs n k f = ⟨1, f.m⟩ := by unfold closeAt; rw [if_pos hme]
    rw [hca] at hm
    have hmm : f.m = m := hm.resolve_left (by simp)
    have hfs : fs.set k (meas f m) = fs := by
      have : meas f m = f := by rw [← hmm]; cases f; simp only at hme; subst hme; rfl
      rw [this]
      apply List.ext_getElem?
      intro j
      by_cases e : j = k
      · subst e; rw [set_at hk, hk]
      · rw [set_ne e]
    rw [hfs] at hL ⊢
    exact hz l hl hL
  | false =>
    have hrt : rtF (-1) (fs.set k (meas f m)) 0 id = rtF k fs 0 id := by rw [rtF_set f m fs k 0 id hlt, Nat.zero_add]
    rw [hrt] at hL ⊢
    rw [excM_set hk hme]
    have ho := lead_out hL
    obtain ⟨hV1, hV2⟩ := hends f (List.mem_of_getElem? hk)
    by_cases hd : rtF k fs 0 id f.fr = rtF k fs 0 id f.to
    · have heq : ∀ x y, rtF k fs 0 id x = rtF k fs 0 id y ↔ rtF (-1) fs 0 id x = rtF (-1) fs 0 id y := fun x y => by
        rw [rt_path_all, rt_path_all]
        constructor
        · exact fun h => h.mono fun j g _ he => ⟨he.1, by omega⟩
        · intro h
          refine Path.absorb hk ((rt_path_all fs k _ _).1 hd) (h.mono fun j g _ he => ?_)
          by_cases e : j = k
          · exact .inr e
          · exact .inl ⟨he.1, by omega⟩
      rw [bringsL_in (by rw [mem_cls' ho hV1.1 hV1.2, mem_cls' ho hV2.1 hV2.2, hd]), Mass.add_zero, clsN_congr heq]
      exact hz l hl (by rw [← isLead_congr heq]; exact hL)
    · obtain ⟨B, hS⟩ := settled_ex hck
      have hnet : ∀ u : Nat, u < n → netB fs B u = Mass.zero := fun u hu => settled_zero hS hends hne hz hu
      have hfv := found_value hends hne hnet hk hme hd
      rw [hfv] at hm
      have hBm : B k = m := hm.resolve_left (by simp)
      have hc : chB fs k = true := by
        rw [chB_some hk, hme]
        have hnr : ¬ rtF (-1) (fs.take k) 0 id f.fr = rtF (-1) (fs.take k) 0 id f.to := fun e => by
          refine hd ((rt_path_all fs k _ _).2 (((rt_path fs (-1) k _ _).1 e).mono fun j g _ he => ⟨he.2.1, ?_⟩))
          have := he.1; omega
        simp [hnr]
      have := cut_value hne hnet (clsN_nodup (rtF k fs 0 id) l n) (fun x hx => clsN_range hx) hk hc (fun j g hg hmg hjk => by
        obtain ⟨a, b⟩ := hends g (List.mem_of_getElem? hg)
        rw [mem_cls' ho a.1 a.2, mem_cls' ho b.1 b.2, rtF_ends k fs 0 id j g hg hmg (by omega)])
      rw [hBm] at this
      exact this
theorem brings_zero (f : FlowD) (v : Int) : brings f v Mass.zero = Mass.zero := by
  unfold brings; split
  · rfl
  · split
    · exact Mass.sub_zero_zero
    · rfl
theorem unitE_zero {gs : List FlowD} : ∀ {c k : Nat}, (∀ j, k ≤ j → j < k + c → excM [(j : Int)] gs = Mass.zero) → unitE gs c k = (0, 0)
  | 0, _, _ => rfl
  | c + 1, k, h => by
    unfold unitE
    rw [if_pos (h k (by omega) (by omega))]
    exact unitE_zero fun j h1 h2 => h j (by omega) (by omega)
theorem fill_ok {n : Nat} {fs : List FlowD} {k : Nat} {f : FlowD} {m : Mass} {B : Nat → Mass} {W : Int} (hce : closeErr n fs = 0) (hk : fs[k]? = some f) (hm : (closeF fs n k).st = 3 ∨ (closeF fs n k).m = m)
    (hS : Settled (fs.set k (meas f m)) n W B) (hW : W ≤ 1000000000000) : verE n fs ((List.range fs.length).map B) = (0, 0) ∧ B k = m := by
  have hlt := (List.getElem?_eq_some_iff.1 hk).1
  obtain ⟨hck, hz⟩ := closeErr_zero hce
  have hends := ends_in hck
  have hne := checkErr_ne hck
  have hz' := set_zero hce hk hm
  have hmem : ∀ g ∈ fs.set k (meas f m), ∃ g0 ∈ fs, g0.fr = g.fr ∧ g0.to = g.to := fun g hg => by
    obtain ⟨j, hj⟩ := List.getElem?_of_mem hg
    by_cases e : j = k
    · subst e
      rw [set_at hk] at hj; cases hj
      exact ⟨f, List.mem_of_getElem? hk, rfl, rfl⟩
    · rw [set_ne e] at hj
      exact ⟨g, List.mem_of_getElem? hj, rfl, rfl⟩
  have hends' : ∀ g ∈ fs.set k (meas f m), (-1 ≤ g.fr ∧ g.fr < n) ∧ (-1 ≤ g.to ∧ g.to < n) := fun g hg => by
    obtain ⟨g0, h1, h2, h3⟩ := hmem g hg
    rw [← h2, ← h3]; exact hends g0 h1
  have hne' : ∀ g ∈ fs.set k (meas f m), g.fr ≠ g.to := fun g hg => by
    obtain ⟨g0, h1, h2, h3⟩ := hmem g hg
    rw [← h2, ← h3]; exact hne g0 h1
  have hnet : ∀ u : Nat, u < n → netB (fs.set k (meas f m)) B u = Mass.zero := fun u hu => settled_zero hS hends' hne' hz' hu
  have hBk : B k = m := hS.meas k _ (set_at hk) rfl
  refine ⟨?_, hBk⟩
  have hBl : ∀ j, j < fs.length → ((List.range fs.length).map B)[j]? = some (B j) := fun j hj => by
    rw [List.getElem?_map, List.getElem?_range hj]; rfl
  have hall : ∀ b ∈ (List.range fs.length).map B, eachB b (-1000000000000) 1000000000000 = true := fun b hb => by
    obtain ⟨j, _, rfl⟩ := List.mem_map.1 hb
    have := hS.bound j
    unfold Mass.le at this
    simp only [eachB, isB, Bool.and_eq_true, decide_eq_true_eq]
    omega
  have hmeas : ∀ j g, fs[j]? = some g → g.me = true → B j = g.m := fun j g hj hg => by
    by_cases e : j = k
    · subst e
      rw [hk] at hj; cases hj
      have hcf : closeF fs n j = ⟨1, f.m⟩ := by unfold closeF; rw [hk]; show closeAt fs n j f = _; unfold closeAt; rw [if_pos hg]
      rw [hcf] at hm
      rw [hBk]
      exact (hm.resolve_left (by simp)).symm
    · exact hS.meas j g (by rw [set_ne e]; exact hj) hg
  unfold verE
  rw [if_neg (by simp [hck]), if_neg (by simp), if_neg (by
    rintro ⟨y, hy, he⟩
    rw [hall y hy] at he; cases he), if_neg (by
    rintro ⟨j, h1, h2, h3⟩
    refine h3 ?_
    rw [getD_at (hBl j h1)]
    exact hmeas j _ (by simp [List.getD, h1]) h2)]
  refine unitE_zero fun u _ hu => ?_
  have hu : u < n := by simpa using hu
  rw [← hnet u hu]
  unfold netB netx
  rw [excM_sum, excM_sum, List.length_set, show (told fs ((List.range fs.length).map B)).length = fs.length by simp [told], ← sumN_add]
  refine sumN_congr fun j hj => ?_
  have hgj : fs[j]? = some fs[j] := List.getElem?_eq_getElem hj
  rw [told_at hgj (hBl j hj), if_neg (by omega)]
  unfold contr
  by_cases e : j = k
  · subst e
    rw [hk] at hgj
    have hff : fs[j] = f := by injection hgj with h; exact h.symm
    rw [set_at hk, hff]
    have hcb : chB (fs.set j (meas f m)) j = false := by rw [chB_some (set_at hk)]; rfl
    show (if true = true then bringsL ⟨f.fr, f.to, true, B j⟩ [(u : Int)] (B j) else Mass.zero) = (if (meas f m).me = true then bringsL (meas f m) [(u : Int)] (meas f m).m else Mass.zero).add (if chB (fs.set j (meas f m)) j = true then brings (meas f m) u (B j) else Mass.zero)
    rw [hcb, if_pos rfl, if_pos (show (meas f m).me = true from rfl), if_neg (by simp), Mass.add_zero, hBk]
    rfl
  · rw [set_ne e, hgj]
    have hgj' : (fs.set k (meas f m))[j]? = some fs[j] := by rw [set_ne e]; exact hgj
    have hnej := hne _ (List.getElem_mem hj)
    simp only [if_true]
    rw [show bringsL ⟨fs[j].fr, fs[j].to, true, B j⟩ [(u : Int)] (B j) = brings fs[j] u (B j) from bringsL_one (f := ⟨fs[j].fr, fs[j].to, true, B j⟩) hnej u (B j), bringsL_one hnej]
    cases hme : fs[j].me with
    | true =>
      have hcb : chB (fs.set k (meas f m)) j = false := by rw [chB_some hgj', hme]; rfl
      rw [if_pos rfl, hcb, if_neg (by simp), Mass.add_zero, hmeas j _ hgj hme]
    | false =>
      rw [if_neg (by simp), Mass.zero_add]
      split
      · rfl
      · rename_i hcb
        rw [hS.rest j _ hgj' hme (by simpa using hcb), brings_zero]
end Go.Proofs.Ytifkpaomhnlahaa
namespace Go.Proofs.Ytifkpaomhnlahaa
open Go Kern
/-- Any masses that a program can hold. -/
def Mass.w64 (m : Mass) : Prop := (-9223372036854775808 ≤ m.a ∧ m.a ≤ 9223372036854775807) ∧ (-9223372036854775808 ≤ m.b ∧ m.b ≤ 9223372036854775807) ∧ (-9223372036854775808 ≤ m.c ∧ m.c ≤ 9223372036854775807) ∧ (-9223372036854775808 ≤ m.d ∧ m.d ≤ 9223372036854775807)
theorem Mass.le.w64 {m : Mass} {B : Int} (h : m.le B) (hB : B ≤ 4611686018427387904) : m.w64 := by
  unfold Mass.le at h; unfold Mass.w64; omega
theorem wfW_of {a : Int} (h : -9223372036854775808 ≤ a ∧ a ≤ 9223372036854775807) : (Lit.int .i64 a).wf = true := by
  simp [Lit.wf, IntKind.min, IntKind.max, IntKind.bits, IntKind.signed]
  omega
theorem keyLitsW {t : TypeId} (hu : Try.prog.underlying t = some (.array 4 3)) (hc : Try.prog.cellsOf t = 4) {m : Mass} (h : m.w64) : Try.prog.keyLits 21 t m.cs = some [.int .i64 m.a, .int .i64 m.b, .int .i64 m.c, .int .i64 m.d] := by
  obtain ⟨h1, h2, h3, h4⟩ : (Lit.int .i64 m.a).wf = true ∧ (Lit.int .i64 m.b).wf = true ∧ (Lit.int .i64 m.c).wf = true ∧ (Lit.int .i64 m.d).wf = true := by
    unfold Mass.w64 at h; exact ⟨wfW_of (by omega), wfW_of (by omega), wfW_of (by omega), wfW_of (by omega)⟩
  unfold Program.keyLits; rw [hu]
  simp [hc, ceA3, Mass.cs, List.range, List.range.loop, keyLitA3 h1, keyLitA3 h2, keyLitA3 h3, keyLitA3 h4]
theorem aggEqW {t : TypeId} (hu : Try.prog.underlying t = some (.array 4 3)) (hc : Try.prog.cellsOf t = 4) {m p : Mass} (h : m.w64) (k : p.w64) : aggEq TT t #[.int .i64 m.a, .int .i64 m.b, .int .i64 m.c, .int .i64 m.d] #[.int .i64 p.a, .int .i64 p.b, .int .i64 p.c, .int .i64 p.d] = some (decide (m = p)) := by
  unfold aggEq
  have h1 := keyLitsW hu hc h
  have h2 := keyLitsW hu hc k
  unfold Mass.cs at h1 h2
  change gd _ (ob (Try.prog.keyLits 21 t _) fun la => ob (Try.prog.keyLits 21 t _) fun lb => some (litsEq la lb)) = _
  rw [h1, h2, show Value.formed TT.prog t (.agg #[.int .i64 m.a, .int .i64 m.b, .int .i64 m.c, .int .i64 m.d]) = true from formedA hu hc _ _ _ _, show Value.formed TT.prog t (.agg #[.int .i64 p.a, .int .i64 p.b, .int .i64 p.c, .int .i64 p.d]) = true from formedA hu hc _ _ _ _]
  show gd (_ && true && true) (some (litsEq _ _)) = _
  rw [litsEq_mass]; rfl
theorem eachB_le9 {m : Mass} (h : eachB m (-1000000000) 1000000000 = true) : m.le 1000000000 := by
  simp only [eachB, isB, Bool.and_eq_true, decide_eq_true_eq] at h
  unfold Mass.le; omega
theorem closeF_le' {fs : List FlowD} {n : Nat} (h9 : ∀ f ∈ fs, f.me = true → f.m.le 1000000000) (hl : fs.length ≤ 20) (k : Nat) : (closeF fs n k).m.le 20000000000 := by
  unfold closeF
  cases hk : fs[k]? with
  | none => exact Mass.le_zero (by omega)
  | some f =>
    simp only []
    unfold closeAt
    by_cases hm : f.me = true
    · rw [if_pos hm]; exact (h9 f (List.mem_of_getElem? hk) hm).mono (by omega)
    · rw [if_neg hm]
      split
      · exact Mass.le_zero (by omega)
      · split
        · exact exc_le (by omega) h9 hl
        · exact Mass.le_neg (exc_le (by omega) h9 hl)
theorem set_mem {fs : List FlowD} {k : Nat} {f : FlowD} {m : Mass} (hk : fs[k]? = some f) : ∀ g ∈ fs.set k (meas f m), g = meas f m ∨ g ∈ fs := fun g hg => by
  obtain ⟨j, hj⟩ := List.getElem?_of_mem hg
  by_cases e : j = k
  · subst e
    rw [set_at hk] at hj; cases hj
    exact .inl rfl
  · rw [set_ne e] at hj
    exact .inr (List.mem_of_getElem? hj)
theorem set_cells {fs : List FlowD} {k : Nat} {f : FlowD} {m : Mass} (hk : fs[k]? = some f) : (List.range fs.length).map (fun j => if j = k then (meas f m).cs else (fs.getD j fd0).cs) = (fs.set k (meas f m)).map FlowD.cs := by
  apply List.ext_getElem?
  intro j
  rw [List.getElem?_map, List.getElem?_map]
  by_cases h : j < fs.length
  · rw [List.getElem?_range h]
    by_cases e : j = k
    · subst e; rw [set_at hk]; simp
    · rw [set_ne e]; simp [List.getD, h, e]
  · rw [List.getElem?_eq_none (by simpa using h), List.getElem?_eq_none (by simpa using h)]; rfl
theorem flows_flat (fs : List FlowD) : (fs.map FlowD.cs).flatten = flatG (fun j => (fs.getD j fd0).cs) fs.length := by
  unfold flatG
  rw [← map_getD FlowD.cs fd0 fs]
theorem set_flat {fs : List FlowD} {k : Nat} {f g : FlowD} {off : Nat} {vs : List Value} (hk : fs[k]? = some f) (h : putL off vs f.cs = some g.cs) : putL (k * 7 + off) vs (flatF fs) = some (flatF (fs.set k g)) := by
  have hlt := (List.getElem?_eq_some_iff.1 hk).1
  unfold flatF
  rw [flows_flat, flatG_putAt (N := 7) (fun j => rfl) (x := g.cs) (by rw [getD_at hk]; exact h) hlt, flows_flat, List.length_set]
  congr 1
  refine flatG_congr fun j hj => ?_
  by_cases e : j = k
  · subst e; rw [if_pos rfl, getD_at (set_at hk)]
  · rw [if_neg e]; simp [List.getD, set_ne e]
theorem flow_get {fs : List FlowD} {k : Nat} {f : FlowD} (hk : fs[k]? = some f) : takeL 7 ((flatF fs).drop (k * 7)) = some f.cs := by
  have hlt := (List.getElem?_eq_some_iff.1 hk).1
  unfold flatF
  rw [flows_flat, flatG_get (g := fun j => (fs.getD j fd0).cs) (N := 7) (fun j => rfl) hlt, getD_at hk]
theorem fl_of_flat {fs : List FlowD} {s : St} {b len c : Nat} {o : Option Nat} (h2 : b < s.next) (hl : fs.length = len) (h3 : s.heap.get b = some (.cells (flatF fs) o)) : FlAt s (.slice (some ⟨b, 0, none⟩) len c) fs := by
  have := sl_of_cells (n := 7) (c := c) h2 (flows_len fs) h3
  rw [List.length_map, hl] at this
  exact this
/-- What Fill says. -/
def fillErr (u : Int) (fs : List FlowD) (fl : Int) (m : Mass) : Int := if closeErr u fs ≠ 0 then closeErr u fs else if fl < 0 ∨ (fs.length : Int) ≤ fl then 5 else
  if ((closeF fs u.toNat fl.toNat).st ≠ 3 ∧ (closeF fs u.toNat fl.toNat).m ≠ m) ∨ eachB m (-1000000000) 1000000000 = false then 22 else 0
theorem close_none {u : Int} {fs : List FlowD} (h : closeErr u fs = 0) : checkErr u fs = 0 := by
  unfold closeErr at h
  split at h
  · exact h
  · rename_i e; simpa using e
set_option maxRecDepth 100000 in
set_option maxHeartbeats 4000000 in
theorem fill_ev (u fl : Int) (m : Mass) (v : Value) (fs : List FlowD) (s : St) (hf : FlAt s v fs) (hl : fs.length ≤ 1000) (hm64 : m.w64) :
    Ev TT 26 [plantV u v, .int .i64 fl, m.v] s fun r s' => Keep s s' ∧ ∃ w, r = .tuple #[w, .int .i64 (fillErr u fs fl m)] ∧ (fillErr u fs fl m ≠ 0 → w = .slice none 0 0) ∧
      (fillErr u fs fl m = 0 → ∃ (n k : Nat) (f : FlowD) (B : Nat → Mass), u = n ∧ fl = k ∧ fs[k]? = some f ∧ closeErr n fs = 0 ∧ ((closeF fs n k).st = 3 ∨ (closeF fs n k).m = m) ∧ Settled (fs.set k (meas f m)) n 180000000000 B ∧ BalAt s' w ((List.range fs.length).map B)) := by
  obtain ⟨a, c, rfl⟩ := hf.shape
  rw [List.length_map] at hf ⊢
  unfold plantV Mass.v
  refine Ev.intro (fn := Try.f26) rfl (by kernel_rfl) rfl rfl ?_
  apply zz
  refine Cd.ra (h := ?_)
  apply Run.by_eq
  · intro self
    conv => lhs; simp -implicitDefEqProofs (maxSteps := 300000) (disch := omega) [-getElem?_pos, -getElem?_neg]
  try (with_reducible refine Run.ret ?_)
  apply zz
  refine Cd.ra (h := ?_)
  apply Run.by_eq
  · intro self
    conv => lhs; simp -implicitDefEqProofs (maxSteps := 300000) (disch := omega) [-getElem?_pos, -getElem?_neg]
  try (with_reducible refine Run.ret ?_)
  apply zz
  refine Run.call ((close_ev u _ fs _ (hf.keep ⟨by (try simp only [pushed_next', upded_next']); omega, fun i hi => by simp -implicitDefEqProofs (disch := omega) []⟩) (by omega)).mono fun r w1 hv => ?_)
  obtain ⟨k1, kv, rfl, hkn⟩ := hv
  have k1a := k1.1
  have k1b := k1.2
  try simp only [pushed_next', upded_next'] at k1a k1b
  have hp1 : w1.heap.get s.next = some (.cells [.int .i64 u, .slice a fs.length c] none) := by rw [k1b _ (by omega)]; simp -implicitDefEqProofs (disch := omega)
  have hm1 : w1.heap.get (s.next + 1) = some (.cells [.int .i64 m.a, .int .i64 m.b, .int .i64 m.c, .int .i64 m.d] none) := by rw [k1b _ (by omega)]; simp -implicitDefEqProofs (disch := omega)
  have hold1 : ∀ i, i < s.next → w1.heap.get i = s.heap.get i := fun i hi => by rw [k1b i (by omega)]; simp -implicitDefEqProofs (disch := omega)
  have hk1 : Keep s w1 := ⟨by omega, hold1⟩
  by_cases hce : closeErr u fs = 0
  case neg =>
    have hfe : fillErr u fs fl m = closeErr u fs := by unfold fillErr; rw [if_pos hce]
    rw [hfe]
    apply Run.by_eq
    · intro self
      conv => lhs; simp -implicitDefEqProofs (maxSteps := 300000) (disch := omega) [-getElem?_pos, -getElem?_neg]
    try (with_reducible refine Run.ret ?_)
    apply zz
    refine Cd.ra (h := ?_)
    apply Run.by_eq
    · intro self
      conv => lhs; simp -implicitDefEqProofs (maxSteps := 300000) (disch := omega) [-getElem?_pos, -getElem?_neg, hce]
    try (with_reducible refine Run.ret ?_)
    apply zz
    apply Cd.ite rfl
    · conv => lhs; simp -implicitDefEqProofs (maxSteps := 300000) (disch := omega) [-getElem?_pos, -getElem?_neg]
    all_goals intro c0
    all_goals try (cases c0; done)
    all_goals try simp only [Bool.not_eq_true', Bool.not_eq_false', decide_eq_true_eq, decide_eq_false_iff_not] at c0
    all_goals apply zz
    apply zz
    refine Cd.ra (h := ?_)
    apply Run.by_eq
    · intro self
      conv => lhs; simp -implicitDefEqProofs (maxSteps := 300000) (disch := omega) [-getElem?_pos, -getElem?_neg]
    try (with_reducible refine Run.ret ?_)
    apply zz
    apply Leave.mk (by first | exact .inl rfl | exact .inr rfl) (by simp only [Fr.marks_put, fr0_marks])
    · conv => lhs; simp -implicitDefEqProofs (disch := omega) [Try.results26]
    exact ⟨hk1, _, rfl, fun _ => rfl, fun h => absurd h hce⟩
  have hck := close_none hce
  obtain ⟨hu1, hu2, hl20, _⟩ := checkErr_ok hck
  obtain ⟨n, hn⟩ : ∃ n : Nat, u = n := ⟨u.toNat, by omega⟩
  subst hn
  have h9 := checkErr_le9 hck
  have hks : closeKs n fs = (List.range fs.length).map (closeF fs n) := by unfold closeKs; rw [if_pos hce]; rfl
  rw [hks] at hkn
  obtain ⟨ak, ck, rfl⟩ := hkn.shape
  rw [List.length_map, List.length_map, List.length_range] at hkn
  simp only [List.length_map, List.length_range]
  rw [hce]
  apply Run.by_eq
  · intro self
    conv => lhs; simp -implicitDefEqProofs (maxSteps := 300000) (disch := omega) [-getElem?_pos, -getElem?_neg]
  try (with_reducible refine Run.ret ?_)
  apply zz
  refine Cd.ra (h := ?_)
  apply Run.by_eq
  · intro self
    conv => lhs; simp -implicitDefEqProofs (maxSteps := 300000) (disch := omega) [-getElem?_pos, -getElem?_neg]
  try (with_reducible refine Run.ret ?_)
  apply zz
  apply Cd.ite rfl
  · conv => lhs; simp -implicitDefEqProofs (maxSteps := 300000) (disch := omega) [-getElem?_pos, -getElem?_neg]
  all_goals intro c0
  all_goals try (cases c0; done)
  all_goals try simp only [Bool.not_eq_true', Bool.not_eq_false', decide_eq_true_eq, decide_eq_false_iff_not] at c0
  all_goals apply zz
  by_cases hfl : fl < 0 ∨ (fs.length : Int) ≤ fl
  · have hfe : fillErr n fs fl m = 5 := by unfold fillErr; rw [if_neg (by simp [hce]), if_pos hfl]
    rw [hfe]
    rcases hfl with h1 | h1
    · have h2 : fl < 0 := h1
      apply zz
      refine Cd.ra (h := ?_)
      apply Run.by_eq
      · intro self
        conv => lhs; simp -implicitDefEqProofs (maxSteps := 300000) (disch := omega) [-getElem?_pos, -getElem?_neg, h2]
      try (with_reducible refine Run.ret ?_)
      apply zz
      apply Cd.ite rfl
      · conv => lhs; simp -implicitDefEqProofs (maxSteps := 300000) (disch := omega) [-getElem?_pos, -getElem?_neg]
      all_goals intro c1
      all_goals try (cases c1; done)
      all_goals try simp only [Bool.not_eq_true', Bool.not_eq_false', decide_eq_true_eq, decide_eq_false_iff_not] at c1
      all_goals apply zz
      apply zz
      refine Cd.ra (h := ?_)
      apply Run.by_eq
      · intro self
        conv => lhs; simp -implicitDefEqProofs (maxSteps := 300000) (disch := omega) [-getElem?_pos, -getElem?_neg]
      try (with_reducible refine Run.ret ?_)
      apply zz
      apply Leave.mk (by first | exact .inl rfl | exact .inr rfl) (by simp only [Fr.marks_put, fr0_marks])
      · conv => lhs; simp -implicitDefEqProofs (disch := omega) [Try.results26]
      exact ⟨hk1, _, rfl, fun _ => rfl, fun h => by simp at h⟩
    · have h2 : ¬ fl < 0 := by omega
      apply zz
      refine Cd.ra (h := ?_)
      apply Run.by_eq
      · intro self
        conv => lhs; simp -implicitDefEqProofs (maxSteps := 300000) (disch := omega) [-getElem?_pos, -getElem?_neg, h1, h2]
      try (with_reducible refine Run.ret ?_)
      apply zz
      apply Cd.ite rfl
      · conv => lhs; simp -implicitDefEqProofs (maxSteps := 300000) (disch := omega) [-getElem?_pos, -getElem?_neg]
      all_goals intro c1
      all_goals try (cases c1; done)
      all_goals try simp only [Bool.not_eq_true', Bool.not_eq_false', decide_eq_true_eq, decide_eq_false_iff_not] at c1
      all_goals apply zz
      apply zz
      refine Cd.ra (h := ?_)
      apply Run.by_eq
      · intro self
        conv => lhs; simp -implicitDefEqProofs (maxSteps := 300000) (disch := omega) [-getElem?_pos, -getElem?_neg]
      try (with_reducible refine Run.ret ?_)
      apply zz
      apply Leave.mk (by first | exact .inl rfl | exact .inr rfl) (by simp only [Fr.marks_put, fr0_marks])
      · conv => lhs; simp -implicitDefEqProofs (disch := omega) [Try.results26]
      exact ⟨hk1, _, rfl, fun _ => rfl, fun h => by simp at h⟩
  obtain ⟨k, rfl⟩ : ∃ k : Nat, fl = k := ⟨fl.toNat, by omega⟩
  have hlt : k < fs.length := by omega
  have hlt' : ¬ ((fs.length : Int) ≤ k) := by omega
  have hlt0 : ¬ ((k : Int) < 0) := by omega
  apply zz
  refine Cd.ra (h := ?_)
  apply Run.by_eq
  · intro self
    conv => lhs; simp -implicitDefEqProofs (maxSteps := 300000) (disch := omega) [-getElem?_pos, -getElem?_neg, hlt', hlt0]
  try (with_reducible refine Run.ret ?_)
  apply zz
  apply Cd.ite rfl
  · conv => lhs; simp -implicitDefEqProofs (maxSteps := 300000) (disch := omega) [-getElem?_pos, -getElem?_neg]
  all_goals intro c1
  all_goals try (cases c1; done)
  all_goals try simp only [Bool.not_eq_true', Bool.not_eq_false', decide_eq_true_eq, decide_eq_false_iff_not] at c1
  all_goals apply zz
  obtain ⟨f, hk⟩ : ∃ f, fs[k]? = some f := ⟨fs[k], by simp [hlt]⟩
  obtain ⟨bk, ok, obk, csk, ggk, rfl, hbk, hok, hck', htk⟩ := SlAt.at hkn (k := k) (e := (closeF fs n k).cs) (by rw [List.getElem?_map, List.getElem?_map, List.getElem?_range hlt]; rfl)
  have hkl := closeF_le' (n := n) h9 hl20 k
  have hfe : fillErr n fs k m = if ((closeF fs n k).st ≠ 3 ∧ (closeF fs n k).m ≠ m) ∨ eachB m (-1000000000) 1000000000 = false then 22 else 0 := by
    unfold fillErr
    rw [if_neg (by simp [hce]), if_neg (by omega)]
    rfl
  have hset : closeErr n fs = 0 := hce
  generalize hkd : closeF fs n k = kd at htk hkl hfe
  obtain ⟨st, km⟩ := kd
  simp only [] at hkl hfe
  rw [show KnownD.cs ⟨st, km⟩ = [.int .i64 st, .int .i64 km.a, .int .i64 km.b, .int .i64 km.c, .int .i64 km.d] from rfl] at htk
  obtain ⟨q0, q1⟩ := takeL_cons htk
  have hEq : aggEq TT 36 #[.int .i64 km.a, .int .i64 km.b, .int .i64 km.c, .int .i64 km.d] #[.int .i64 m.a, .int .i64 m.b, .int .i64 m.c, .int .i64 m.d] = some (decide (km = m)) := aggEqW unA36 ceA36 (hkl.w64 (by omega)) hm64
  have vek : veq 5 (Value.slice (some ⟨bk, ok, none⟩) fs.length ck) (Value.slice (some ⟨bk, ok, none⟩) fs.length ck) = true := veq_slice _ _ _ _ _
  by_cases hdf : st ≠ 3 ∧ km ≠ m
  · rw [decide_eq_false hdf.2] at hEq
    have hfe' : fillErr n fs k m = 22 := by rw [hfe, if_pos (.inl hdf)]
    rw [hfe']
    apply zz
    refine Cd.drawnH (pl := [(0, 0, false, false), (1, 0, false, false), (2, 3, false, false), (3, 7, false, false), (4, 15, false, false), (5, 31, false, false), (6, 63, false, false), (7, 127, false, false), (8, 127, false, false), (9, 511, false, false), (10, 1023, false, false), (11, 2047, false, false), (12, 127, false, false), (13, 8191, false, false), (14, 16383, false, false), (15, 32767, false, false)]) [false, false, false, false, false, false, false, false, false, false, false, false, false, false, false, false] (by kernel_rfl) (by decide) (by decide) (by conv => lhs; simp only [List.map_cons, List.map_nil]) (by conv => lhs; simp [strip, orderedG, flagH]) ?_
    apply Run.by_eq
    · intro self
      conv => lhs; simp -implicitDefEqProofs (maxSteps := 300000) (disch := omega) [-getElem?_pos, -getElem?_neg, hlt, hok, hck', q0, q1, hdf.1, vek, hEq, hm1]
    try (with_reducible refine Run.ret ?_)
    apply zz
    refine Cd.ra (h := ?_)
    apply Run.by_eq
    · intro self
      conv => lhs; simp -implicitDefEqProofs (maxSteps := 300000) (disch := omega) [-getElem?_pos, -getElem?_neg]
    try (with_reducible refine Run.ret ?_)
    apply zz
    apply Cd.ite rfl
    · conv => lhs; simp -implicitDefEqProofs (maxSteps := 300000) (disch := omega) [-getElem?_pos, -getElem?_neg]
    all_goals intro c2
    all_goals try (cases c2; done)
    all_goals try simp only [Bool.not_eq_true', Bool.not_eq_false', decide_eq_true_eq, decide_eq_false_iff_not] at c2
    all_goals apply zz
    apply zz
    refine Cd.ra (h := ?_)
    apply Run.by_eq
    · intro self
      conv => lhs; simp -implicitDefEqProofs (maxSteps := 300000) (disch := omega) [-getElem?_pos, -getElem?_neg]
    try (with_reducible refine Run.ret ?_)
    apply zz
    apply Leave.mk (by first | exact .inl rfl | exact .inr rfl) (by simp only [Fr.marks_put, fr0_marks])
    · conv => lhs; simp -implicitDefEqProofs (disch := omega) [Try.results26]
    exact ⟨hk1, _, rfl, fun _ => rfl, fun h => by simp at h⟩
  have hd2 : st = 3 ∨ km = m := by
    by_cases e : st = 3
    · exact .inl e
    · exact .inr (Classical.byContradiction fun h => hdf ⟨e, h⟩)
  have hput1 := set_flat (g := meas f f.m) (off := 2) (vs := [.bool true]) hk rfl
  have hput2 := set_flat (g := meas f m) (off := 3) (vs := [.int .i64 m.a, .int .i64 m.b, .int .i64 m.c, .int .i64 m.d]) (set_at (g := meas f f.m) hk) rfl
  rw [List.set_set] at hput2
  have hd2' : (closeF fs n k).st = 3 ∨ (closeF fs n k).m = m := by rw [hkd]; exact hd2
  by_cases h3 : st = 3
  · apply zz
    refine Cd.drawnH (pl := [(0, 0, false, false), (1, 0, false, false), (2, 3, false, false), (3, 7, false, false), (4, 15, false, false), (5, 31, false, false), (6, 63, false, false), (7, 127, false, false), (8, 127, false, false), (9, 511, false, false), (10, 1023, false, false), (11, 2047, false, false), (12, 127, false, false), (13, 8191, false, false), (14, 16383, false, false), (15, 32767, false, false)]) [false, false, false, false, false, false, false, false, false, false, false, false, false, false, false, false] (by kernel_rfl) (by decide) (by decide) (by conv => lhs; simp only [List.map_cons, List.map_nil]) (by conv => lhs; simp [strip, orderedG, flagH]) ?_
    apply Run.by_eq
    · intro self
      conv => lhs; simp -implicitDefEqProofs (maxSteps := 300000) (disch := omega) [-getElem?_pos, -getElem?_neg, hlt, hok, hck', q0, q1, h3, vek, hm1]
    try (with_reducible refine Run.ret ?_)
    apply zz
    refine Cd.ra (h := ?_)
    apply Run.by_eq
    · intro self
      conv => lhs; simp -implicitDefEqProofs (maxSteps := 300000) (disch := omega) [-getElem?_pos, -getElem?_neg, hm1]
    try (with_reducible refine Run.ret ?_)
    apply zz
    refine Run.call ((within_ev m (-1000000000) 1000000000 _).mono fun v wy hv => ?_)
    obtain ⟨rfl, y⟩ := hv
    have ya := y.1
    have yb := y.2
    try simp only [pushed_next', upded_next'] at ya yb
    cases hE : eachB m (-1000000000) 1000000000 with
    | false =>
      have hfe' : fillErr n fs k m = 22 := by rw [hfe, if_pos (.inr hE)]
      rw [hfe']
      apply Run.by_eq
      · intro self
        conv => lhs; simp -implicitDefEqProofs (maxSteps := 300000) (disch := omega) [-getElem?_pos, -getElem?_neg, hE]
      try (with_reducible refine Run.ret ?_)
      apply zz
      apply Cd.ite rfl
      · conv => lhs; simp -implicitDefEqProofs (maxSteps := 300000) (disch := omega) [-getElem?_pos, -getElem?_neg]
      all_goals intro c2
      all_goals try (cases c2; done)
      all_goals try simp only [Bool.not_eq_true', Bool.not_eq_false', decide_eq_true_eq, decide_eq_false_iff_not] at c2
      all_goals apply zz
      apply zz
      refine Cd.ra (h := ?_)
      apply Run.by_eq
      · intro self
        conv => lhs; simp -implicitDefEqProofs (maxSteps := 300000) (disch := omega) [-getElem?_pos, -getElem?_neg]
      try (with_reducible refine Run.ret ?_)
      apply zz
      apply Leave.mk (by first | exact .inl rfl | exact .inr rfl) (by simp only [Fr.marks_put, fr0_marks])
      · conv => lhs; simp -implicitDefEqProofs (disch := omega) [Try.results26]
      exact ⟨⟨by (try simp only [pushed_next', upded_next']); omega, fun i hi => by simp -implicitDefEqProofs (disch := omega) [yb, hold1]⟩, _, rfl, fun _ => rfl, fun h => by simp at h⟩
    | true =>
    have hfe' : fillErr n fs k m = 0 := by rw [hfe, if_neg (by rw [hE]; rintro (h | h); exact hdf h; cases h)]
    rw [hfe']
    apply Run.by_eq
    · intro self
      conv => lhs; simp -implicitDefEqProofs (maxSteps := 300000) (disch := omega) [-getElem?_pos, -getElem?_neg, hE]
    try (with_reducible refine Run.ret ?_)
    apply zz
    apply Cd.ite rfl
    · conv => lhs; simp -implicitDefEqProofs (maxSteps := 300000) (disch := omega) [-getElem?_pos, -getElem?_neg]
    all_goals intro c2
    all_goals try (cases c2; done)
    all_goals try simp only [Bool.not_eq_true', Bool.not_eq_false', decide_eq_true_eq, decide_eq_false_iff_not] at c2
    all_goals apply zz
    have hpy := (yb s.next (by omega)).trans hp1
    have hmy := (yb (s.next + 1) (by omega)).trans hm1
    apply zz
    refine Cd.ra (h := ?_)
    apply Run.by_eq
    · intro self
      conv => lhs; simp -implicitDefEqProofs (maxSteps := 300000) (disch := omega) [-getElem?_pos, -getElem?_neg, hpy]
    try (with_reducible refine Run.ret ?_)
    apply zz
    refine Run.call ((clone_ev _ fs _ (hf.keep ⟨by (try simp only [pushed_next', upded_next']); omega, fun i hi => by simp -implicitDefEqProofs (disch := omega) [yb, hold1]⟩) hl).mono fun r w2 hv => ?_)
    obtain ⟨k2, hC⟩ := hv
    have k2a := k2.1
    have k2b := k2.2
    obtain ⟨β, rfl, b1, b2, b3⟩ := hC.2 (fun e => by subst e; simp at hlt)
    have hp2 := (k2b s.next (by omega)).trans hpy
    have hm2 := (k2b (s.next + 1) (by omega)).trans hmy
    change w2.heap.get β = some (.cells (flatF fs) (some 7)) at b3
    apply Run.by_eq
    · intro self
      conv => lhs; simp -implicitDefEqProofs (maxSteps := 300000) (disch := omega) [-getElem?_pos, -getElem?_neg]
    try (with_reducible refine Run.ret ?_)
    apply zz
    refine Cd.drawn (pl := [(0, 0, false, false), (1, 0, false, false), (2, 0, false, false), (3, 0, false, false), (4, 0, false, false), (5, 3, false, false), (6, 35, false, false), (7, 99, true, false), (8, 255, false, false), (9, 511, false, false), (10, 1023, true, false)]) (by kernel_rfl) (by conv => lhs; simp only [List.map_cons, List.map_nil]) (by conv => lhs; simp [strip, ordered]) ?_
    apply Run.by_eq
    · intro self
      conv => lhs; simp -implicitDefEqProofs (maxSteps := 300000) (disch := omega) [filter_bt, Nat.testBit_eq_decide_div_mod_eq, -getElem?_pos, -getElem?_neg, hm2, b3, hput1, hput2, hlt]
    try (with_reducible refine Run.ret ?_)
    apply zz
    refine Cd.ra (h := ?_)
    apply Run.by_eq
    · intro self
      conv => lhs; simp -implicitDefEqProofs (maxSteps := 300000) (disch := omega) [-getElem?_pos, -getElem?_neg, hp2]
    try (with_reducible refine Run.ret ?_)
    apply zz
    have hml := eachB_le9 hE
    have hends := ends_in hck
    have hne := checkErr_ne hck
    have hK0 : ((n : Int) + 1) * 20000000000 ≤ 180000000000 := by omega
    have h9' : ∀ g ∈ fs.set k (meas f m), g.me = true → g.m.le 1000000000 := fun g hg hme => by
      rcases set_mem hk g hg with rfl | h
      · exact hml
      · exact h9 g h hme
    have hends' : ∀ g ∈ fs.set k (meas f m), (-1 ≤ g.fr ∧ g.fr < n) ∧ (-1 ≤ g.to ∧ g.to < n) := fun g hg => by
      rcases set_mem hk g hg with rfl | h
      · exact hends f (List.mem_of_getElem? hk)
      · exact hends g h
    have hne' : ∀ g ∈ fs.set k (meas f m), g.fr ≠ g.to := fun g hg => by
      rcases set_mem hk g hg with rfl | h
      · exact hne f (List.mem_of_getElem? hk)
      · exact hne g h
    have hls : (fs.set k (meas f m)).length = fs.length := List.length_set
    refine Run.call ((settle_ev n _ (fs.set k (meas f m)) _ 20000000000 180000000000 (by omega) (fl_of_flat (c := fs.length) (o := some 7) (b := β) (by (try simp only [upded_next']); omega) hls (by simp)) (by omega) hends' hne' (fun g hg h => (h9' g hg h).mono (by omega)) (fun g hg h => (h9' g hg h).mono (by omega)) (by omega) (fun e => exc_le (by omega) h9' (by omega)) hK0 (by omega) (by omega)).mono fun r w3 hv => ?_)
    obtain ⟨k3, β3, B, rfl, c1', c2', c3', hS⟩ := hv
    have k3a := k3.1
    have k3b := k3.2
    try simp only [upded_next'] at k3a k3b c1'
    rw [hls] at c3' ⊢
    apply Run.by_eq
    · intro self
      conv => lhs; simp -implicitDefEqProofs (maxSteps := 300000) (disch := omega) [-getElem?_pos, -getElem?_neg]
    try (with_reducible refine Run.ret ?_)
    apply zz
    apply Leave.mk (by first | exact .inl rfl | exact .inr rfl) (by simp only [Fr.marks_put, fr0_marks])
    · conv => lhs; simp -implicitDefEqProofs (disch := omega) [Try.results26]
    refine ⟨⟨by omega, fun i hi => ?_⟩, _, rfl, fun h => absurd rfl h, fun _ => ⟨n, k, f, B, rfl, rfl, hk, hce, hd2', hS, ?_⟩⟩
    · rw [k3b i (by omega)]
      simp -implicitDefEqProofs (disch := omega) [k2b, yb, hold1]
    · have := sl_of_cells (n := 4) (c := fs.length) (l := ((List.range fs.length).map B).map Mass.cs) (g := none) c2' (fun x hx => by obtain ⟨b, _, rfl⟩ := List.mem_map.1 hx; rfl) (by rw [c3']; unfold balL; rw [List.map_map]; rfl)
      rw [List.length_map, List.length_map, List.length_range] at this
      exact this
  · have hkm := hd2.resolve_left h3
    rw [decide_eq_true hkm] at hEq
    apply zz
    refine Cd.drawnH (pl := [(0, 0, false, false), (1, 0, false, false), (2, 3, false, false), (3, 7, false, false), (4, 15, false, false), (5, 31, false, false), (6, 63, false, false), (7, 127, false, false), (8, 127, false, false), (9, 511, false, false), (10, 1023, false, false), (11, 2047, false, false), (12, 127, false, false), (13, 8191, false, false), (14, 16383, false, false), (15, 32767, false, false)]) [false, false, false, false, false, false, false, false, false, false, false, false, false, false, false, false] (by kernel_rfl) (by decide) (by decide) (by conv => lhs; simp only [List.map_cons, List.map_nil]) (by conv => lhs; simp [strip, orderedG, flagH]) ?_
    apply Run.by_eq
    · intro self
      conv => lhs; simp -implicitDefEqProofs (maxSteps := 300000) (disch := omega) [-getElem?_pos, -getElem?_neg, hlt, hok, hck', q0, q1, h3, vek, hEq, hm1]
    try (with_reducible refine Run.ret ?_)
    apply zz
    refine Cd.ra (h := ?_)
    apply Run.by_eq
    · intro self
      conv => lhs; simp -implicitDefEqProofs (maxSteps := 300000) (disch := omega) [-getElem?_pos, -getElem?_neg, hm1]
    try (with_reducible refine Run.ret ?_)
    apply zz
    refine Run.call ((within_ev m (-1000000000) 1000000000 _).mono fun v wy hv => ?_)
    obtain ⟨rfl, y⟩ := hv
    have ya := y.1
    have yb := y.2
    try simp only [pushed_next', upded_next'] at ya yb
    cases hE : eachB m (-1000000000) 1000000000 with
    | false =>
      have hfe' : fillErr n fs k m = 22 := by rw [hfe, if_pos (.inr hE)]
      rw [hfe']
      apply Run.by_eq
      · intro self
        conv => lhs; simp -implicitDefEqProofs (maxSteps := 300000) (disch := omega) [-getElem?_pos, -getElem?_neg, hE]
      try (with_reducible refine Run.ret ?_)
      apply zz
      apply Cd.ite rfl
      · conv => lhs; simp -implicitDefEqProofs (maxSteps := 300000) (disch := omega) [-getElem?_pos, -getElem?_neg]
      all_goals intro c2
      all_goals try (cases c2; done)
      all_goals try simp only [Bool.not_eq_true', Bool.not_eq_false', decide_eq_true_eq, decide_eq_false_iff_not] at c2
      all_goals apply zz
      apply zz
      refine Cd.ra (h := ?_)
      apply Run.by_eq
      · intro self
        conv => lhs; simp -implicitDefEqProofs (maxSteps := 300000) (disch := omega) [-getElem?_pos, -getElem?_neg]
      try (with_reducible refine Run.ret ?_)
      apply zz
      apply Leave.mk (by first | exact .inl rfl | exact .inr rfl) (by simp only [Fr.marks_put, fr0_marks])
      · conv => lhs; simp -implicitDefEqProofs (disch := omega) [Try.results26]
      exact ⟨⟨by (try simp only [pushed_next', upded_next']); omega, fun i hi => by simp -implicitDefEqProofs (disch := omega) [yb, hold1]⟩, _, rfl, fun _ => rfl, fun h => by simp at h⟩
    | true =>
    have hfe' : fillErr n fs k m = 0 := by rw [hfe, if_neg (by rw [hE]; rintro (h | h); exact hdf h; cases h)]
    rw [hfe']
    apply Run.by_eq
    · intro self
      conv => lhs; simp -implicitDefEqProofs (maxSteps := 300000) (disch := omega) [-getElem?_pos, -getElem?_neg, hE]
    try (with_reducible refine Run.ret ?_)
    apply zz
    apply Cd.ite rfl
    · conv => lhs; simp -implicitDefEqProofs (maxSteps := 300000) (disch := omega) [-getElem?_pos, -getElem?_neg]
    all_goals intro c2
    all_goals try (cases c2; done)
    all_goals try simp only [Bool.not_eq_true', Bool.not_eq_false', decide_eq_true_eq, decide_eq_false_iff_not] at c2
    all_goals apply zz
    have hpy := (yb s.next (by omega)).trans hp1
    have hmy := (yb (s.next + 1) (by omega)).trans hm1
    apply zz
    refine Cd.ra (h := ?_)
    apply Run.by_eq
    · intro self
      conv => lhs; simp -implicitDefEqProofs (maxSteps := 300000) (disch := omega) [-getElem?_pos, -getElem?_neg, hpy]
    try (with_reducible refine Run.ret ?_)
    apply zz
    refine Run.call ((clone_ev _ fs _ (hf.keep ⟨by (try simp only [pushed_next', upded_next']); omega, fun i hi => by simp -implicitDefEqProofs (disch := omega) [yb, hold1]⟩) hl).mono fun r w2 hv => ?_)
    obtain ⟨k2, hC⟩ := hv
    have k2a := k2.1
    have k2b := k2.2
    obtain ⟨β, rfl, b1, b2, b3⟩ := hC.2 (fun e => by subst e; simp at hlt)
    have hp2 := (k2b s.next (by omega)).trans hpy
    have hm2 := (k2b (s.next + 1) (by omega)).trans hmy
    change w2.heap.get β = some (.cells (flatF fs) (some 7)) at b3
    apply Run.by_eq
    · intro self
      conv => lhs; simp -implicitDefEqProofs (maxSteps := 300000) (disch := omega) [-getElem?_pos, -getElem?_neg]
    try (with_reducible refine Run.ret ?_)
    apply zz
    refine Cd.drawn (pl := [(0, 0, false, false), (1, 0, false, false), (2, 0, false, false), (3, 0, false, false), (4, 0, false, false), (5, 3, false, false), (6, 35, false, false), (7, 99, true, false), (8, 255, false, false), (9, 511, false, false), (10, 1023, true, false)]) (by kernel_rfl) (by conv => lhs; simp only [List.map_cons, List.map_nil]) (by conv => lhs; simp [strip, ordered]) ?_
    apply Run.by_eq
    · intro self
      conv => lhs; simp -implicitDefEqProofs (maxSteps := 300000) (disch := omega) [filter_bt, Nat.testBit_eq_decide_div_mod_eq, -getElem?_pos, -getElem?_neg, hm2, b3, hput1, hput2, hlt]
    try (with_reducible refine Run.ret ?_)
    apply zz
    refine Cd.ra (h := ?_)
    apply Run.by_eq
    · intro self
      conv => lhs; simp -implicitDefEqProofs (maxSteps := 300000) (disch := omega) [-getElem?_pos, -getElem?_neg, hp2]
    try (with_reducible refine Run.ret ?_)
    apply zz
    have hml := eachB_le9 hE
    have hends := ends_in hck
    have hne := checkErr_ne hck
    have hK0 : ((n : Int) + 1) * 20000000000 ≤ 180000000000 := by omega
    have h9' : ∀ g ∈ fs.set k (meas f m), g.me = true → g.m.le 1000000000 := fun g hg hme => by
      rcases set_mem hk g hg with rfl | h
      · exact hml
      · exact h9 g h hme
    have hends' : ∀ g ∈ fs.set k (meas f m), (-1 ≤ g.fr ∧ g.fr < n) ∧ (-1 ≤ g.to ∧ g.to < n) := fun g hg => by
      rcases set_mem hk g hg with rfl | h
      · exact hends f (List.mem_of_getElem? hk)
      · exact hends g h
    have hne' : ∀ g ∈ fs.set k (meas f m), g.fr ≠ g.to := fun g hg => by
      rcases set_mem hk g hg with rfl | h
      · exact hne f (List.mem_of_getElem? hk)
      · exact hne g h
    have hls : (fs.set k (meas f m)).length = fs.length := List.length_set
    refine Run.call ((settle_ev n _ (fs.set k (meas f m)) _ 20000000000 180000000000 (by omega) (fl_of_flat (c := fs.length) (o := some 7) (b := β) (by (try simp only [upded_next']); omega) hls (by simp)) (by omega) hends' hne' (fun g hg h => (h9' g hg h).mono (by omega)) (fun g hg h => (h9' g hg h).mono (by omega)) (by omega) (fun e => exc_le (by omega) h9' (by omega)) hK0 (by omega) (by omega)).mono fun r w3 hv => ?_)
    obtain ⟨k3, β3, B, rfl, c1', c2', c3', hS⟩ := hv
    have k3a := k3.1
    have k3b := k3.2
    try simp only [upded_next'] at k3a k3b c1'
    rw [hls] at c3' ⊢
    apply Run.by_eq
    · intro self
      conv => lhs; simp -implicitDefEqProofs (maxSteps := 300000) (disch := omega) [-getElem?_pos, -getElem?_neg]
    try (with_reducible refine Run.ret ?_)
    apply zz
    apply Leave.mk (by first | exact .inl rfl | exact .inr rfl) (by simp only [Fr.marks_put, fr0_marks])
    · conv => lhs; simp -implicitDefEqProofs (disch := omega) [Try.results26]
    refine ⟨⟨by omega, fun i hi => ?_⟩, _, rfl, fun h => absurd rfl h, fun _ => ⟨n, k, f, B, rfl, rfl, hk, hce, hd2', hS, ?_⟩⟩
    · rw [k3b i (by omega)]
      simp -implicitDefEqProofs (disch := omega) [k2b, yb, hold1]
    · have := sl_of_cells (n := 4) (c := fs.length) (l := ((List.range fs.length).map B).map Mass.cs) (g := none) c2' (fun x hx => by obtain ⟨b, _, rfl⟩ := List.mem_map.1 hx; rfl) (by rw [c3']; unfold balL; rw [List.map_map]; rfl)
      rw [List.length_map, List.length_map, List.length_range] at this
      exact this
end Go.Proofs.Ytifkpaomhnlahaa
