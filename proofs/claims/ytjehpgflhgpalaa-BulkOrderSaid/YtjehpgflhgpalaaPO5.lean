/-
  Fill answers as stated, for every plant, flow and masses. The law BulkCloses is calculated true, for every argument. The law BulkTrue is calculated true, for every argument. Parts are numbered by who is joined, and an excess of one of them is a clash. The law BulkClash is calculated true, for every argument. A flow that is measured in addition leaves what is known of the others. What is known of two flows is compared. The law BulkMore is calculated true, for every argument. Another order, other numbers, and a flow that is told as two leave what is known. The law BulkOrder is calculated true, for every argument. The law's self-check returns true in every world, and leaves what was there as it was: its answer is calculated by the kernel. What is calculated true of slices of the world holds of the call. Arguments that the row reads are slices, plants and numbers of the world. Mills by numbers, as the row reads them. The statement BulkOrder is true. They hold with no condition but those that are written in each theorem.
-/
import Derived.Test.YtjehpgflhgpalaaProg
import Derived.Test.YtjehpgflhgpalaaRows
import Derived.ProofKit
import Derived.Deep.Slices
import Derived.Lib.SmallJoins
import Derived.Laws.IdiomArrays
import Derived.Carry
import Derived.Test.YtjehpgflhgpalaaPO1
import Derived.Test.YtjehpgflhgpalaaPO2
import Derived.Test.YtjehpgflhgpalaaPO3
import Derived.Test.YtjehpgflhgpalaaPO4
set_option linter.unusedSimpArgs false
set_option linter.unusedVariables false
namespace Go.Proofs.Ytjehpgflhgpalaa
open Go Kern
/-- Any masses that a program can hold. -/
def Mass.w64 (m : Mass) : Prop := (-9223372036854775808 ≤ m.a ∧ m.a ≤ 9223372036854775807) ∧ (-9223372036854775808 ≤ m.b ∧ m.b ≤ 9223372036854775807) ∧ (-9223372036854775808 ≤ m.c ∧ m.c ≤ 9223372036854775807) ∧ (-9223372036854775808 ≤ m.d ∧ m.d ≤ 9223372036854775807)
theorem flows_flat (fs : List FlowD) : (fs.map FlowD.cs).flatten = flatG (fun j => (fs.getD j fd0).cs) fs.length := by
  unfold flatG
  rw [← map_getD FlowD.cs fd0 fs]
theorem set_flat {fs : List FlowD} {k : Nat} {f g : FlowD} {off : Nat} {vs : List Value} (hk : fs[k]? = some f) (h : putL off vs f.cs = some g.cs) : putL (k * 7 + off) vs (flatF fs) = some (flatF (fs.set k g)) := by
  have hlt := (List.getElem?_eq_some_iff.1 hk).1
  unfold flatF
  rw [flows_flat, flatG_putAt (N := 7) (fun j => rfl) (x := g.cs) (by rw [getD_at hk]; exact h) hlt, flows_flat, List.length_set]
  congr 1
  refine flatG_congr fun j hj => ?_
  by_cases e : j = k
  · subst e; rw [if_pos rfl, getD_at (set_at hk)]
  · rw [if_neg e]; simp [List.getD, set_ne e]
theorem flow_get {fs : List FlowD} {k : Nat} {f : FlowD} (hk : fs[k]? = some f) : takeL 7 ((flatF fs).drop (k * 7)) = some f.cs := by
  have hlt := (List.getElem?_eq_some_iff.1 hk).1
  unfold flatF
  rw [flows_flat, flatG_get (g := fun j => (fs.getD j fd0).cs) (N := 7) (fun j => rfl) hlt, getD_at hk]
theorem fl_of_flat {fs : List FlowD} {s : St} {b len c : Nat} {o : Option Nat} (h2 : b < s.next) (hl : fs.length = len) (h3 : s.heap.get b = some (.cells (flatF fs) o)) : FlAt s (.slice (some ⟨b, 0, none⟩) len c) fs := by
  have := sl_of_cells (n := 7) (c := c) h2 (flows_len fs) h3
  rw [List.length_map, hl] at this
  exact this
/-- What Fill says. -/
def fillErr (u : Int) (fs : List FlowD) (fl : Int) (m : Mass) : Int := if closeErr u fs ≠ 0 then closeErr u fs else if fl < 0 ∨ (fs.length : Int) ≤ fl then 5 else
  if ((closeF fs u.toNat fl.toNat).st ≠ 3 ∧ (closeF fs u.toNat fl.toNat).m ≠ m) ∨ eachB m (-1000000000) 1000000000 = false then 22 else 0
end Go.Proofs.Ytjehpgflhgpalaa
namespace Go.Proofs.Ytjehpgflhgpalaa
open Go Kern
abbrev KnAt (s : St) (v : Value) (ks : List KnownD) : Prop := SlAt 5 s v (ks.map KnownD.cs)
theorem KnAt.at {s : St} {a : Option Addr} {m c : Nat} {ks : List KnownD} (h : KnAt s (.slice a m c) ks) {k : Nat} {x : KnownD} (hk : ks[k]? = some x) :
    ∃ b off o cs g, a = some ⟨b, off, none⟩ ∧ b < s.next ∧ s.heap.get b = some o ∧ cellsOf o = some (cs, g) ∧ takeL 5 (cs.drop (off + k * 5)) = some x.cs :=
  SlAt.at h (by rw [List.getElem?_map, hk]; rfl)
end Go.Proofs.Ytjehpgflhgpalaa
namespace Go.Proofs.Ytjehpgflhgpalaa
open Go Kern
end Go.Proofs.Ytjehpgflhgpalaa
namespace Go.Proofs.Ytjehpgflhgpalaa
open Go Kern
/-! Parts by who is joined -/
theorem intOp_quo (k : IntKind) (a b : Int) (ha : 0 ≤ a) (hb : 0 < b) : intOp .quo k a (k, b) = some (.int k (wrapF k (a / b))) := by
  show gd (kindEq k k) (gd (bt (intEq b 0) false true) (some (Value.int k (wrapF k (a.tdiv b))))) = _
  have hb0 : (b == 0) = false := by simp; omega
  rw [kindEq_refl, intEq_eq, hb0, bt_false, Int.tdiv_eq_ediv_of_nonneg ha]; rfl
/-- What was seen of the first u units: whether some part has an excess. -/
def SeenC (fs : List FlowD) (n u : Nat) (cl : Bool) : Prop := cl = true ↔ ∃ k, k < u ∧ isLead (rtF (-1) fs 0 id) n k = true ∧ excM (clsN (rtF (-1) fs 0 id) k n) fs ≠ Mass.zero
end Go.Proofs.Ytjehpgflhgpalaa
namespace Go.Proofs.Ytjehpgflhgpalaa
open Go Kern
theorem mill_small {n : Nat} {K : Int} {ms : List Int} {es : List (Int × Int)} (hn1 : 1 ≤ n) (hbm : ∀ x ∈ ms, 0 ≤ x ∧ x < 256) : ∀ f ∈ millFs n K ms es, f.me = true → f.m.le 1536 := fun f hf hm => by
  obtain ⟨j, hj⟩ := List.getElem?_of_mem hf
  rw [← (mill_bal (K := K) (ms := ms) (es := es) hn1).meas j f hj hm]
  exact realF_le hbm j
theorem mass_at_le {m : Mass} {B : Int} {q : Nat} (h : m.le B) : -B ≤ m.at q ∧ m.at q ≤ B := by
  unfold Mass.le at h
  unfold Mass.at
  split <;> omega
end Go.Proofs.Ytjehpgflhgpalaa
namespace Go.Proofs.Ytjehpgflhgpalaa
open Go Kern
/-! A flow is measured in addition: what is known of the others -/
section
variable {fs : List FlowD} {n i : Nat} {f : FlowD} {m : Mass}
end
end Go.Proofs.Ytjehpgflhgpalaa
namespace Go.Proofs.Ytjehpgflhgpalaa
open Go Kern
/-! Comparison of what is known of flows -/
theorem unA54 : ∃ f0 f1 : Field, Try.prog.underlying 54 = some (.struct #[f0, f1]) ∧ (f0.type = 3 ∧ f0.offset = 0 ∧ (f0.name != "_") = true) ∧ (f1.type = 36 ∧ f1.offset = 1 ∧ (f1.name != "_") = true) := ⟨_, _, Try.underlying54, ⟨rfl, rfl, by kernel_rfl⟩, rfl, rfl, by kernel_rfl⟩
theorem ceA54 : Try.prog.cellsOf 54 = 5 := by kernel_rfl
theorem keyLits36 {d : Nat} {m : Mass} (h : m.le 4611686018427387904) : Try.prog.keyLits (d + 2) 36 [.int .i64 m.a, .int .i64 m.b, .int .i64 m.c, .int .i64 m.d] = some [.int .i64 m.a, .int .i64 m.b, .int .i64 m.c, .int .i64 m.d] := by
  obtain ⟨h1, h2, h3, h4⟩ : (Lit.int .i64 m.a).wf = true ∧ (Lit.int .i64 m.b).wf = true ∧ (Lit.int .i64 m.c).wf = true ∧ (Lit.int .i64 m.d).wf = true := by
    unfold Mass.le at h; exact ⟨wfA_of (by omega), wfA_of (by omega), wfA_of (by omega), wfA_of (by omega)⟩
  unfold Program.keyLits; rw [unA36]
  simp [ceA36, ceA3, List.range, List.range.loop, keyLitA3 h1, keyLitA3 h2, keyLitA3 h3, keyLitA3 h4]
theorem keyLits54 {st : Int} {m : Mass} (hs : -4611686018427387904 ≤ st ∧ st ≤ 4611686018427387904) (h : m.le 4611686018427387904) : Try.prog.keyLits 21 54 [.int .i64 st, .int .i64 m.a, .int .i64 m.b, .int .i64 m.c, .int .i64 m.d] = some [.int .i64 st, .int .i64 m.a, .int .i64 m.b, .int .i64 m.c, .int .i64 m.d] := by
  obtain ⟨f0, f1, hu, ⟨t0, o0, n0⟩, t1, o1, n1⟩ := unA54
  have k0 := keyLitA3 (d := 19) (wfA_of hs)
  have k1 := keyLits36 (d := 18) h
  unfold Program.keyLits; rw [hu]
  simp only [ceA54, List.length_cons, List.length_nil]
  rw [if_pos (by simp [n0, n1])]
  simp [t0, o0, t1, o1, ceA3, ceA36, k0, k1]
theorem formed54 (x y z w v : Value) : Value.formed Try.prog 54 (.agg #[x, y, z, w, v]) = true := by
  obtain ⟨f0, f1, hu, _⟩ := unA54
  simp [Value.formed, hu, ceA54]
theorem litsEq_known (s t : Int) (m p : Mass) : litsEq [.int .i64 s, .int .i64 m.a, .int .i64 m.b, .int .i64 m.c, .int .i64 m.d] [.int .i64 t, .int .i64 p.a, .int .i64 p.b, .int .i64 p.c, .int .i64 p.d] = decide (s = t ∧ m = p) := by
  rw [Bool.eq_iff_iff, litsEq_iff, decide_eq_true_eq]
  constructor
  · intro h
    simp at h
    exact ⟨h.1, Mass.ext' h.2.1 h.2.2.1 h.2.2.2.1 h.2.2.2.2⟩
  · rintro ⟨rfl, rfl⟩; rfl
theorem aggEqK {s t : Int} {m p : Mass} (hs : -4611686018427387904 ≤ s ∧ s ≤ 4611686018427387904) (ht : -4611686018427387904 ≤ t ∧ t ≤ 4611686018427387904) (h : m.le 4611686018427387904) (k : p.le 4611686018427387904) : aggEq TT 54 #[.int .i64 s, .int .i64 m.a, .int .i64 m.b, .int .i64 m.c, .int .i64 m.d] #[.int .i64 t, .int .i64 p.a, .int .i64 p.b, .int .i64 p.c, .int .i64 p.d] = some (decide (s = t ∧ m = p)) := by
  unfold aggEq
  have h1 := keyLits54 hs h
  have h2 := keyLits54 ht k
  change gd _ (ob (Try.prog.keyLits 21 54 _) fun la => ob (Try.prog.keyLits 21 54 _) fun lb => some (litsEq la lb)) = _
  rw [h1, h2, show Value.formed TT.prog 54 (.agg #[.int .i64 s, .int .i64 m.a, .int .i64 m.b, .int .i64 m.c, .int .i64 m.d]) = true from formed54 _ _ _ _ _, show Value.formed TT.prog 54 (.agg #[.int .i64 t, .int .i64 p.a, .int .i64 p.b, .int .i64 p.c, .int .i64 p.d]) = true from formed54 _ _ _ _ _]
  show gd (_ && true && true) (some (litsEq _ _)) = _
  rw [litsEq_known]; rfl
theorem flagA54 : (TT.prog.keyTypeAt 20 54 && !TT.prog.eqGuardType TT.prog.depth 54) = true := by kernel_rfl
theorem binVal_54ne (f0 f1 : Field) (a b : Array Value) : binVal TT (.struct #[f0, f1]) 54 (TT.prog.keyTypeAt 20 54 && !TT.prog.eqGuardType TT.prog.depth 54) .neq (.agg a) (.agg b) = ob (aggEq TT 54 a b) fun r => some (.bool (!r)) := by
  rw [flagA54]; rfl
attribute [simp] binVal_54ne
theorem aggEqK_self {s : Int} {m : Mass} (hs : -4611686018427387904 ≤ s ∧ s ≤ 4611686018427387904) (h : m.le 4611686018427387904) : aggEq TT 54 #[.int .i64 s, .int .i64 m.a, .int .i64 m.b, .int .i64 m.c, .int .i64 m.d] #[.int .i64 s, .int .i64 m.a, .int .i64 m.b, .int .i64 m.c, .int .i64 m.d] = some true := by
  rw [aggEqK hs hs h h, decide_eq_true ⟨rfl, rfl⟩]
end Go.Proofs.Ytjehpgflhgpalaa
namespace Go.Proofs.Ytjehpgflhgpalaa
open Go Kern
theorem stB_range (fs : List FlowD) (j : Nat) (f : FlowD) : 1 ≤ stB fs j f ∧ stB fs j f ≤ 3 := by
  unfold stB
  split
  · omega
  · split <;> omega
theorem Mass.put_at {m : Mass} {q r : Nat} {x : Int} (hq : q < 4) (hr : r < 4) : (m.put q x).at r = if r = q then x else m.at r := by
  match q, hq, r, hr with
  | 0, _, 0, _ => rfl
  | 0, _, 1, _ => rfl
  | 0, _, 2, _ => rfl
  | 0, _, 3, _ => rfl
  | 1, _, 0, _ => rfl
  | 1, _, 1, _ => rfl
  | 1, _, 2, _ => rfl
  | 1, _, 3, _ => rfl
  | 2, _, 0, _ => rfl
  | 2, _, 1, _ => rfl
  | 2, _, 2, _ => rfl
  | 2, _, 3, _ => rfl
  | 3, _, 0, _ => rfl
  | 3, _, 1, _ => rfl
  | 3, _, 2, _ => rfl
  | 3, _, 3, _ => rfl
theorem Mass.ext_at {m p : Mass} (h : ∀ q, q < 4 → m.at q = p.at q) : m = p := Mass.ext' (h 0 (by omega)) (h 1 (by omega)) (h 2 (by omega)) (h 3 (by omega))
theorem meas_flowErr {n : Nat} {fs : List FlowD} {i : Nat} {f : FlowD} {m : Mass} (hck : checkErr n fs = 0) (hf : fs[i]? = some f) : flowErr n (meas f m) = if eachB m 0 1000000000 = true then 0 else 2 := by
  obtain ⟨a, b, c, _⟩ := flowErr_ok ((checkErr_ok hck).2.2.2 f (List.mem_of_getElem? hf))
  unfold flowErr meas
  simp only [a, b]
  rw [if_neg (by decide), if_neg c]
  cases eachB m 0 1000000000 <;> rfl
@[simp] theorem newObj_22z {f : Fr} {pl0 : Array (Nat × Operand)} : Kern.newObj TT (.buildSlice 22 0 pl0) f = ob (fillL f.eval (placesA 7 pl0.toList) (repeatL [.int .i64 0, .int .i64 0, .bool false, .int .i64 0, .int .i64 0, .int .i64 0, .int .i64 0] 0)) fun c => some (.cells c none) :=
  newObj_buildSlice 22 0 pl0 und_22 size_82 zero_82 rfl
@[simp] theorem newObj_a24 {f : Fr} : Kern.newObj TT (.alloc 24) f = some (.cells [.int .i64 0, .slice none 0 0] none) := newObj_alloc 24 zero_24
end Go.Proofs.Ytjehpgflhgpalaa
namespace Go.Proofs.Ytjehpgflhgpalaa
open Go Kern
/-! Other numbers, another order, and a flow that is told as two -/
def toU (n b u : Int) : Int := if u < 0 then u else (u + b) % n
theorem toU_range {n b u : Int} (hn : 0 < n) (h : -1 ≤ u) : -1 ≤ toU n b u ∧ toU n b u < n := by
  unfold toU
  split
  · omega
  · have h1 := Int.emod_nonneg (u + b) (show n ≠ 0 by omega)
    have h2 := Int.emod_lt_of_pos (u + b) hn
    omega
theorem toU_back {n b u : Int} (hu : 0 ≤ u ∧ u < n) : ((u + b) % n - b) % n = u := by
  rw [Int.sub_emod, Int.emod_emod_of_dvd _ (Int.dvd_refl n), ← Int.sub_emod, Int.add_sub_cancel, Int.emod_eq_of_lt hu.1 hu.2]
theorem toU_inj {n b x y : Int} (hx : -1 ≤ x ∧ x < n) (hy : -1 ≤ y ∧ y < n) (h : toU n b x = toU n b y) : x = y := by
  unfold toU at h
  have e : ∀ u : Int, 0 ≤ u ∧ u < n → 0 ≤ (u + b) % n := fun u hu => Int.emod_nonneg _ (by omega)
  by_cases h1 : x < 0 <;> by_cases h2 : y < 0
  · omega
  · rw [if_pos h1, if_neg h2] at h
    have := e y (by omega)
    omega
  · rw [if_neg h1, if_pos h2] at h
    have := e x (by omega)
    omega
  · rw [if_neg h1, if_neg h2] at h
    have : ((x + b) % n - b) % n = ((y + b) % n - b) % n := by rw [h]
    rwa [toU_back (by omega), toU_back (by omega)] at this
theorem toU_sur {n b v : Int} (hv : 0 ≤ v ∧ v < n) : ∃ u : Int, (0 ≤ u ∧ u < n) ∧ toU n b u = v := by
  have h1 := Int.emod_nonneg (v - b) (show n ≠ 0 by omega)
  have h2 := Int.emod_lt_of_pos (v - b) (show 0 < n by omega)
  refine ⟨(v - b) % n, ⟨h1, h2⟩, ?_⟩
  unfold toU
  rw [if_neg (by omega), Int.add_emod, Int.emod_emod_of_dvd _ (Int.dvd_refl n), ← Int.add_emod, Int.sub_add_cancel, Int.emod_eq_of_lt hv.1 hv.2]
def renF (n b : Int) (f : FlowD) : FlowD := ⟨toU n b f.fr, toU n b f.to, f.me, f.m⟩
def turnL (n b : Int) (fs : List FlowD) : List FlowD := (fs.map (renF n b)).reverse
theorem turn_at {n b : Int} {fs : List FlowD} {j : Nat} {f : FlowD} (hf : fs[j]? = some f) : (turnL n b fs)[fs.length - 1 - j]? = some (renF n b f) := by
  have hlt := (List.getElem?_eq_some_iff.1 hf).1
  unfold turnL
  rw [List.getElem?_reverse (by rw [List.length_map]; omega), List.length_map, show fs.length - 1 - (fs.length - 1 - j) = j by omega, List.getElem?_map, hf]; rfl
theorem turn_get {n b : Int} {fs : List FlowD} {j : Nat} {g : FlowD} (hg : (turnL n b fs)[j]? = some g) : j < fs.length ∧ ∃ f, fs[fs.length - 1 - j]? = some f ∧ g = renF n b f := by
  have hlt : j < fs.length := by
    have := (List.getElem?_eq_some_iff.1 hg).1
    simpa [turnL] using this
  refine ⟨hlt, fs[fs.length - 1 - j], List.getElem?_eq_getElem (by omega), ?_⟩
  have := turn_at (n := n) (b := b) (List.getElem?_eq_getElem (l := fs) (i := fs.length - 1 - j) (by omega))
  rw [show fs.length - 1 - (fs.length - 1 - j) = j by omega, hg] at this
  cases this; rfl
theorem turn_len (n b : Int) (fs : List FlowD) : (turnL n b fs).length = fs.length := by simp [turnL]
theorem turn_path {n b : Int} {fs : List FlowD} {E E' : Nat → Prop} (hE : ∀ j, j < fs.length → E j → E' (fs.length - 1 - j)) {x y : Int} (h : Path fs E x y) : Path (turnL n b fs) E' (toU n b x) (toU n b y) := by
  induction h with
  | refl => exact .refl
  | step j f _ hj he hz ih =>
    refine .step (fs.length - 1 - j) (renF n b f) ih (turn_at hj) (hE j (List.getElem?_eq_some_iff.1 hj).1 he) ?_
    rcases hz with ⟨h1, h2⟩ | ⟨h1, h2⟩
    · exact .inl ⟨by rw [← h1]; rfl, by rw [← h2]; rfl⟩
    · exact .inr ⟨by rw [← h1]; rfl, by rw [← h2]; rfl⟩
theorem path_turn {n : Nat} {b : Int} {fs : List FlowD} {E E' : Nat → Prop} (hends : ∀ f ∈ fs, (-1 ≤ f.fr ∧ f.fr < n) ∧ (-1 ≤ f.to ∧ f.to < n)) (hE : ∀ j, j < fs.length → E' (fs.length - 1 - j) → E j) {x X Y : Int} (hx : -1 ≤ x ∧ x < n) (hX : X = toU n b x) (h : Path (turnL n b fs) E' X Y) : ∃ y : Int, (-1 ≤ y ∧ y < n) ∧ Y = toU n b y ∧ Path fs E x y := by
  induction h with
  | refl => exact ⟨x, hx, hX, .refl⟩
  | step j g _ hj he hz ih =>
    obtain ⟨y, hy, hY, hp⟩ := ih
    obtain ⟨hlt, f, hf, rfl⟩ := turn_get hj
    obtain ⟨a, c⟩ := hends f (List.mem_of_getElem? hf)
    have he' : E (fs.length - 1 - j) := hE _ (by omega) (by rw [show fs.length - 1 - (fs.length - 1 - j) = j by omega]; exact he)
    rcases hz with ⟨h1, h2⟩ | ⟨h1, h2⟩
    · have e : f.fr = y := toU_inj a hy (h1.trans hY)
      exact ⟨f.to, c, h2.symm, .step _ f hp hf he' (.inl ⟨e, rfl⟩)⟩
    · have e : f.to = y := toU_inj c hy (h2.trans hY)
      exact ⟨f.fr, a, h1.symm, .step _ f hp hf he' (.inr ⟨rfl, e⟩)⟩
theorem turn_unm {n b : Int} {fs : List FlowD} {j l : Nat} (hj : j < fs.length) (hl : l < fs.length) : Unm (turnL n b fs) ((fs.length - 1 - j : Nat) : Int) (fs.length - 1 - l) ↔ Unm fs j l := by
  unfold Unm
  constructor
  · rintro ⟨⟨g, hg, hm⟩, h⟩
    obtain ⟨_, f, hf, rfl⟩ := turn_get hg
    rw [show fs.length - 1 - (fs.length - 1 - l) = l by omega] at hf
    exact ⟨⟨f, hf, hm⟩, by omega⟩
  · rintro ⟨⟨f, hf, hm⟩, h⟩
    exact ⟨⟨_, turn_at hf, hm⟩, by omega⟩
theorem turn_st {n : Nat} {b : Int} {fs : List FlowD} (hends : ∀ f ∈ fs, (-1 ≤ f.fr ∧ f.fr < n) ∧ (-1 ≤ f.to ∧ f.to < n)) {j : Nat} {f : FlowD} (hf : fs[j]? = some f) : stB (turnL n b fs) (fs.length - 1 - j) (renF n b f) = stB fs j f := by
  have hlt := (List.getElem?_eq_some_iff.1 hf).1
  obtain ⟨a, c⟩ := hends f (List.mem_of_getElem? hf)
  have hiff : rtF ((fs.length - 1 - j : Nat) : Int) (turnL n b fs) 0 id (renF n b f).fr = rtF ((fs.length - 1 - j : Nat) : Int) (turnL n b fs) 0 id (renF n b f).to ↔ rtF j fs 0 id f.fr = rtF j fs 0 id f.to := by
    rw [rt_path_all, rt_path_all]
    constructor
    · intro h
      obtain ⟨y, hy, hY, hp⟩ := path_turn (E := Unm fs j) hends (fun l hl he => (turn_unm hlt hl).1 he) a rfl h
      have : f.to = y := toU_inj c hy hY
      rw [this]; exact hp
    · exact fun h => turn_path (fun l hl he => (turn_unm hlt hl).2 he) h
  unfold stB
  by_cases hm : f.me = true
  · rw [if_pos hm, if_pos (show (renF n b f).me = true from hm)]
  · rw [if_neg hm, if_neg (show ¬ (renF n b f).me = true from hm)]
    by_cases h : rtF j fs 0 id f.fr = rtF j fs 0 id f.to
    · rw [if_pos h, if_pos (hiff.2 h)]
    · rw [if_neg h, if_neg fun e => h (hiff.1 e)]
theorem sumN_rev (h : Nat → Mass) : ∀ k, sumN (fun j => h (k - 1 - j)) k = sumN h k
  | 0 => rfl
  | k + 1 => by
    have h1 := sumN_split (fun j => h (k + 1 - 1 - j)) 1 k
    rw [Nat.add_comm 1 k] at h1
    rw [h1]
    have h2 : sumN (fun j => h (k + 1 - 1 - (1 + j))) k = sumN (fun j => h (k - 1 - j)) k := sumN_congr fun j hj => by rw [show k + 1 - 1 - (1 + j) = k - 1 - j by omega]
    rw [h2, sumN_rev h k]
    show (Mass.zero.add (h (k + 1 - 1 - 0))).add (sumN h k) = (sumN h k).add (h k)
    rw [Mass.zero_add, Mass.add_comm]; rfl
theorem turn_bal {n : Nat} {b : Int} {fs : List FlowD} {R : Nat → Mass} (hn : 0 < n) (hends : ∀ f ∈ fs, (-1 ≤ f.fr ∧ f.fr < n) ∧ (-1 ≤ f.to ∧ f.to < n)) (hb : BalF fs n R) : BalF (turnL n b fs) n fun j => R (fs.length - 1 - j) := by
  constructor
  · intro j g hj hg
    obtain ⟨_, f, hf, rfl⟩ := turn_get hj
    exact hb.meas _ f hf hg
  · intro v hv
    obtain ⟨u, hu, hvu⟩ := toU_sur (n := n) (b := b) (v := v) (by omega)
    obtain ⟨u, rfl⟩ : ∃ w : Nat, u = w := ⟨u.toNat, by omega⟩
    refine Eq.trans ?_ (hb.nets u (by omega))
    rw [turn_len, ← sumN_rev]
    refine sumN_congr fun j hj => ?_
    have hlt : fs.length - 1 - (fs.length - 1 - j) = j := by omega
    have hf : fs[j]? = some fs[j] := List.getElem?_eq_getElem hj
    obtain ⟨a, c⟩ := hends _ (List.getElem_mem hj)
    rw [turn_at hf, hf]
    simp only [hlt]
    unfold brings
    have e1 : (renF n b fs[j]).to = v ↔ fs[j].to = u := ⟨fun h => toU_inj c (by omega) (h.trans hvu.symm), fun h => by show toU n b fs[j].to = v; rw [h, hvu]⟩
    have e2 : (renF n b fs[j]).fr = v ↔ fs[j].fr = u := ⟨fun h => toU_inj a (by omega) (h.trans hvu.symm), fun h => by show toU n b fs[j].fr = v; rw [h, hvu]⟩
    simp only [e1, e2]
theorem turn_check {n : Nat} {b : Int} {fs : List FlowD} (hck : checkErr n fs = 0) : checkErr n (turnL n b fs) = 0 := by
  obtain ⟨h1, h2, h3, h4⟩ := checkErr_ok hck
  refine checkErr_mk h1 h2 (by rw [turn_len]; exact h3) fun g hg => ?_
  obtain ⟨j, hj⟩ := List.getElem?_of_mem hg
  obtain ⟨_, f, hf, rfl⟩ := turn_get hj
  have hm := List.mem_of_getElem? hf
  obtain ⟨a, c⟩ := ends_in hck f hm
  obtain ⟨_, _, hne, hE⟩ := flowErr_ok (h4 f hm)
  exact flowErr_mk (f := renF n b f) (toU_range (by omega) a.1) (toU_range (by omega) c.1) (fun e => hne (toU_inj a c e)) hE
/-- What is known in the other order, with other numbers. -/
theorem turn_known {n : Nat} {b : Int} {fs : List FlowD} {R : Nat → Mass} (hn : 0 < n) (hck : checkErr n fs = 0) (hb : BalF fs n R) {j : Nat} (hj : j < fs.length) : closeF (turnL n b fs) n (fs.length - 1 - j) = closeF fs n j := by
  have hf : fs[j]? = some fs[j] := List.getElem?_eq_getElem hj
  have hb2 := turn_bal (b := b) hn (ends_in hck) hb
  rw [closeF_bal (turn_check hck) hb2, closeF_bal hck hb, knB_at hb2 (turn_at hf), knB_at hb hf, turn_st (ends_in hck) hf, show fs.length - 1 - (fs.length - 1 - j) = j by omega]
theorem brings_add (f : FlowD) (v : Int) (m p : Mass) : brings f v (m.add p) = (brings f v m).add (brings f v p) := by
  unfold brings
  split
  · rfl
  · split
    · apply Mass.ext' <;> simp [Mass.add, Mass.sub, Mass.zero] <;> omega
    · exact (Mass.add_zero _).symm
def twoL (fs : List FlowD) (i : Nat) (f : FlowD) (m1 m2 : Mass) : List FlowD := fs.set i (meas f m1) ++ [meas f m2]
section
variable {fs : List FlowD} {n i : Nat} {f : FlowD} {m1 m2 : Mass}
theorem two_len : (twoL fs i f m1 m2).length = fs.length + 1 := by simp [twoL]
theorem two_own (hf : fs[i]? = some f) : (twoL fs i f m1 m2)[i]? = some (meas f m1) := by
  have hlt := (List.getElem?_eq_some_iff.1 hf).1
  unfold twoL
  rw [List.getElem?_append_left (by rw [List.length_set]; exact hlt), set_at hf]
theorem two_ne {j : Nat} (h : j ≠ i) (hj : j < fs.length) : (twoL fs i f m1 m2)[j]? = fs[j]? := by
  unfold twoL
  rw [List.getElem?_append_left (by rw [List.length_set]; exact hj), set_ne h]
theorem two_last : (twoL fs i f m1 m2)[fs.length]? = some (meas f m2) := by
  unfold twoL
  rw [List.getElem?_append_right (by rw [List.length_set]; omega), List.length_set]; simp
theorem two_unm (hf : fs[i]? = some f) (hm : f.me = true) {lo : Int} {l : Nat} : Unm (twoL fs i f m1 m2) lo l ↔ Unm fs lo l := by
  unfold Unm
  constructor
  · rintro ⟨⟨g, hg, hgm⟩, h⟩
    have hlt := (List.getElem?_eq_some_iff.1 hg).1
    rw [two_len] at hlt
    by_cases e : l = i
    · subst e; rw [two_own hf] at hg; cases hg; cases hgm
    · by_cases e2 : l = fs.length
      · subst e2; rw [two_last] at hg; cases hg; cases hgm
      · rw [two_ne e (by omega)] at hg
        exact ⟨⟨g, hg, hgm⟩, h⟩
  · rintro ⟨⟨g, hg, hgm⟩, h⟩
    have hlt := (List.getElem?_eq_some_iff.1 hg).1
    have e : l ≠ i := fun e => by subst e; rw [hf] at hg; cases hg; rw [hm] at hgm; cases hgm
    exact ⟨⟨g, by rw [two_ne e hlt]; exact hg, hgm⟩, h⟩
theorem two_path (hf : fs[i]? = some f) (hm : f.me = true) {lo x y : Int} : Path (twoL fs i f m1 m2) (Unm (twoL fs i f m1 m2) lo) x y ↔ Path fs (Unm fs lo) x y := by
  have key : ∀ l g, Unm fs lo l → ((twoL fs i f m1 m2)[l]? = some g ↔ fs[l]? = some g) := fun l g hu => by
    obtain ⟨⟨g', hg', hgm⟩, _⟩ := hu
    have hlt := (List.getElem?_eq_some_iff.1 hg').1
    have e : l ≠ i := fun e => by subst e; rw [hf] at hg'; cases hg'; rw [hm] at hgm; cases hgm
    rw [two_ne e hlt]
  constructor
  · intro h
    induction h with
    | refl => exact .refl
    | step l g _ hj he hz ih =>
      have he' := (two_unm hf hm).1 he
      exact .step l g ih ((key l g he').1 hj) he' hz
  · intro h
    induction h with
    | refl => exact .refl
    | step l g _ hj he hz ih => exact .step l g ih ((key l g he).2 hj) ((two_unm hf hm).2 he) hz
theorem two_bal {R : Nat → Mass} (hb : BalF fs n R) (hf : fs[i]? = some f) (hm : f.me = true) (hmm : f.m = m1.add m2) : BalF (twoL fs i f m1 m2) n fun j => if j = i then m1 else if j = fs.length then m2 else R j := by
  have hil := (List.getElem?_eq_some_iff.1 hf).1
  constructor
  · intro j g hj hg
    have hlt := (List.getElem?_eq_some_iff.1 hj).1
    rw [two_len] at hlt
    by_cases e : j = i
    · subst e; rw [two_own hf] at hj; cases hj; simp [meas]
    · by_cases e2 : j = fs.length
      · subst e2; rw [two_last] at hj; cases hj; simp [e, meas]
      · rw [two_ne e (by omega)] at hj
        simp only [e, e2, if_false]
        exact hb.meas j g hj hg
  · intro u hu
    rw [two_len]
    have h0 := hb.nets u hu
    have hg : ∀ j, j < fs.length → (match fs[j]? with | some g => brings g u (R j) | none => Mass.zero) = (match (twoL fs i f m1 m2)[j]? with | some g => brings g u (if j = i then m1 else if j = fs.length then m2 else R j) | none => Mass.zero).add (if j = i then brings f u m2 else Mass.zero) := fun j hj => by
      by_cases e : j = i
      · subst e
        rw [hf, two_own hf]
        simp only [if_true]
        rw [hb.meas j f hf hm, hmm, brings_add]; rfl
      · rw [two_ne e hj]
        simp only [e, if_false, show ¬ j = fs.length by omega, Mass.add_zero]
    have h1 := (sumN_congr hg).symm.trans h0
    rw [sumN_add, sumN_one (i := i) hil (fun j _ hji => if_neg hji), if_pos rfl] at h1
    refine Eq.trans ?_ h1
    show (sumN _ fs.length).add _ = _
    have hlast : (match (twoL fs i f m1 m2)[fs.length]? with | some g => brings g u (if fs.length = i then m1 else if fs.length = fs.length then m2 else R fs.length) | none => Mass.zero) = brings f u m2 := by
      rw [two_last]
      simp only [show ¬ fs.length = i by omega, if_false, if_true]
      rfl
    have h3 : ∀ {a b c d : Mass}, a = c → b = d → a.add b = c.add d := fun e1 e2 => by rw [e1, e2]
    exact h3 rfl hlast
theorem two_st (hf : fs[i]? = some f) (hm : f.me = true) {j : Nat} {g : FlowD} : stB (twoL fs i f m1 m2) j g = stB fs j g := by
  have hiff : rtF j (twoL fs i f m1 m2) 0 id g.fr = rtF j (twoL fs i f m1 m2) 0 id g.to ↔ rtF j fs 0 id g.fr = rtF j fs 0 id g.to := by
    rw [rt_path_all, rt_path_all]; exact two_path hf hm
  unfold stB
  by_cases h : rtF j fs 0 id g.fr = rtF j fs 0 id g.to
  · rw [if_pos h, if_pos (hiff.2 h)]
  · rw [if_neg h, if_neg fun e => h (hiff.1 e)]
theorem two_known {R : Nat → Mass} (hck : checkErr n fs = 0) (hck2 : checkErr n (twoL fs i f m1 m2) = 0) (hb : BalF fs n R) (hf : fs[i]? = some f) (hm : f.me = true) (hmm : f.m = m1.add m2) {j : Nat} (hj : j < fs.length) (hji : j ≠ i) : closeF (twoL fs i f m1 m2) n j = closeF fs n j := by
  have hg : fs[j]? = some fs[j] := List.getElem?_eq_getElem hj
  have hb2 := two_bal hb hf hm hmm
  rw [closeF_bal hck2 hb2, closeF_bal hck hb, knB_at hb2 ((two_ne hji hj).trans hg), knB_at hb hg, two_st hf hm]
  simp only [hji, if_false, show ¬ j = fs.length by omega]
end
end Go.Proofs.Ytjehpgflhgpalaa
namespace Go.Proofs.Ytjehpgflhgpalaa
open Go Kern
set_option maxRecDepth 100000 in
set_option maxHeartbeats 1000000 in
theorem toU_ev (n : Nat) (b u : Int) (a p : Nat) (w : Value) (s : St) (hn : 0 < n ∧ n ≤ 8) (hb : 0 ≤ b ∧ b < 256) (hu : -1 ≤ u ∧ u < n) (ha : a < s.next) (hp : p < s.next) (hga : s.heap.get a = some (.cells [.int .u8 b] none)) (hgp : s.heap.get p = some (.cells [.int .i64 n, w] none)) :
    Ev TT 36 [.int .i64 u, .pointer (some ⟨a, 0, none⟩), .pointer (some ⟨p, 0, none⟩)] s fun r s' => r = .int .i64 (toU n b u) ∧ Keep s s' := by
  refine Ev.intro (fn := Try.f36) rfl (by kernel_rfl) rfl rfl ?_
  apply zz
  refine Cd.ra (h := ?_)
  apply Run.by_eq
  · intro self
    conv => lhs; simp -implicitDefEqProofs (maxSteps := 300000) (disch := omega) [-getElem?_pos, -getElem?_neg]
  try (with_reducible refine Run.ret ?_)
  apply zz
  by_cases h : u < 0
  · apply zz
    refine Cd.ra (h := ?_)
    apply Run.by_eq
    · intro self
      conv => lhs; simp -implicitDefEqProofs (maxSteps := 300000) (disch := omega) [-getElem?_pos, -getElem?_neg, h]
    try (with_reducible refine Run.ret ?_)
    apply zz
    apply Cd.ite rfl
    · conv => lhs; simp -implicitDefEqProofs (maxSteps := 300000) (disch := omega) [-getElem?_pos, -getElem?_neg]
    all_goals intro c0
    all_goals try (cases c0; done)
    all_goals try simp only [Bool.not_eq_true', Bool.not_eq_false', decide_eq_true_eq, decide_eq_false_iff_not] at c0
    all_goals apply zz
    apply zz
    refine Cd.ra (h := ?_)
    apply Run.by_eq
    · intro self
      conv => lhs; simp -implicitDefEqProofs (maxSteps := 300000) (disch := omega) [-getElem?_pos, -getElem?_neg]
    try (with_reducible refine Run.ret ?_)
    apply zz
    apply Leave.mk (by first | exact .inl rfl | exact .inr rfl) (by simp only [Fr.marks_put, fr0_marks])
    · conv => lhs; simp -implicitDefEqProofs (disch := omega) [Try.results36]
    exact ⟨by unfold toU; rw [if_pos h]; rfl, Keep.refl _⟩
  · have hr := intOp_rem .i64 (u + b) n (by omega) (by omega)
    apply zz
    refine Cd.ra (h := ?_)
    apply Run.by_eq
    · intro self
      conv => lhs; simp -implicitDefEqProofs (maxSteps := 300000) (disch := omega) [-getElem?_pos, -getElem?_neg, h]
    try (with_reducible refine Run.ret ?_)
    apply zz
    apply Cd.ite rfl
    · conv => lhs; simp -implicitDefEqProofs (maxSteps := 300000) (disch := omega) [-getElem?_pos, -getElem?_neg]
    all_goals intro c0
    all_goals try (cases c0; done)
    all_goals try simp only [Bool.not_eq_true', Bool.not_eq_false', decide_eq_true_eq, decide_eq_false_iff_not] at c0
    all_goals apply zz
    apply zz
    refine Cd.ra (h := ?_)
    apply Run.by_eq
    · intro self
      conv => lhs; simp -implicitDefEqProofs (maxSteps := 300000) (disch := omega) [-getElem?_pos, -getElem?_neg, hga, hgp, hr]
    try (with_reducible refine Run.ret ?_)
    apply zz
    apply Leave.mk (by first | exact .inl rfl | exact .inr rfl) (by simp only [Fr.marks_put, fr0_marks])
    · conv => lhs; simp -implicitDefEqProofs (disch := omega) [Try.results36]
    exact ⟨by unfold toU; rw [if_neg h]; rfl, Keep.refl _⟩
theorem veq_fn36 (x y : Nat) : veq 5 (Value.func (.func 36) #[] #[.pointer (some ⟨x, 0, none⟩), .pointer (some ⟨y, 0, none⟩)]) (Value.func (.func 36) #[] #[.pointer (some ⟨x, 0, none⟩), .pointer (some ⟨y, 0, none⟩)]) = true := by
  show (decide (Fn.func 36 = Fn.func 36) && listEq (veq 4) [] [] && listEq (veq 4) [_, _] [_, _]) = true
  simp [veq_ptr]
theorem set_self_meas {fs : List FlowD} {i : Nat} {f : FlowD} (hf : fs[i]? = some f) (hm : f.me = true) : fs.set i (meas f f.m) = fs := by
  have : meas f f.m = f := by
    cases f
    simp only at hm
    subst hm; rfl
  rw [this]
  apply List.ext_getElem?
  intro j
  by_cases e : j = i
  · subst e; rw [set_at hf, hf]
  · rw [set_ne e]
def partM (m : Mass) (q : Int) : Mass := ⟨m.a * q / 5, m.b * q / 5, m.c * q / 5, m.d * q / 5⟩
theorem partM_at (m : Mass) (q : Int) {k : Nat} (hk : k < 4) : (partM m q).at k = m.at k * q / 5 := by
  match k, hk with
  | 0, _ => rfl
  | 1, _ => rfl
  | 2, _ => rfl
  | 3, _ => rfl
theorem Mass.sub_at (m p : Mass) {k : Nat} (hk : k < 4) : (m.sub p).at k = m.at k - p.at k := by
  match k, hk with
  | 0, _ => rfl
  | 1, _ => rfl
  | 2, _ => rfl
  | 3, _ => rfl
theorem part_le {x q : Int} (hx : 0 ≤ x) (hq : 0 ≤ q ∧ q < 5) : 0 ≤ x * q / 5 ∧ x * q / 5 ≤ x := by
  have h0 : 0 ≤ x * q := Int.mul_nonneg hx hq.1
  have h1 : x * q ≤ x * 5 := Int.mul_le_mul_of_nonneg_left (by omega) hx
  omega
theorem Mass.sub_add_same (m p : Mass) : m = (m.sub p).add p := by apply Mass.ext' <;> simp [Mass.add, Mass.sub]
set_option maxRecDepth 100000 in
set_option maxHeartbeats 4000000 in
theorem lawO_ev (U K b sp pt : Int) (ve vm : Value) (es : List (Int × Int)) (ms : List Int) (s : St) (hU : 0 ≤ U ∧ U < 256) (hbb : 0 ≤ b ∧ b < 256) (hsp : 0 ≤ sp ∧ sp < 256) (hpt : 0 ≤ pt ∧ pt < 256) (hes : EndsAt s ve es) (hms : BytesAt s vm ms) (hbe : ∀ e ∈ es, (0 ≤ e.1 ∧ e.1 < 256) ∧ (0 ≤ e.2 ∧ e.2 < 256)) (hbm : ∀ x ∈ ms, 0 ≤ x ∧ x < 256) :
    Ev TT 11 [millV U ve vm K, .int .u8 b, .int .u8 sp, .int .u8 pt] s fun r _ => r = .bool true := by
  obtain ⟨ae, ce, rfl⟩ := hes.shape
  obtain ⟨am, cm, rfl⟩ := hms.shape
  rw [List.length_map] at hes hms ⊢
  rw [List.length_map]
  unfold millV
  refine Ev.intro (fn := Try.f11) rfl (by kernel_rfl) rfl rfl ?_
  apply zz
  refine Cd.ra (h := ?_)
  apply Run.by_eq
  · intro self
    conv => lhs; simp -implicitDefEqProofs (maxSteps := 300000) (disch := omega) [-getElem?_pos, -getElem?_neg]
  try (with_reducible refine Run.ret ?_)
  apply zz
  refine Cd.ra (h := ?_)
  apply Run.by_eq
  · intro self
    conv => lhs; simp -implicitDefEqProofs (maxSteps := 300000) (disch := omega) [-getElem?_pos, -getElem?_neg]
  try (with_reducible refine Run.ret ?_)
  apply zz
  refine Run.call ((made_ev U K _ _ es ms _ hU (hes.keep ⟨by (try simp only [pushed_next', upded_next']); omega, fun i hi => by simp -implicitDefEqProofs (disch := omega) []⟩) (hms.keep ⟨by (try simp only [pushed_next', upded_next']); omega, fun i hi => by simp -implicitDefEqProofs (disch := omega) []⟩) hbe hbm).mono fun r w1 hv => ?_)
  obtain ⟨k1, n, wf, wr, hn, hn1, hn4, rfl, hOF, -⟩ := hv
  have k1a := k1.1
  have k1b := k1.2
  try simp only [pushed_next', upded_next'] at k1a k1b
  have hck := mill_check (K := K) (es := es) hn1 hn4 hbm
  have hsm := mill_small (K := K) (es := es) hn1 hbm
  have hbal := mill_bal (K := K) (ms := ms) (es := es) hn1
  have hRl := fun j => realF_le (n := n) (es := es) hbm j
  have hlen := millFs_length n K ms es
  have hM6 := millN_le es
  generalize millFs n K ms es = fs at hOF hck hsm hbal hlen
  generalize realF n ms es = R at hbal hRl
  generalize millN es = M at hlen hM6
  rcases hOF with ⟨e, _⟩ | ⟨bw, rfl, _, hb1, hb2, hb3⟩
  · rw [List.map_eq_nil_iff] at e; rw [e] at hlen; simp at hlen; omega
  rw [List.length_map, hlen]
  try simp only [pushed_next', upded_next'] at hb1
  change w1.heap.get bw = some (.cells (flatF fs) (some 7)) at hb3
  have hB0 : w1.heap.get (s.next + 1) = some (.cells [.int .u8 b] none) := by rw [k1b _ (by omega)]; simp -implicitDefEqProofs (disch := omega)
  have hce := bal_close hck hbal
  have hks := closeKs_bal hck hbal
  have hcl := closeF_bal hck hbal
  have hlg : fs.length ≤ 1000 := by omega
  have hlM : M + n ≤ 10 := by omega
  obtain ⟨i, hi⟩ : ∃ i : Nat, sp % (((M + n : Nat) : Int)) = i := ⟨(sp % (((M + n : Nat) : Int))).toNat, by
    have := Int.emod_nonneg sp (show ((M + n : Nat) : Int) ≠ 0 by omega)
    omega⟩
  have hil : i < M + n := by
    have := Int.emod_lt_of_pos sp (show 0 < ((M + n : Nat) : Int) by omega)
    omega
  have hri := intOp_rem .i64 sp ((M + n : Nat) : Int) (by omega) (by omega)
  rw [hi] at hri
  push_cast at hri
  obtain ⟨f, hf⟩ : ∃ f, fs[i]? = some f := ⟨fs[i], by simp [hlen, hil]⟩
  have hq := takeL_at (flow_get hf) (i := 2) (by omega)
  rw [List.getElem?_drop] at hq
  change (flatF fs)[i * 7 + 2]? = some (.bool f.me) at hq
  apply Run.by_eq
  · intro self
    conv => lhs; simp -implicitDefEqProofs (maxSteps := 300000) (disch := omega) [-getElem?_pos, -getElem?_neg, plantV]
  try (with_reducible refine Run.ret ?_)
  apply zz
  refine Cd.ra (h := ?_)
  apply Run.by_eq
  · intro self
    conv => lhs; simp -implicitDefEqProofs (maxSteps := 300000) (disch := omega) [-getElem?_pos, -getElem?_neg]
  try (with_reducible refine Run.ret ?_)
  apply zz
  refine Run.call ((close_ev n _ fs _ (fl_of_flat (o := some 7) (b := bw) (by (try simp only [pushed_next', upded_next']); omega) hlen (by simp -implicitDefEqProofs (disch := omega) [hb3])) (by omega)).mono fun r w2 hv => ?_)
  obtain ⟨k2, wk, rfl, hK⟩ := hv
  have k2a := k2.1
  have k2b := k2.2
  try simp only [pushed_next', upded_next'] at k2a k2b
  rw [hce]
  rw [hks, hlen] at hK
  have P2 : w2.heap.get w1.next = some (.cells [.int .i64 n, .slice (some ⟨bw, 0, none⟩) (M + n) (M + n)] none) := by rw [k2b _ (by omega)]; simp -implicitDefEqProofs (disch := omega)
  have F2 : w2.heap.get bw = some (.cells (flatF fs) (some 7)) := by rw [k2b _ (by omega)]; simp -implicitDefEqProofs (disch := omega) [hb3]
  have B2 : w2.heap.get (s.next + 1) = some (.cells [.int .u8 b] none) := by rw [k2b _ (by omega)]; simp -implicitDefEqProofs (disch := omega) [hB0]
  obtain ⟨ak, ck, rfl⟩ := hK.shape
  rw [List.length_map, List.length_map, List.length_range] at hK ⊢
  have hw12 : w1.next < w2.next := by omega
  have hbw2 : bw < w1.next := hb2
  have hsn : s.next + 1 < w1.next := by omega
  clear hb3 hB0 k1b k2b k1 k2 hes hms
  apply Run.by_eq
  · intro self
    conv => lhs; simp -implicitDefEqProofs (maxSteps := 300000) (disch := omega) [-getElem?_pos, -getElem?_neg]
  try (with_reducible refine Run.ret ?_)
  apply zz
  refine Cd.ra (h := ?_)
  apply Run.by_eq
  · intro self
    conv => lhs; simp -implicitDefEqProofs (maxSteps := 300000) (disch := omega) [-getElem?_pos, -getElem?_neg, P2]
  try (with_reducible refine Run.ret ?_)
  apply zz
  apply Cd.ite rfl
  · conv => lhs; simp -implicitDefEqProofs (maxSteps := 300000) (disch := omega) [-getElem?_pos, -getElem?_neg]
  all_goals intro c0
  all_goals try (cases c0; done)
  all_goals try simp only [Bool.not_eq_true', Bool.not_eq_false', decide_eq_true_eq, decide_eq_false_iff_not] at c0
  all_goals apply zz
  apply zz
  refine Cd.ra (h := ?_)
  apply Run.by_eq
  · intro self
    conv => lhs; simp -implicitDefEqProofs (maxSteps := 300000) (disch := omega) [-getElem?_pos, -getElem?_neg]
  try (with_reducible refine Run.ret ?_)
  apply zz
  refine Cd.ra (h := ?_)
  apply Run.by_eq
  · intro self
    conv => lhs; simp -implicitDefEqProofs (maxSteps := 300000) (disch := omega) [-getElem?_pos, -getElem?_neg, P2]
  try (with_reducible refine Run.ret ?_)
  apply zz
  refine Cd.ra (h := ?_)
  apply Run.by_eq
  · intro self
    conv => lhs; simp -implicitDefEqProofs (maxSteps := 300000) (disch := omega) [-getElem?_pos, -getElem?_neg, P2]
  try (with_reducible refine Run.ret ?_)
  apply zz
  have hends := ends_in hck
  have htl := turn_len n b fs
  have htg := fun (j : Nat) (g : FlowD) (hg : fs[j]? = some g) => turn_at (n := n) (b := b) hg
  refine Cd.mono (Q := fun x f2 s2 => x = Ex.exit 0 ∧ ∃ wq : Value, f2.marks = [] ∧ f2.get 2 = .int .u8 sp ∧ f2.get 3 = .int .u8 pt ∧ f2.get 9 = .pointer (some ⟨w1.next, 0, none⟩) ∧ f2.get 11 = .slice ak (M + n) ck ∧ f2.get 14 = .pointer (some ⟨w2.next, 0, none⟩) ∧ Keep w2 s2 ∧ w2.next < s2.next ∧ s2.heap.get w2.next = some (.cells [.int .i64 n, wq] none) ∧ OwnG 7 (w2.next + 1) s2 wq ((turnL n b fs).map FlowD.cs)) (Cd.inv (fun z f2 s2 => ∃ (j : Nat) (wq : Value), j ≤ M + n ∧ z = M + n - j ∧ f2.marks = [] ∧ f2.get 2 = .int .u8 sp ∧ f2.get 3 = .int .u8 pt ∧ f2.get 9 = .pointer (some ⟨w1.next, 0, none⟩) ∧ f2.get 11 = .slice ak (M + n) ck ∧ f2.get 13 = .func (.func 36) #[] #[.pointer (some ⟨s.next + 1, 0, none⟩), .pointer (some ⟨w1.next, 0, none⟩)] ∧ f2.get 14 = .pointer (some ⟨w2.next, 0, none⟩) ∧ f2.get 51 = .int .i64 ((M + n : Nat) : Int) ∧ f2.get 52 = .int .i64 j ∧ Keep w2 s2 ∧ w2.next < s2.next ∧ s2.heap.get w2.next = some (.cells [.int .i64 n, wq] none) ∧ OwnG 7 (w2.next + 1) s2 wq (((turnL n b fs).take j).map FlowD.cs)) (M + n) ?_ ?_) ?_
  · exact ⟨0, .slice none 0 0, by omega, rfl, by simp, by simp, by simp, by simp, by simp, by simp, by simp, by simp, by simp, ⟨by (try simp only [pushed_next', upded_next']); omega, fun i hi => by simp -implicitDefEqProofs (disch := omega) []⟩, by simp, by simp -implicitDefEqProofs (disch := omega), .inl ⟨rfl, rfl⟩⟩
  · rintro z f2 s2 ⟨j, wq, hj, rfl, hm2, h2, h3, h9, h11, h13, h14, h51, h52, hkp, hnx, hgq, hO⟩
    have hkpa := hkp.1
    have hkpb := hkp.2
    have P3 := (hkpb _ hw12).trans P2
    have F3 := (hkpb bw (by omega)).trans F2
    have B3 := (hkpb (s.next + 1) (by omega)).trans B2
    by_cases hlt : j < M + n
    · obtain ⟨g, hg⟩ : ∃ g, fs[M + n - 1 - j]? = some g := ⟨fs[M + n - 1 - j], by simp [hlen, show M + n - 1 - j < M + n by omega]⟩
      have htj := htg _ g hg
      rw [hlen, show M + n - 1 - (M + n - 1 - j) = j by omega] at htj
      have htk : (turnL n b fs).take (j + 1) = (turnL n b fs).take j ++ [renF n b g] := by rw [List.take_add_one, htj]; rfl
      have hTl : (((turnL n b fs).take j).map FlowD.cs).length = j := by rw [List.length_map, List.length_take, htl, hlen]; omega
      obtain ⟨V1, V2⟩ := hends g (List.mem_of_getElem? hg)
      have hgt := flow_get hg
      have hx : ((M + n : Nat) : Int) - 1 - j = ((M + n - 1 - j : Nat) : Int) := by omega
      push_cast at hx
      have hxl : M + n - 1 - j < M + n := by omega
      generalize M + n - 1 - j = x at hgt hx hxl
      obtain ⟨g0, g1, gm, m⟩ := g
      rw [FlowD.cs] at hgt
      simp only [] at hgt V1 V2
      apply zz
      refine Cd.ra (h := ?_)
      apply Run.by_eq
      · intro self
        conv => lhs; simp -implicitDefEqProofs (maxSteps := 300000) (disch := omega) [-getElem?_pos, -getElem?_neg, h52, h51]
      try (with_reducible refine Run.ret ?_)
      apply zz
      apply Cd.ite rfl
      · conv => lhs; simp -implicitDefEqProofs (maxSteps := 300000) (disch := omega) [-getElem?_pos, -getElem?_neg]
      all_goals intro c1
      all_goals try (cases c1; done)
      all_goals try simp only [Bool.not_eq_true', Bool.not_eq_false', decide_eq_true_eq, decide_eq_false_iff_not] at c1
      all_goals apply zz
      · apply zz
        refine Cd.ra (h := ?_)
        apply Run.by_eq
        · intro self
          conv => lhs; simp -implicitDefEqProofs (maxSteps := 300000) (disch := omega) [-getElem?_pos, -getElem?_neg, h52]
        try (with_reducible refine Run.ret ?_)
        apply zz
        refine Cd.ra (h := ?_)
        apply Run.by_eq
        · intro self
          conv => lhs; simp -implicitDefEqProofs (maxSteps := 300000) (disch := omega) [-getElem?_pos, -getElem?_neg, h9, P3, h52, hx, hxl, F3, hgt]
        try (with_reducible refine Run.ret ?_)
        apply zz
        refine Cd.drawn (pl := [(0, 0, false, false), (1, 0, false, false), (2, 2, false, false), (4, 0, false, false), (5, 0, false, false), (6, 32, false, false), (3, 7, true, false), (8, 111, false, false), (7, 127, true, false), (9, 511, true, false), (10, 1023, false, false), (11, 2047, true, false)]) (by kernel_rfl) (by conv => lhs; simp only [List.map_cons, List.map_nil]) (by conv => lhs; simp [strip, ordered]) ?_
        apply Run.by_eq
        · intro self
          conv => lhs; simp -implicitDefEqProofs (maxSteps := 300000) (disch := omega) [filter_bt, (show ∀ i, Nat.testBit 7 i = decide (i < 3) from fun i => Nat.testBit_two_pow_sub_one 3 i), (show ∀ i, Nat.testBit 127 i = decide (i < 7) from fun i => Nat.testBit_two_pow_sub_one 7 i), (show ∀ i, Nat.testBit 511 i = decide (i < 9) from fun i => Nat.testBit_two_pow_sub_one 9 i), (show ∀ i, Nat.testBit 2047 i = decide (i < 11) from fun i => Nat.testBit_two_pow_sub_one 11 i), -getElem?_pos, -getElem?_neg, h13, veq_fn36]
        try (with_reducible refine Run.ret ?_)
        apply zz
        refine Run.call ((toU_ev n b g0 (s.next + 1) w1.next (.slice (some ⟨bw, 0, none⟩) (M + n) (M + n)) _ (by omega) hbb V1 (by (try simp only [pushed_next', upded_next']); omega) (by (try simp only [pushed_next', upded_next']); omega) (by simp -implicitDefEqProofs (disch := omega) [B3]) (by simp -implicitDefEqProofs (disch := omega) [P3])).mono fun v wy hv => ?_)
        obtain ⟨rfl, y⟩ := hv
        have ya := y.1
        have yb := y.2
        try simp only [pushed_next', upded_next'] at ya yb
        apply Run.by_eq
        · intro self
          conv => lhs; simp -implicitDefEqProofs (maxSteps := 300000) (disch := omega) [-getElem?_pos, -getElem?_neg, h13, yb, veq_fn36]
        try (with_reducible refine Run.ret ?_)
        apply zz
        refine Run.call ((toU_ev n b g1 (s.next + 1) w1.next (.slice (some ⟨bw, 0, none⟩) (M + n) (M + n)) _ (by omega) hbb V2 (by (try simp only [pushed_next', upded_next']); omega) (by (try simp only [pushed_next', upded_next']); omega) (by simp -implicitDefEqProofs (disch := omega) [yb, B3]) (by simp -implicitDefEqProofs (disch := omega) [yb, P3])).mono fun v wz hv => ?_)
        obtain ⟨rfl, z⟩ := hv
        have za := z.1
        have zb := z.2
        try simp only [pushed_next', upded_next'] at za zb
        apply Run.by_eq
        · intro self
          conv => lhs; simp -implicitDefEqProofs (maxSteps := 300000) (disch := omega) [-getElem?_pos, -getElem?_neg, h13, yb, zb, veq_fn36]
        try (with_reducible refine Run.ret ?_)
        apply zz
        have hren : (renF n b ⟨g0, g1, gm, m⟩).cs = [.int .i64 (toU n b g0), .int .i64 (toU n b g1), .bool gm, .int .i64 m.a, .int .i64 m.b, .int .i64 m.c, .int .i64 m.d] := rfl
        have hfl := flat_len (flows_len ((turnL n b fs).take j))
        rw [hTl] at hfl
        have hS : ((turnL n b fs).take (j + 1)).map FlowD.cs = ((turnL n b fs).take j).map FlowD.cs ++ [[.int .i64 (toU n b g0), .int .i64 (toU n b g1), .bool gm, .int .i64 m.a, .int .i64 m.b, .int .i64 m.c, .int .i64 m.d]] := by
          rw [htk, List.map_append, List.map_cons, List.map_nil, hren]
        generalize ((turnL n b fs).take j).map FlowD.cs = L at hO hTl hfl hS
        rcases hO with ⟨e, rfl⟩ | ⟨bu, rfl, hne, hu1, hu2, hu3⟩
        · have hj0 : j = 0 := by rw [← hTl, e]; rfl
          subst hj0
          apply zz
          refine Cd.ra (h := ?_)
          apply Run.by_eq
          · intro self
            conv => lhs; simp -implicitDefEqProofs (maxSteps := 300000) (disch := omega) [-getElem?_pos, -getElem?_neg, h14, yb, zb, hgq]
          try (with_reducible refine Run.ret ?_)
          apply zz
          refine Cd.ra (h := ?_)
          apply Run.by_eq
          · intro self
            conv => lhs; simp -implicitDefEqProofs (maxSteps := 300000) (disch := omega) [-getElem?_pos, -getElem?_neg, h52]
          try (with_reducible refine Run.ret ?_)
          apply zz
          refine LoopK.nm (M + n - (0 + 1)) (by omega) ⟨0 + 1, .slice (some ⟨wz.next + 1, 0, none⟩) (0 + 1) (0 + 1), by omega, rfl, by simp [hm2], by simp [h2], by simp [h3], by simp [h9], by simp [h11], by simp [h13], by simp [h14], by simp [h51], by simp, ⟨by (try simp only [pushed_next', upded_next']); omega, fun i hi => by simp -implicitDefEqProofs (disch := omega) [zb, yb, hkpb]⟩, by (try simp only [pushed_next', upded_next']); omega, ?_, ?_⟩
          · simp -implicitDefEqProofs (disch := omega)
          · rw [hS]
            refine OwnG.snoc (b := wz.next + 1) hTl (by omega) (by (try simp only [pushed_next', upded_next']); omega) ?_
            simp -implicitDefEqProofs (disch := omega) [e]
        · rw [hTl] at hgq
          apply zz
          refine Cd.ra (h := ?_)
          apply Run.by_eq
          · intro self
            conv => lhs; simp -implicitDefEqProofs (maxSteps := 300000) (disch := omega) [-getElem?_pos, -getElem?_neg, h14, yb, zb, hgq]
          try (with_reducible refine Run.ret ?_)
          apply zz
          apply Run.by_eq
          · intro self
            rw [appV_moreE (size := 7) (n := j) (old := L.flatten) ?happ1 hfl (by omega)]
            simp -implicitDefEqProofs (disch := omega) [zb, yb, hu3, hgq, h14]
          apply Run.by_eq
          · intro self
            conv => lhs; simp -implicitDefEqProofs (maxSteps := 300000) (disch := omega) [-getElem?_pos, -getElem?_neg, zb, yb, hu3, hgq, h14]
          try (with_reducible refine Run.ret ?_)
          apply zz
          refine Cd.ra (h := ?_)
          apply Run.by_eq
          · intro self
            conv => lhs; simp -implicitDefEqProofs (maxSteps := 300000) (disch := omega) [-getElem?_pos, -getElem?_neg, h52]
          try (with_reducible refine Run.ret ?_)
          apply zz
          refine LoopK.nm (M + n - (j + 1)) (by omega) ⟨j + 1, .slice (some ⟨wz.next + 1, 0, none⟩) (j + 1) (j + 1), by omega, rfl, by simp [hm2], by simp [h2], by simp [h3], by simp [h9], by simp [h11], by simp [h13], by simp [h14], by simp [h51], by simp, ⟨by (try simp only [pushed_next', upded_next']); omega, fun i hi => by simp -implicitDefEqProofs (disch := omega) [zb, yb, hkpb]⟩, by (try simp only [pushed_next', upded_next']); omega, ?_, ?_⟩
          · simp -implicitDefEqProofs (disch := omega) [zb, yb, hgq]
          · rw [hS]
            refine OwnG.snoc (b := wz.next + 1) hTl (by omega) (by (try simp only [pushed_next', upded_next']); omega) ?_
            simp -implicitDefEqProofs (disch := omega)
      · omega
    · obtain rfl : j = M + n := by omega
      apply zz
      refine Cd.ra (h := ?_)
      apply Run.by_eq
      · intro self
        conv => lhs; simp -implicitDefEqProofs (maxSteps := 300000) (disch := omega) [-getElem?_pos, -getElem?_neg, h52, h51]
      try (with_reducible refine Run.ret ?_)
      apply zz
      apply Cd.ite rfl
      · conv => lhs; simp -implicitDefEqProofs (maxSteps := 300000) (disch := omega) [-getElem?_pos, -getElem?_neg]
      all_goals intro c1
      all_goals try (cases c1; done)
      all_goals try simp only [Bool.not_eq_true', Bool.not_eq_false', decide_eq_true_eq, decide_eq_false_iff_not] at c1
      all_goals apply zz
      refine ⟨rfl, wq, by simp [hm2], by simp [h2], by simp [h3], by simp [h9], by simp [h11], by simp [h14], hkp, hnx, hgq, ?_⟩
      rw [List.take_of_length_le (by rw [htl, hlen]; exact Nat.le_refl _)] at hO
      exact hO
  rintro x f2 s2 ⟨rfl, wq, hm2, h2, h3, h9, h11, h14, hkp, hnx, hgq, hO⟩
  have hkpa := hkp.1
  have hkpb := hkp.2
  have P3 := (hkpb _ hw12).trans P2
  have F3 := (hkpb bw (by omega)).trans F2
  have hQ := hO.sl (flows_len _)
  have hK3 := hK.keep hkp
  apply zz
  refine Cd.ra (h := ?_)
  apply Run.by_eq
  · intro self
    conv => lhs; simp -implicitDefEqProofs (maxSteps := 300000) (disch := omega) [-getElem?_pos, -getElem?_neg, h2, h9, P3, hri]
  try (with_reducible refine Run.ret ?_)
  apply zz
  have hf1 : FlAt ((s2.pushed (.cells [] none)).pushed (.cells [.int .i64 0, .slice none 0 0] none)) (.slice (some ⟨bw, 0, none⟩) (M + n) (M + n)) fs := fl_of_flat (o := some 7) (by (try simp only [pushed_next', upded_next']); omega) hlen (by simp -implicitDefEqProofs (disch := omega) [F3])
  have happ := app_own (n := 7) (N := s2.next) (s := (s2.pushed (.cells [] none)).pushed (.cells [.int .i64 0, .slice none 0 0] none)) (b := s2.next) (l0 := []) (l := fs.map FlowD.cs) ⟨s2.next, rfl, Nat.le_refl _, by (try simp only [pushed_next', upded_next']); omega, by simp -implicitDefEqProofs (disch := omega)⟩ hf1 (fun x hx => by cases hx) (flows_ones fs) (by simp; omega)
  have hfn : ¬ fs.map FlowD.cs = [] := fun e => by rw [List.map_eq_nil_iff] at e; rw [e] at hlen; simp at hlen; omega
  rw [if_neg hfn, if_pos rfl] at happ
  simp only [List.length_map, hlen, List.length_nil, Nat.zero_add, List.flatten_nil, List.nil_append, pushed_next'] at happ
  rw [show (fs.map FlowD.cs).flatten = flatF fs from rfl] at happ
  apply zz
  refine Cd.drawn (pl := [(0, 0, false, false), (1, 1, false, false), (2, 0, false, true), (3, 0, false, false), (4, 8, false, false), (7, 0, false, true), (5, 28, true, false), (6, 63, false, false), (8, 255, true, false)]) (by kernel_rfl) (by conv => lhs; simp only [List.map_cons, List.map_nil]) (by conv => lhs; simp [strip, ordered]) ?_
  apply Run.by_eq
  · intro self
    conv => lhs; simp -implicitDefEqProofs (maxSteps := 300000) (disch := omega) [filter_bt, (show Nat.testBit 28 0 = false from rfl), (show Nat.testBit 28 1 = false from rfl), (show Nat.testBit 28 2 = true from rfl), (show Nat.testBit 28 3 = true from rfl), (show Nat.testBit 28 4 = true from rfl), (show Nat.testBit 28 7 = false from rfl), (show ∀ i, Nat.testBit 255 i = decide (i < 8) from fun i => Nat.testBit_two_pow_sub_one 8 i), -getElem?_pos, -getElem?_neg, h9, P3, happ]
  try (with_reducible refine Run.ret ?_)
  apply zz
  refine Cd.ra (h := ?_)
  apply Run.by_eq
  · intro self
    conv => lhs; simp -implicitDefEqProofs (maxSteps := 300000) (disch := omega) [-getElem?_pos, -getElem?_neg, h9, P3, hil, F3, hq]
  try (with_reducible refine Run.ret ?_)
  apply zz
  refine Cd.mono (Q := fun x f4 s4 => x = Ex.normal ∧ ∃ (hs : List FlowD) (wt : Value), checkErr n hs = 0 ∧ closeErr n hs = 0 ∧ M + n ≤ hs.length ∧ hs.length ≤ 20 ∧ (∀ j, j < M + n → j ≠ i → closeF hs n j = closeF fs n j) ∧ f4.marks = [] ∧ f4.get 11 = .slice ak (M + n) ck ∧ f4.get 14 = .pointer (some ⟨w2.next, 0, none⟩) ∧ f4.get 17 = .int .i64 i ∧ f4.get 18 = .pointer (some ⟨s2.next + 1, 0, none⟩) ∧ Keep s2 s4 ∧ s2.next + 1 < s4.next ∧ s4.heap.get (s2.next + 1) = some (.cells [.int .i64 n, wt] none) ∧ FlAt s4 wt hs) ?_ ?_
  · cases hfm : f.me with
    | false =>
      apply zz
      apply Cd.ite rfl
      · conv => lhs; simp -implicitDefEqProofs (maxSteps := 300000) (disch := omega) [-getElem?_pos, -getElem?_neg]
      all_goals intro c2
      all_goals try (cases c2; done)
      all_goals try simp only [Bool.not_eq_true', Bool.not_eq_false', decide_eq_true_eq, decide_eq_false_iff_not] at c2
      all_goals apply zz
      refine ⟨rfl, fs, .slice (some ⟨s2.next + 1 + 1, 0, none⟩) (M + n) (M + n), hck, hce, by omega, by omega, fun j _ _ => rfl, by simp [hm2], by simp [h11], by simp [h14], by simp, by simp, ⟨by (try simp only [pushed_next', upded_next']); omega, fun i hi => by simp -implicitDefEqProofs (disch := omega) []⟩, by (try simp only [pushed_next', upded_next']); omega, ?_, ?_⟩
      · simp -implicitDefEqProofs (disch := omega)
      · refine fl_of_flat (o := some 7) (by (try simp only [pushed_next', upded_next']); omega) hlen ?_
        simp -implicitDefEqProofs (disch := omega)
    | true =>
      have hfs0 := set_self_meas hf hfm
      have hfle := hsm f (List.mem_of_getElem? hf) hfm
      have hfe := (flowErr_ok ((checkErr_ok hck).2.2.2 f (List.mem_of_getElem? hf))).2.2.2 hfm
      have hfp : ∀ k, k < 4 → 0 ≤ f.m.at k ∧ f.m.at k ≤ 1536 := fun k hk => by
        have h1 := mass_at_le (q := k) hfle
        simp only [eachB, isB, Bool.and_eq_true, decide_eq_true_eq] at hfe
        refine ⟨?_, h1.2⟩
        unfold Mass.at
        split <;> omega
      obtain ⟨q5, hq5⟩ : ∃ q5 : Int, pt % 5 = q5 := ⟨_, rfl⟩
      have hq5r : 0 ≤ q5 ∧ q5 < 5 := by omega
      have hr5 := intOp_rem .i64 pt 5 (by omega) (by omega)
      rw [hq5] at hr5
      obtain ⟨m2, hm2d⟩ : ∃ m2, m2 = partM f.m q5 := ⟨_, rfl⟩
      obtain ⟨m1, hm1d⟩ : ∃ m1, m1 = f.m.sub m2 := ⟨_, rfl⟩
      have hm2k : ∀ k, k < 4 → m2.at k = f.m.at k * q5 / 5 := fun k hk => by rw [hm2d]; exact partM_at _ _ hk
      have hm1k : ∀ k, k < 4 → m1.at k = f.m.at k - m2.at k := fun k hk => by rw [hm1d]; exact Mass.sub_at _ _ hk
      have hmm : f.m = m1.add m2 := by rw [hm1d]; exact Mass.sub_add_same _ _
      have hcp : (meas f f.m).cs = f.cs := by unfold meas FlowD.cs; rw [hfm]
      have hgt := flow_get hf
      rw [FlowD.cs, hfm] at hgt
      apply zz
      apply Cd.ite rfl
      · conv => lhs; simp -implicitDefEqProofs (maxSteps := 300000) (disch := omega) [-getElem?_pos, -getElem?_neg]
      all_goals intro c2
      all_goals try (cases c2; done)
      all_goals try simp only [Bool.not_eq_true', Bool.not_eq_false', decide_eq_true_eq, decide_eq_false_iff_not] at c2
      all_goals apply zz
      apply zz
      refine Cd.ra (h := ?_)
      apply Run.by_eq
      · intro self
        conv => lhs; simp -implicitDefEqProofs (maxSteps := 300000) (disch := omega) [-getElem?_pos, -getElem?_neg, h9, P3, hil, F3, hgt]
      try (with_reducible refine Run.ret ?_)
      apply zz
      refine Cd.ra (h := ?_)
      apply Run.by_eq
      · intro self
        conv => lhs; simp -implicitDefEqProofs (maxSteps := 300000) (disch := omega) [-getElem?_pos, -getElem?_neg]
      try (with_reducible refine Run.ret ?_)
      apply zz
      refine Cd.mono (Q := fun x f5 s5 => x = Ex.exit 2 ∧ f5.marks = [] ∧ f5.get 11 = .slice ak (M + n) ck ∧ f5.get 14 = .pointer (some ⟨w2.next, 0, none⟩) ∧ f5.get 17 = .int .i64 i ∧ f5.get 18 = .pointer (some ⟨s2.next + 1, 0, none⟩) ∧ f5.get 19 = .pointer (some ⟨s2.next + 1 + 1 + 1, 0, none⟩) ∧ Keep s2 s5 ∧ s2.next + 1 + 1 + 1 < s5.next ∧ s5.heap.get (s2.next + 1) = some (.cells [.int .i64 n, .slice (some ⟨s2.next + 1 + 1, 0, none⟩) (M + n) (M + n)] none) ∧ s5.heap.get (s2.next + 1 + 1) = some (.cells (flatF (fs.set i (meas f m1))) (some 7)) ∧ s5.heap.get (s2.next + 1 + 1 + 1) = some (.cells (meas f m2).cs none)) (Cd.inv (fun z f5 s5 => ∃ (k : Nat) (Mk Nk : Mass), k ≤ 4 ∧ z = 4 - k ∧ (∀ q, q < k → Mk.at q = m2.at q ∧ Nk.at q = m1.at q) ∧ (∀ q, k ≤ q → q < 4 → Mk.at q = f.m.at q ∧ Nk.at q = f.m.at q) ∧ f5.marks = [] ∧ f5.get 3 = .int .u8 pt ∧ f5.get 9 = .pointer (some ⟨w1.next, 0, none⟩) ∧ f5.get 11 = .slice ak (M + n) ck ∧ f5.get 14 = .pointer (some ⟨w2.next, 0, none⟩) ∧ f5.get 17 = .int .i64 i ∧ f5.get 18 = .pointer (some ⟨s2.next + 1, 0, none⟩) ∧ f5.get 19 = .pointer (some ⟨s2.next + 1 + 1 + 1, 0, none⟩) ∧ f5.get 106 = .int .i64 k ∧ Keep s2 s5 ∧ s2.next + 1 + 1 + 1 < s5.next ∧ s5.heap.get (s2.next + 1) = some (.cells [.int .i64 n, .slice (some ⟨s2.next + 1 + 1, 0, none⟩) (M + n) (M + n)] none) ∧ s5.heap.get (s2.next + 1 + 1) = some (.cells (flatF (fs.set i (meas f Nk))) (some 7)) ∧ s5.heap.get (s2.next + 1 + 1 + 1) = some (.cells (meas f Mk).cs none)) 4 ?_ ?_) ?_
      · refine ⟨0, f.m, f.m, by omega, rfl, fun q h => by omega, fun q _ _ => ⟨rfl, rfl⟩, by simp [hm2], by simp [h3], by simp [h9], by simp [h11], by simp [h14], by simp, by simp, by simp, by simp, ⟨by (try simp only [pushed_next', upded_next']); omega, fun i hi => by simp -implicitDefEqProofs (disch := omega) []⟩, by (try simp only [pushed_next', upded_next']); omega, ?_, ?_, ?_⟩
        · simp -implicitDefEqProofs (disch := omega)
        · rw [hfs0]; simp -implicitDefEqProofs (disch := omega)
        · rw [hcp, FlowD.cs, hfm]; simp -implicitDefEqProofs (disch := omega)
      · rintro z f5 s5 ⟨k, Mk, Nk, hk, rfl, hlo, hhi, hm5, g3, g9, g11, g14, g17, g18, g19, g106, hkp5, hnx5, hA, hB, hC⟩
        have hkp5a := hkp5.1
        have hkp5b := hkp5.2
        have P5 := (hkp5b _ (by omega)).trans P3
        have F5 := (hkp5b bw (by omega)).trans F3
        by_cases hk4 : k < 4
        · have hk4' : (k : Int) < 4 := by omega
          obtain ⟨hMk, hNk⟩ := hhi k (Nat.le_refl _) hk4
          have hfk := hfp k hk4
          have hpl := part_le hfk.1 hq5r
          have h2k := hm2k k hk4
          have h1k := hm1k k hk4
          have hmul : 0 ≤ f.m.at k * q5 ∧ f.m.at k * q5 ≤ 7680 := by
            have h0 : 0 ≤ f.m.at k * q5 := Int.mul_nonneg hfk.1 hq5r.1
            have h1 : f.m.at k * q5 ≤ f.m.at k * 5 := Int.mul_le_mul_of_nonneg_left (by omega) hfk.1
            omega
          have hquo := intOp_quo .i64 (f.m.at k * q5) 5 hmul.1 (by omega)
          have hat : (flatF fs)[i * 7 + 3 + k]? = some (.int .i64 (f.m.at k)) := by
            obtain ⟨_, _, _, p3⟩ := flow_parts (flow_get hf)
            have := takeL_at p3 (i := k) hk4
            rw [List.getElem?_drop, Mass.cs_at f.m hk4] at this
            exact this
          have hatN : (flatF (fs.set i (meas f Nk)))[i * 7 + 3 + k]? = some (.int .i64 (f.m.at k)) := by
            obtain ⟨_, _, _, p3⟩ := flow_parts (flow_get (set_at (g := meas f Nk) hf))
            have := takeL_at p3 (i := k) hk4
            rw [List.getElem?_drop, Mass.cs_at (meas f Nk).m hk4, show (meas f Nk).m = Nk from rfl, hNk] at this
            exact this
          have hputM := Mass.put_cs (f := meas f Mk) hk4 (m2.at k)
          rw [show (⟨(meas f Mk).fr, (meas f Mk).to, (meas f Mk).me, (meas f Mk).m.put k (m2.at k)⟩ : FlowD) = meas f (Mk.put k (m2.at k)) from rfl] at hputM
          have hatM : (meas f (Mk.put k (m2.at k))).cs[3 + k]? = some (.int .i64 (m2.at k)) := by
            have hh : (meas f (Mk.put k (m2.at k))).cs = [Value.int .i64 f.fr, .int .i64 f.to, .bool true] ++ [Value.int .i64 (Mk.put k (m2.at k)).a, .int .i64 (Mk.put k (m2.at k)).b, .int .i64 (Mk.put k (m2.at k)).c, .int .i64 (Mk.put k (m2.at k)).d] := rfl
            rw [hh, List.getElem?_append_right (by simp)]
            rw [show 3 + k - [Value.int .i64 f.fr, Value.int .i64 f.to, Value.bool true].length = k by simp]
            rw [Mass.cs_at _ hk4, Mass.put_at hk4 hk4, if_pos rfl]
          have hputN := set_flat (g := meas f (Nk.put k (m1.at k))) (off := 3 + k) (vs := [.int .i64 (m1.at k)]) (set_at (g := meas f Nk) hf) (Mass.put_cs (f := meas f Nk) hk4 (m1.at k))
          rw [List.set_set, ← Nat.add_assoc] at hputN
          have hlo' : ∀ q, q < k + 1 → (Mk.put k (m2.at k)).at q = m2.at q ∧ (Nk.put k (m1.at k)).at q = m1.at q := fun q hq => by
            rw [Mass.put_at hk4 (by omega), Mass.put_at hk4 (by omega)]
            by_cases e : q = k
            · subst e; rw [if_pos rfl, if_pos rfl]; exact ⟨rfl, rfl⟩
            · rw [if_neg e, if_neg e]; exact hlo q (by omega)
          have hhi' : ∀ q, k + 1 ≤ q → q < 4 → (Mk.put k (m2.at k)).at q = f.m.at q ∧ (Nk.put k (m1.at k)).at q = f.m.at q := fun q h1 h2 => by
            rw [Mass.put_at hk4 h2, Mass.put_at hk4 h2, if_neg (by omega), if_neg (by omega)]
            exact hhi q (by omega) h2
          generalize Mk.put k (m2.at k) = Mk2 at hputM hatM hlo' hhi'
          generalize Nk.put k (m1.at k) = Nk2 at hputN hlo' hhi'
          generalize hm1v : m1.at k = V1 at hputN h1k
          generalize hm2v : m2.at k = V2 at hputM hatM h1k h2k
          generalize f.m.at k = X at hat hatN hmul hquo hpl hfk h2k h1k
          generalize hXq : X * q5 = Y at hmul hquo hpl h2k
          have hXq' : X * q5 = Y := hXq
          apply zz
          refine Cd.ra (h := ?_)
          apply Run.by_eq
          · intro self
            conv => lhs; simp -implicitDefEqProofs (maxSteps := 300000) (disch := omega) [-getElem?_pos, -getElem?_neg, g106]
          try (with_reducible refine Run.ret ?_)
          apply zz
          apply Cd.ite rfl
          · conv => lhs; simp -implicitDefEqProofs (maxSteps := 300000) (disch := omega) [-getElem?_pos, -getElem?_neg]
          all_goals intro c3
          all_goals try (cases c3; done)
          all_goals try simp only [Bool.not_eq_true', Bool.not_eq_false', decide_eq_true_eq, decide_eq_false_iff_not] at c3
          all_goals apply zz
          · apply zz
            refine Cd.ra (h := ?_)
            apply Run.by_eq
            · intro self
              conv => lhs; simp -implicitDefEqProofs (maxSteps := 300000) (disch := omega) [-getElem?_pos, -getElem?_neg, g106]
            try (with_reducible refine Run.ret ?_)
            apply zz
            refine Cd.ra (h := ?_)
            apply Run.by_eq
            · intro self
              conv => lhs; simp -implicitDefEqProofs (maxSteps := 300000) (disch := omega) [-getElem?_pos, -getElem?_neg, g9, P5, g17, hil, F5, hat, hk4, hk4', g3, hr5, hXq', hquo, ← h2k, g19, hC, hputM]
            try (with_reducible refine Run.ret ?_)
            apply zz
            refine Cd.drawnH (pl := [(0, 0, false, false), (1, 1, false, false), (2, 0, false, false), (3, 0, false, false), (4, 7, false, false), (5, 23, false, false), (6, 63, false, false), (7, 127, false, false), (8, 0, false, false), (9, 0, false, false), (10, 768, false, false), (11, 1792, false, false), (12, 4095, false, false), (13, 7, false, false), (14, 8199, false, false), (15, 32767, false, false), (16, 65535, true, false)]) [false, false, false, false, false, false, false, false, false, false, false, false, false, false, false, false, false] (by kernel_rfl) (by decide) (by decide) (by conv => lhs; simp only [List.map_cons, List.map_nil]) (by conv => lhs; simp [strip, orderedG, flagH]) ?_
            apply Run.by_eq
            · intro self
              conv => lhs; simp -implicitDefEqProofs (maxSteps := 300000) (disch := omega) [-getElem?_pos, -getElem?_neg, g18, hA, g17, hil, hB, hatN, hk4, hk4', g19, hatM, ← h1k, hputN]
            try (with_reducible refine Run.ret ?_)
            apply zz
            refine Cd.ra (h := ?_)
            apply Run.by_eq
            · intro self
              conv => lhs; simp -implicitDefEqProofs (maxSteps := 300000) (disch := omega) [-getElem?_pos, -getElem?_neg, g106]
            try (with_reducible refine Run.ret ?_)
            apply zz
            refine LoopK.nm (4 - (k + 1)) (by omega) ⟨k + 1, Mk2, Nk2, by omega, rfl, hlo', hhi', by simp [hm5], by simp [g3], by simp [g9], by simp [g11], by simp [g14], by simp [g17], by simp [g18], by simp [g19], by simp, ⟨by (try simp only [pushed_next', upded_next']); omega, fun i hi => by simp -implicitDefEqProofs (disch := omega) [hkp5b]⟩, by (try simp only [pushed_next', upded_next']); omega, ?_, ?_, ?_⟩
            · simp -implicitDefEqProofs (disch := omega) [hA]
            · simp -implicitDefEqProofs (disch := omega)
            · simp -implicitDefEqProofs (disch := omega)
          · omega
        · obtain rfl : k = 4 := by omega
          apply zz
          refine Cd.ra (h := ?_)
          apply Run.by_eq
          · intro self
            conv => lhs; simp -implicitDefEqProofs (maxSteps := 300000) (disch := omega) [-getElem?_pos, -getElem?_neg, g106]
          try (with_reducible refine Run.ret ?_)
          apply zz
          apply Cd.ite rfl
          · conv => lhs; simp -implicitDefEqProofs (maxSteps := 300000) (disch := omega) [-getElem?_pos, -getElem?_neg]
          all_goals intro c3
          all_goals try (cases c3; done)
          all_goals try simp only [Bool.not_eq_true', Bool.not_eq_false', decide_eq_true_eq, decide_eq_false_iff_not] at c3
          all_goals apply zz
          obtain rfl : Mk = m2 := Mass.ext_at fun q hq => (hlo q hq).1
          obtain rfl : Nk = m1 := Mass.ext_at fun q hq => (hlo q hq).2
          exact ⟨rfl, by simp [hm5], by simp [g11], by simp [g14], by simp [g17], by simp [g18], by simp [g19], hkp5, hnx5, hA, hB, hC⟩
      rintro x f5 s5 ⟨rfl, hm5, g11, g14, g17, g18, g19, hkp5, hnx5, hA, hB, hC⟩
      have hkp5a := hkp5.1
      have hkp5b := hkp5.2
      have hE1 : eachB m1 0 1000000000 = true := eachB_true fun k hk => by
        have h1 := hm1k k hk; have h2 := hm2k k hk; have h3 := part_le (hfp k hk).1 hq5r; have h4 := hfp k hk
        omega
      have hE2 : eachB m2 0 1000000000 = true := eachB_true fun k hk => by
        have h2 := hm2k k hk; have h3 := part_le (hfp k hk).1 hq5r; have h4 := hfp k hk
        omega
      have hck2 : checkErr n (twoL fs i f m1 m2) = 0 := by
        refine checkErr_mk (by omega) (by omega) (by rw [two_len]; omega) fun g hg => ?_
        unfold twoL at hg
        rcases List.mem_append.1 hg with hg | hg
        · rcases List.mem_or_eq_of_mem_set hg with hg | rfl
          · exact (checkErr_ok hck).2.2.2 g hg
          · rw [meas_flowErr hck hf, if_pos hE1]
        · simp at hg; subst hg
          rw [meas_flowErr hck hf, if_pos hE2]
      have hkn2 := fun (j : Nat) (hj : j < M + n) (hji : j ≠ i) => two_known hck hck2 hbal hf hfm hmm (j := j) (by omega) hji
      have hce2 := bal_close hck2 (two_bal hbal hf hfm hmm)
      have hfl2 : (flatF (fs.set i (meas f m1))).length = (M + n) * 7 := by rw [flatF_length, List.length_set, hlen]
      have hFF : flatF (twoL fs i f m1 m2) = flatF (fs.set i (meas f m1)) ++ [.int .i64 f.fr, .int .i64 f.to, .bool true, .int .i64 m2.a, .int .i64 m2.b, .int .i64 m2.c, .int .i64 m2.d] := flatF_snoc _ _
      change s5.heap.get (s2.next + 1 + 1 + 1) = some (.cells [.int .i64 f.fr, .int .i64 f.to, .bool true, .int .i64 m2.a, .int .i64 m2.b, .int .i64 m2.c, .int .i64 m2.d] none) at hC
      generalize flatF (fs.set i (meas f m1)) = FL at hB hfl2 hFF
      apply zz
      refine Cd.ra (h := ?_)
      apply Run.by_eq
      · intro self
        conv => lhs; simp -implicitDefEqProofs (maxSteps := 300000) (disch := omega) [-getElem?_pos, -getElem?_neg, g18, hA, g19, hC]
      try (with_reducible refine Run.ret ?_)
      apply zz
      apply Run.by_eq
      · intro self
        rw [appV_moreE (size := 7) (n := M + n) (old := FL) ?happ2 hfl2 (by omega)]
        simp -implicitDefEqProofs (disch := omega) [hB, hA, g18]
      apply Run.by_eq
      · intro self
        conv => lhs; simp -implicitDefEqProofs (maxSteps := 300000) (disch := omega) [-getElem?_pos, -getElem?_neg, hB, hA, g18]
      try (with_reducible refine Run.ret ?_)
      apply zz
      refine ⟨rfl, twoL fs i f m1 m2, .slice (some ⟨s5.next + 1, 0, none⟩) (M + n + 1) (M + n + 1), hck2, hce2, by rw [two_len]; omega, by rw [two_len]; omega, hkn2, by simp [hm5], by simp [g11], by simp [g14], by simp [g17], by simp [g18], ⟨by (try simp only [pushed_next', upded_next']); omega, fun i hi => by simp -implicitDefEqProofs (disch := omega) [hkp5b]⟩, by (try simp only [pushed_next', upded_next']); omega, ?_, ?_⟩
      · simp -implicitDefEqProofs (disch := omega)
      · refine fl_of_flat (o := some 7) (by (try simp only [pushed_next', upded_next']); omega) (by rw [two_len]; omega) ?_
        rw [hFF]
        simp -implicitDefEqProofs (disch := omega)
  rintro x f4 s4 ⟨rfl, hs, wt, hckh, hceh, hl1, hl2, hkn, hm4, h11, h14, h17, h18, hk4, hn4', hgt, hH⟩
  have hk4a := hk4.1
  have hk4b := hk4.2
  have Q4 := (hk4b w2.next (by omega)).trans hgq
  obtain ⟨aq, cq, rfl⟩ := hQ.shape
  rw [List.length_map, htl, hlen] at hQ Q4
  obtain ⟨at', ct, rfl⟩ := hH.shape
  rw [List.length_map] at hH hgt
  have hckq := turn_check (b := b) hck
  have hceq := bal_close hckq (turn_bal (b := b) (by omega) hends hbal)
  have hknq := fun (j : Nat) (hj : j < M + n) => turn_known (b := b) (by omega) hck hbal (j := j) (by omega)
  apply zz
  refine Cd.ra (h := ?_)
  apply Run.by_eq
  · intro self
    conv => lhs; simp -implicitDefEqProofs (maxSteps := 300000) (disch := omega) [-getElem?_pos, -getElem?_neg, h14, Q4]
  try (with_reducible refine Run.ret ?_)
  apply zz
  refine Run.call ((close_ev n _ (turnL n b fs) _ (hQ.keep hk4) (by omega)).mono fun r s5 hv => ?_)
  obtain ⟨k5, wk5, rfl, hK5⟩ := hv
  have hks5 : closeKs n (turnL n b fs) = (List.range (M + n)).map (closeF (turnL n b fs) n) := by
    unfold closeKs
    rw [if_pos hceq, htl, hlen, Int.toNat_natCast]
  rw [hks5] at hK5
  rw [hceq]
  obtain ⟨a5, c5, rfl⟩ := hK5.shape
  rw [List.length_map, List.length_map, List.length_range] at hK5 ⊢
  have T5 := (k5.2 _ hn4').trans hgt
  apply Run.by_eq
  · intro self
    conv => lhs; simp -implicitDefEqProofs (maxSteps := 300000) (disch := omega) [-getElem?_pos, -getElem?_neg]
  try (with_reducible refine Run.ret ?_)
  apply zz
  refine Cd.ra (h := ?_)
  apply Run.by_eq
  · intro self
    conv => lhs; simp -implicitDefEqProofs (maxSteps := 300000) (disch := omega) [-getElem?_pos, -getElem?_neg, h18, T5]
  try (with_reducible refine Run.ret ?_)
  apply zz
  refine Run.call ((close_ev n _ hs _ (hH.keep k5) (by omega)).mono fun r s6 hv => ?_)
  obtain ⟨k6, wk6, rfl, hK6⟩ := hv
  have hks6 : closeKs n hs = (List.range hs.length).map (closeF hs n) := by
    unfold closeKs
    rw [if_pos hceh, Int.toNat_natCast]
  rw [hks6] at hK6
  rw [hceh]
  obtain ⟨a6, c6, rfl⟩ := hK6.shape
  rw [List.length_map, List.length_map, List.length_range] at hK6 ⊢
  have k6a := k6.1
  have k5a := k5.1
  have T6 := (k6.2 _ (by omega)).trans T5
  have hK5' := hK5.keep k6
  have hK36 := hK3.keep ((hk4.trans k5).trans k6)
  apply Run.by_eq
  · intro self
    conv => lhs; simp -implicitDefEqProofs (maxSteps := 300000) (disch := omega) [-getElem?_pos, -getElem?_neg]
  try (with_reducible refine Run.ret ?_)
  apply zz
  refine Cd.ra (h := ?_)
  apply Run.by_eq
  · intro self
    conv => lhs; simp -implicitDefEqProofs (maxSteps := 300000) (disch := omega) [-getElem?_pos, -getElem?_neg, h11, h18, T6]
  try (with_reducible refine Run.ret ?_)
  apply zz
  apply Cd.ite rfl
  · conv => lhs; simp -implicitDefEqProofs (maxSteps := 300000) (disch := omega) [-getElem?_pos, -getElem?_neg]
  all_goals intro c1
  all_goals try (cases c1; done)
  all_goals try simp only [Bool.not_eq_true', Bool.not_eq_false', decide_eq_true_eq, decide_eq_false_iff_not] at c1
  all_goals apply zz
  apply zz
  refine Cd.ra (h := ?_)
  apply Run.by_eq
  · intro self
    conv => lhs; simp -implicitDefEqProofs (maxSteps := 300000) (disch := omega) [-getElem?_pos, -getElem?_neg, h11]
  try (with_reducible refine Run.ret ?_)
  apply zz
  refine Cd.mono (Q := fun x f8 s8 => x = Ex.exit 4 ∧ f8.marks = []) (Cd.inv (fun z f8 s8 => ∃ j : Nat, j ≤ M + n ∧ z = M + n - j ∧ f8.marks = [] ∧ f8.get 11 = .slice ak (M + n) ck ∧ f8.get 17 = .int .i64 i ∧ f8.get 21 = .slice a5 (M + n) c5 ∧ f8.get 22 = .slice a6 hs.length c6 ∧ f8.get 180 = .int .i64 ((M + n : Nat) : Int) ∧ f8.get 181 = .int .i64 j ∧ Keep s6 s8) (M + n) ?_ ?_) ?_
  · exact ⟨0, by omega, rfl, by simp [hm4], by simp [h11], by simp [h17], by simp, by simp, by simp, by simp, Keep.refl _⟩
  · rintro z f8 s8 ⟨j, hj, rfl, hm8, h11, h17, h21, h22, h180, h181, hk8⟩
    by_cases hlt : j < M + n
    · have hxl : M + n - 1 - j < M + n := by omega
      have hx : ((M + n : Nat) : Int) - 1 - j = ((M + n - 1 - j : Nat) : Int) := by omega
      push_cast at hx
      have hjh : j < hs.length := by omega
      have hy1 : ((List.range (M + n)).map (knB fs R))[j]? = some (knB fs R j) := by rw [List.getElem?_map, List.getElem?_range hlt]; rfl
      have hy5 : ((List.range (M + n)).map (closeF (turnL n b fs) n))[M + n - 1 - j]? = some (closeF (turnL n b fs) n (M + n - 1 - j)) := by rw [List.getElem?_map, List.getElem?_range hxl]; rfl
      have hy6 : ((List.range hs.length).map (closeF hs n))[j]? = some (closeF hs n j) := by rw [List.getElem?_map, List.getElem?_range hjh]; rfl
      have hkj := hknq j hlt
      rw [hlen] at hkj
      obtain ⟨b1, o1, ob1, cs1, gg1, rfl, hq1, ho1, hc1, ht1⟩ := KnAt.at (hK36.keep hk8) hy1
      obtain ⟨b5, o5, ob5, cs5, gg5, rfl, hq5, ho5, hc5, ht5⟩ := KnAt.at (hK5'.keep hk8) hy5
      obtain ⟨b6, o6, ob6, cs6, gg6, rfl, hq6, ho6, hc6, ht6⟩ := KnAt.at (hK6.keep hk8) hy6
      obtain ⟨g, hg⟩ : ∃ g, fs[j]? = some g := ⟨fs[j], by simp [hlen, hlt]⟩
      have hknj := hkn j hlt
      rw [hkj, hcl j] at ht5
      rw [hcl j] at hknj
      have hkb := knB_at hbal hg
      rw [hkb] at ht1 ht5 hknj
      have hsr := stB_range fs j g
      obtain ⟨mj, hmj⟩ : ∃ mj, mj = if stB fs j g = 3 then Mass.zero else R j := ⟨_, rfl⟩
      rw [← hmj] at ht1 ht5 hknj
      have hmle : mj.le 1536 := by
        rw [hmj]
        split
        · exact Mass.le_zero (by omega)
        · exact hRl j
      have hEK := aggEqK_self (s := stB fs j g) (m := mj) (by omega) (hmle.mono (by omega))
      rw [KnownD.cs] at ht1 ht5
      generalize stB fs j g = st at ht1 ht5 hknj hEK
      have v1 : veq 5 (Value.slice (some ⟨b1, o1, none⟩) (M + n) ck) (Value.slice (some ⟨b1, o1, none⟩) (M + n) ck) = true := veq_slice _ _ _ _ _
      have v5 : veq 5 (Value.slice (some ⟨b5, o5, none⟩) (M + n) c5) (Value.slice (some ⟨b5, o5, none⟩) (M + n) c5) = true := veq_slice _ _ _ _ _
      have v6 : veq 5 (Value.slice (some ⟨b6, o6, none⟩) hs.length c6) (Value.slice (some ⟨b6, o6, none⟩) hs.length c6) = true := veq_slice _ _ _ _ _
      generalize M + n - 1 - j = x at hx hxl ht5
      apply zz
      refine Cd.ra (h := ?_)
      apply Run.by_eq
      · intro self
        conv => lhs; simp -implicitDefEqProofs (maxSteps := 300000) (disch := omega) [-getElem?_pos, -getElem?_neg, h181, h180]
      try (with_reducible refine Run.ret ?_)
      apply zz
      apply Cd.ite rfl
      · conv => lhs; simp -implicitDefEqProofs (maxSteps := 300000) (disch := omega) [-getElem?_pos, -getElem?_neg]
      all_goals intro c3
      all_goals try (cases c3; done)
      all_goals try simp only [Bool.not_eq_true', Bool.not_eq_false', decide_eq_true_eq, decide_eq_false_iff_not] at c3
      all_goals apply zz
      · apply zz
        refine Cd.ra (h := ?_)
        apply Run.by_eq
        · intro self
          conv => lhs; simp -implicitDefEqProofs (maxSteps := 300000) (disch := omega) [-getElem?_pos, -getElem?_neg, h181]
        try (with_reducible refine Run.ret ?_)
        apply zz
        by_cases hji : j = i
        · subst hji
          apply zz
          refine Cd.drawnH (pl := [(0, 0, false, false), (1, 0, false, false), (2, 2, false, false), (3, 6, false, false), (4, 0, false, false), (5, 30, false, false), (6, 63, false, false), (7, 127, false, false), (8, 0, false, false), (9, 0, false, false), (10, 768, false, false), (11, 1792, false, false), (12, 4095, false, false), (13, 8191, false, false), (14, 16383, false, false), (15, 16383, false, false), (16, 65535, false, false), (17, 131071, false, false), (18, 262143, false, false), (19, 262143, false, false), (20, 1048575, false, false), (21, 2097151, false, false), (22, 262143, false, false), (23, 262143, false, false), (24, 12845055, false, false), (25, 29622271, false, false), (26, 67108863, false, false), (27, 134217727, false, false), (28, 268435455, false, false)]) [false, false, false, false, false, false, false, false, false, false, false, false, false, false, false, false, false, false, false, false, false, false, false, false, false, false, false, false, false] (by kernel_rfl) (by decide) (by decide) (by conv => lhs; simp only [List.map_cons, List.map_nil]) (by conv => lhs; simp [strip, orderedG, flagH]) ?_
          apply Run.by_eq
          · intro self
            conv => lhs; simp -implicitDefEqProofs (maxSteps := 300000) (disch := omega) [-getElem?_pos, -getElem?_neg, h21, h11, h181, h17, hx, hxl, hlt, ho1, hc1, ht1, ho5, hc5, ht5, hEK, v1, v5]
          try (with_reducible refine Run.ret ?_)
          apply zz
          apply Cd.ite rfl
          · conv => lhs; simp -implicitDefEqProofs (maxSteps := 300000) (disch := omega) [-getElem?_pos, -getElem?_neg]
          all_goals intro c6
          all_goals try (cases c6; done)
          all_goals try simp only [Bool.not_eq_true', Bool.not_eq_false', decide_eq_true_eq, decide_eq_false_iff_not] at c6
          all_goals apply zz
          apply zz
          refine Cd.ra (h := ?_)
          apply Run.by_eq
          · intro self
            conv => lhs; simp -implicitDefEqProofs (maxSteps := 300000) (disch := omega) [-getElem?_pos, -getElem?_neg, h181]
          try (with_reducible refine Run.ret ?_)
          apply zz
          exact LoopK.nm (M + n - (j + 1)) (by omega) ⟨j + 1, by omega, rfl, by simp [hm8], by simp [h11], by simp [h17], by simp [h21], by simp [h22], by simp [h180], by simp, hk8⟩
        · have hji' : ¬ (j : Int) = i := by omega
          rw [hknj hji, KnownD.cs] at ht6
          apply zz
          refine Cd.drawnH (pl := [(0, 0, false, false), (1, 0, false, false), (2, 2, false, false), (3, 6, false, false), (4, 0, false, false), (5, 30, false, false), (6, 63, false, false), (7, 127, false, false), (8, 0, false, false), (9, 0, false, false), (10, 768, false, false), (11, 1792, false, false), (12, 4095, false, false), (13, 8191, false, false), (14, 16383, false, false), (15, 16383, false, false), (16, 65535, false, false), (17, 131071, false, false), (18, 262143, false, false), (19, 262143, false, false), (20, 1048575, false, false), (21, 2097151, false, false), (22, 262143, false, false), (23, 262143, false, false), (24, 12845055, false, false), (25, 29622271, false, false), (26, 67108863, false, false), (27, 134217727, false, false), (28, 268435455, false, false)]) [false, false, false, false, false, false, false, false, false, false, false, false, false, false, false, false, false, false, false, false, false, false, false, false, false, false, false, false, false] (by kernel_rfl) (by decide) (by decide) (by conv => lhs; simp only [List.map_cons, List.map_nil]) (by conv => lhs; simp [strip, orderedG, flagH]) ?_
          apply Run.by_eq
          · intro self
            conv => lhs; simp -implicitDefEqProofs (maxSteps := 300000) (disch := omega) [-getElem?_pos, -getElem?_neg, h21, h11, h22, h181, h17, hji', hx, hxl, hlt, hjh, ho1, hc1, ht1, ho5, hc5, ht5, ho6, hc6, ht6, hEK, v1, v5, v6]
          try (with_reducible refine Run.ret ?_)
          apply zz
          apply Cd.ite rfl
          · conv => lhs; simp -implicitDefEqProofs (maxSteps := 300000) (disch := omega) [-getElem?_pos, -getElem?_neg]
          all_goals intro c6
          all_goals try (cases c6; done)
          all_goals try simp only [Bool.not_eq_true', Bool.not_eq_false', decide_eq_true_eq, decide_eq_false_iff_not] at c6
          all_goals apply zz
          apply zz
          refine Cd.ra (h := ?_)
          apply Run.by_eq
          · intro self
            conv => lhs; simp -implicitDefEqProofs (maxSteps := 300000) (disch := omega) [-getElem?_pos, -getElem?_neg, h181]
          try (with_reducible refine Run.ret ?_)
          apply zz
          exact LoopK.nm (M + n - (j + 1)) (by omega) ⟨j + 1, by omega, rfl, by simp [hm8], by simp [h11], by simp [h17], by simp [h21], by simp [h22], by simp [h180], by simp, hk8⟩
      · omega
    · obtain rfl : j = M + n := by omega
      apply zz
      refine Cd.ra (h := ?_)
      apply Run.by_eq
      · intro self
        conv => lhs; simp -implicitDefEqProofs (maxSteps := 300000) (disch := omega) [-getElem?_pos, -getElem?_neg, h181, h180]
      try (with_reducible refine Run.ret ?_)
      apply zz
      apply Cd.ite rfl
      · conv => lhs; simp -implicitDefEqProofs (maxSteps := 300000) (disch := omega) [-getElem?_pos, -getElem?_neg]
      all_goals intro c3
      all_goals try (cases c3; done)
      all_goals try simp only [Bool.not_eq_true', Bool.not_eq_false', decide_eq_true_eq, decide_eq_false_iff_not] at c3
      all_goals apply zz
      exact ⟨rfl, by simp [hm8]⟩
  rintro x f8 s8 ⟨rfl, hm8⟩
  apply zz
  refine Cd.ra (h := ?_)
  apply Run.by_eq
  · intro self
    conv => lhs; simp -implicitDefEqProofs (maxSteps := 300000) (disch := omega) [-getElem?_pos, -getElem?_neg]
  try (with_reducible refine Run.ret ?_)
  apply zz
  refine Run.call (Ev.stub rfl ?_)
  apply Run.by_eq
  · intro self
    conv => lhs; simp -implicitDefEqProofs (maxSteps := 300000) (disch := omega) [-getElem?_pos, -getElem?_neg]
  try (with_reducible refine Run.ret ?_)
  apply zz
  apply Leave.mk (by first | exact .inl rfl | exact .inr rfl) (by simp only [Fr.marks_put, fr0_marks, hm8])
  · conv => lhs; simp -implicitDefEqProofs (disch := omega) [Try.results11, hm8]
  rfl
end Go.Proofs.Ytjehpgflhgpalaa
namespace Go.Proofs.Ytjehpgflhgpalaa
open Go RowKit
theorem fitsW : Kern.tabFits Try.prog = true := by kernel_rfl
theorem works_true : Kern.isTrue ((Kern.run (Kern.tabOf Try.prog) 30000).call 13 [] ⟨.leaf, 0⟩) = true := by kernel_rfl
theorem works_calls (w : World) : Calls Try.prog 13 #[] w fun e w' => e = .returned (.bool true) ∧ Below w.heap.size w w' :=
  Kern.calls_of_run (Kern.tabOf_ok fitsW) rfl (Kern.StubOk.none rfl) works_true w
end Go.Proofs.Ytjehpgflhgpalaa
namespace Go.Proofs.Ytjehpgflhgpalaa
open Go Kern RowKit
/-- A slice of the world whose elements are known, cell by cell. -/
def SlW (W : World) (n : Nat) (v : Value) (l : List (List Value)) : Prop :=
  (l = [] ∧ v = .slice none 0 0) ∨ ∃ (b off cap : Nat) (C : Array Value) (e : TypeId) (fr : Nat × Nat), v = .slice (some ⟨b, off, none⟩) l.length cap ∧ W.heap[b]? = some (.cells C e fr) ∧
    (l ≠ [] → off + l.flatten.length ≤ C.size ∧ (C.toList.drop off).take l.flatten.length = l.flatten)
theorem romAt_pushed {s : St} {o : AObj} {i : Nat} (h : i ≠ s.next) : romAt (s.pushed o).heap i = romAt s.heap i := by
  unfold romAt; rw [get_pushed_old _ _ _ h]
theorem WRel_rom {N : Nat} {σ : Ren} {s : St} {w : World} (hw : WRel N σ s w) {b sh : Nat} {c : List Value} {C : Array Value} {e : TypeId} {fr : Nat × Nat} (hb : w.heap[b]? = some (.cells C e fr)) (hN : b < N) (hs : sh + c.length ≤ C.size)
    (h : LRel σ c ((C.toList.drop sh).take c.length)) : WRel N (σ.add s.next b sh none) (s.pushed (.rom c)) w := by
  have hle := Ren.le_add (b := b) (sh := sh) (x := none) (hw.fresh (Nat.le_refl s.next))
  have hlt : b < w.heap.size := (Array.getElem?_eq_some_iff.1 hb).1
  refine ⟨hw.base, ?_, ?_, ?_, ?_⟩
  · intro i b' sh' x' hi
    by_cases ei : i = s.next
    · subst ei
      rw [Ren.add_same] at hi; cases hi
      have : romAt (s.pushed (.rom c)).heap s.next = true := by unfold romAt; rw [get_pushed_new]; rfl
      exact ⟨⟨fun k => (by rw [this] at k; cases k), fun _ => hN⟩, hlt⟩
    · rw [Ren.add_ne ei] at hi
      rw [romAt_pushed ei]
      exact hw.lt hi
  · intro i hi
    rw [Ren.add_ne (by have : s.next + 1 ≤ i := hi; omega)]
    exact hw.fresh (by have : s.next + 1 ≤ i := hi; omega)
  · intro i b' sh' x' o hi ho
    by_cases ei : i = s.next
    · subst ei
      rw [Ren.add_same] at hi; cases hi
      rw [get_pushed_new] at ho; cases ho
      exact ⟨_, hb, .rom rfl hs (h.mono hle)⟩
    · rw [Ren.add_ne ei] at hi
      rw [get_pushed_old _ _ _ ei] at ho
      obtain ⟨O, h1, h2⟩ := hw.real hi ho
      exact ⟨O, h1, h2.mono hle⟩
  · intro i j b' sh1 x1 sh2 x2 o1 o2 hi hj h1 h2 d1 d2 hr
    by_cases ei : i = s.next
    · subst ei
      rw [get_pushed_new] at h1; cases h1; cases hr
    · rw [Ren.add_ne ei] at hi
      rw [get_pushed_old _ _ _ ei] at h1
      by_cases ej : j = s.next
      · subst ej
        rw [Ren.add_same] at hj; cases hj
        have : romAt s.heap i = false := by unfold romAt; rw [h1]; exact hr
        exact absurd ((hw.lt hi).1.1 this) (by omega)
      · rw [Ren.add_ne ej] at hj
        rw [get_pushed_old _ _ _ ej] at h2
        exact hw.inj hi hj h1 h2 d1 d2 hr
/-- A slice of the world gets a read-only block of the calculation. -/
theorem attach {N : Nat} {σ : Ren} {s : St} {w : World} (hw : WRel N σ s w) (hN : N = w.heap.size) {n : Nat} {v : Value} {l : List (List Value)} (h : SlW w n v l) (hl : ∀ x ∈ l, x.length = n) (hc : l.flatten.all closed1 = true) :
    ∃ τ s' v', σ.le τ ∧ WRel N τ s' w ∧ VRel τ v' v ∧ SlAt n s' v' l ∧ Keep s s' := by
  rcases h with ⟨rfl, rfl⟩ | ⟨b, off, cap, C, e, fr, rfl, hb, hf⟩
  · exact ⟨σ, s, .slice none 0 0, σ.le_refl, hw, .sliceNil _ _, .nil 0, Keep.refl _⟩
  have hlt : b < w.heap.size := (Array.getElem?_eq_some_iff.1 hb).1
  by_cases he : l = []
  · subst he
    have hw2 := WRel_rom hw (sh := 0) (c := []) hb (by omega) (by simp) (by simpa using LRel.nil)
    refine ⟨_, _, .slice (some ⟨s.next, off, none⟩) 0 cap, Ren.le_add (hw.fresh (Nat.le_refl _)), hw2, ?_, ?_, (Keep.refl s).pushed _⟩
    · have := VRel.slice (σ := σ.add s.next b 0 none) (i := s.next) (o := off) (o' := off) (b := b) (s := 0) (l := 0) (c := cap) (c' := cap) (x := none) Ren.add_same ⟨rfl, rfl⟩
      rw [Nat.zero_add] at this
      exact this
    · exact SlAt.mk (l := []) (Nat.lt_succ_self _) (get_pushed_new _ _) rfl (fun i e h => by simp at h)
  · obtain ⟨h1, h2⟩ := hf he
    have hw2 := WRel_rom hw (sh := off) (c := l.flatten) hb (by omega) h1 (by rw [h2]; exact closedL_rel hc)
    refine ⟨_, _, .slice (some ⟨s.next, 0, none⟩) l.length cap, Ren.le_add (hw.fresh (Nat.le_refl _)), hw2, ?_, ?_, (Keep.refl s).pushed _⟩
    · exact VRel.slice (σ := σ.add s.next b off none) (i := s.next) (o := 0) (o' := 0) (b := b) (s := off) (l := l.length) (c := cap) (c' := cap) (x := none) Ren.add_same ⟨rfl, rfl⟩
    · exact SlAt.mk (Nat.lt_succ_self _) (get_pushed_new _ _) rfl (fun i e h => by rw [Nat.zero_add]; exact drop_flat hl h)
theorem stubOk : StubOk Try.prog TT :=
  ⟨fun {g} h => by cases h; exact ⟨Try.f13, by kernel_rfl, by kernel_rfl, rfl⟩, fun {g} h w => by cases h; exact works_calls w⟩
/-- What the calculation finds true holds of the call in the world. -/
theorem calls_of_ev {g : FuncId} {args : List Value} {s : St} (h : Ev TT g args s fun r _ => r = .bool true) {N : Nat} {σ : Ren} {w : World} (hw : WRel N σ s w) (hN : N = w.heap.size) {args' : Array Value} (ha : LRel σ args args'.toList) :
    Calls Try.prog g args' w fun e w' => e = .returned (.bool true) ∧ Below w.heap.size w w' := by
  obtain ⟨m, ⟨v, s'⟩, h1, h2⟩ := h
  have h2' : v = .bool true := h2
  subst h2'
  refine ((run_ok tabOk rfl stubOk m).call (h1 m (Nat.le_refl _)) hw ha).mono fun e w' he => ?_
  obtain ⟨τ, v', rfl, hx, _, hv⟩ := he
  rw [hv.of_bool]
  exact ⟨rfl, hN ▸ hx.below⟩
end Go.Proofs.Ytjehpgflhgpalaa
namespace Go.Proofs.Ytjehpgflhgpalaa
open Go Kern RowKit Go.ChangeShapes Go.WideShapes Go.ChangeAt
open Go.ChangeMaps (open_string)
theorem take_eq_of {α : Type} {L cs : List α} {k n : Nat} (hl : cs.length = n) (h : ∀ j, j < n → L[k + j]? = cs[j]?) : (L.drop k).take n = cs := by
  apply List.ext_getElem?
  intro j
  rw [List.getElem?_take, List.getElem?_drop]
  by_cases hj : j < n
  · rw [if_pos hj]; exact h j hj
  · rw [if_neg hj, List.getElem?_eq_none (by omega)]
theorem rows_flat {α : Type} {L : List α} {k n : Nat} (g : Nat → List α) : ∀ {len : Nat}, (∀ i, i < len → (L.drop (k + i * n)).take n = g i) → ((List.range len).map g).flatten = (L.drop k).take (len * n)
  | 0, _ => by simp
  | len + 1, h => by
    rw [List.range_succ, List.map_append, List.flatten_append, rows_flat g (fun i hi => h i (by omega)), List.map_cons, List.map_nil, List.flatten_cons, List.flatten_nil, List.append_nil, ← h len (by omega),
      Nat.add_mul, Nat.one_mul, List.take_add, List.drop_drop]
/-- A slice that the row reads, as a list of its elements' cells. -/
theorem slW_of {H : Type} {enc : TypeId × Value → H} {P : Program} {W : World} {t e : TypeId} {n fuel : Nat} {v : Value} {x : DataW H × List MemPlace} (ht : P.underlying t = some (.slice e)) (hn : P.cellsOf e = n) (hn0 : 0 < n)
    (hok : Cell.ok P W .any 0 t v) (h : DataW.trod enc P W 0 (fun _ => true) true fuel t [v] = some x) :
    ∃ l, SlW W n v l ∧ (∀ y ∈ l, y.length = n) ∧ ∀ y ∈ l, ∃ m z, DataW.trod enc P W 0 (fun _ => true) true m e y = some z := by
  rcases Go.Deep.open_slice ht h with ⟨hcs, _⟩ | ⟨a, len, cap, m, q, D, Pl, hcs, _, hlc, _, hm, _, hel⟩
  · simp at hcs; subst hcs
    exact ⟨[], .inl ⟨rfl, rfl⟩, by simp, by simp⟩
  · simp at hcs; subst hcs
    simp only [Cell.ok, ht] at hok
    obtain ⟨_, _, _, hsp, row, cells, hsh, _⟩ := hok
    obtain ⟨b, off, spot⟩ := a
    simp only at hsp; subst hsp
    obtain ⟨C, E, fr, hb⟩ : ∃ C E fr, W.heap[b]? = some (.cells C E fr) := by
      unfold World.shape? at hsh
      simp only at hsh
      split at hsh
      · rename_i c el fr hh; exact ⟨c, el, fr, hh⟩
      all_goals cases hsh
    rw [hn] at hel
    simp at hm; subst hm
    have hrow : ∀ i, i < len → ∃ cs', cs'.length = n ∧ (∀ j, j < n → C.toList[off + i * n + j]? = cs'[j]?) ∧ ∃ z, DataW.trod enc P W 0 (fun _ => true) true q e cs' = some z := fun i hi => by
      obtain ⟨cs', h1, h2⟩ := hel i (by omega)
      obtain ⟨_, h3, h4⟩ := World.cells?_some h1
      refine ⟨cs', h3, fun j hj => ?_, _, h2⟩
      have := h4 j hj
      rw [addr_add, addr_add] at this
      simp only [World.cell?, hb] at this
      simpa using this
    have hg : ∀ i, i < len → ((C.toList.drop (off + i * n)).take n).length = n ∧ ∃ z, DataW.trod enc P W 0 (fun _ => true) true q e ((C.toList.drop (off + i * n)).take n) = some z := fun i hi => by
      obtain ⟨cs', h1, h2, z, h3⟩ := hrow i hi
      rw [take_eq_of h1 h2]
      exact ⟨h1, z, h3⟩
    have hfl := rows_flat (L := C.toList) (k := off) (n := n) (len := len) (fun i => (C.toList.drop (off + i * n)).take n) fun _ _ => rfl
    refine ⟨(List.range len).map fun i => (C.toList.drop (off + i * n)).take n, .inr ⟨b, off, m, C, E, fr, by simp, hb, fun hne => ?_⟩, fun y hy => ?_, fun y hy => ?_⟩
    · rw [hfl]
      have hlen : 0 < len := by
        rcases Nat.eq_zero_or_pos len with h | h
        · subst h; simp at hne
        · exact h
      obtain ⟨cs', h1, h2, _⟩ := hrow (len - 1) (by omega)
      have h3 := h2 (n - 1) (by omega)
      rw [List.getElem?_eq_getElem (l := cs') (by omega)] at h3
      have h4 := (List.getElem?_eq_some_iff.1 h3).1
      have h5 : len * n = (len - 1) * n + n := by rw [← Nat.succ_mul]; congr 1; omega
      have h6 : off + len * n ≤ C.size := by simp at h4; omega
      have h7 : ((C.toList.drop off).take (len * n)).length = len * n := by simp; omega
      rw [h7]
      exact ⟨h6, rfl⟩
    · obtain ⟨i, hi, rfl⟩ := List.mem_map.1 hy
      exact (hg i (by simpa using hi)).1
    · obtain ⟨i, hi, rfl⟩ := List.mem_map.1 hy
      obtain ⟨z, hz⟩ := (hg i (by simpa using hi)).2
      exact ⟨_, z, hz⟩
theorem list_of {α β : Type} {g : β → α} : ∀ {l : List α}, (∀ y ∈ l, ∃ f, y = g f) → ∃ fs : List β, l = fs.map g
  | [], _ => ⟨[], rfl⟩
  | y :: r, h => by
    obtain ⟨f, rfl⟩ := h y (.head _)
    obtain ⟨fs, rfl⟩ := list_of (l := r) fun z hz => h z (.tail _ hz)
    exact ⟨f :: fs, rfl⟩
section
variable {H : Type} {enc : TypeId × Value → H} {W : World}
end
end Go.Proofs.Ytjehpgflhgpalaa
namespace Go.Proofs.Ytjehpgflhgpalaa
open Go Kern RowKit Go.ChangeShapes Go.WideShapes Go.ChangeAt
/-! A mill by numbers, as the row reads it -/
theorem un5 : Try.prog.underlying 5 = some (.int .u8) := by kernel_rfl
theorem un76 : Try.prog.underlying 76 = some (.int .u16) := by kernel_rfl
theorem un74 : Try.prog.underlying 74 = some (.slice 122) := by kernel_rfl
theorem un75 : Try.prog.underlying 75 = some (.slice 5) := by kernel_rfl
theorem un122 : Try.prog.underlying 122 = some (.array 2 5) := by kernel_rfl
theorem un78 : ∃ f0 f1 f2 f3 : Field, Try.prog.underlying 78 = some (.struct #[f0, f1, f2, f3]) ∧ (f0.type = 5 ∧ f0.offset = 0) ∧ (f1.type = 74 ∧ f1.offset = 1) ∧ (f2.type = 75 ∧ f2.offset = 2) ∧ (f3.type = 76 ∧ f3.offset = 3) := ⟨_, _, _, _, Try.underlying78, ⟨rfl, rfl⟩, ⟨rfl, rfl⟩, ⟨rfl, rfl⟩, rfl, rfl⟩
theorem ce5 : Try.prog.cellsOf 5 = 1 := by kernel_rfl
theorem ce76 : Try.prog.cellsOf 76 = 1 := by kernel_rfl
theorem ce74 : Try.prog.cellsOf 74 = 1 := by kernel_rfl
theorem ce75 : Try.prog.cellsOf 75 = 1 := by kernel_rfl
theorem ce122 : Try.prog.cellsOf 122 = 2 := by kernel_rfl
theorem ce78 : Try.prog.cellsOf 78 = 4 := by kernel_rfl
theorem ct78 : Try.prog.cellTypes Try.prog.depth 78 = some [5, 74, 75, 76] := by kernel_rfl
theorem range8_of_wf {x : Int} (h : (Lit.int .u8 x).wf = true) : 0 ≤ x ∧ x < 256 := by
  simp [Lit.wf, IntKind.min, IntKind.max, IntKind.bits, IntKind.signed] at h
  omega
section
variable {H : Type} {enc : TypeId × Value → H} {W : World}
theorem trod_array2 {P : Program} {base : Nat} {spare : Nat → Bool} {held : Bool} {w : World} {t e : TypeId} {fuel : Nat} {c0 c1 : Value} {x : DataW H × List MemPlace} (ht : P.underlying t = some (.array 2 e)) (hce : P.cellsOf e = 1)
    (h : DataW.trod enc P w base spare held fuel t [c0, c1] = some x) :
    ∃ y0 y1 n, DataW.trod enc P w base spare held n e [c0] = some y0 ∧ DataW.trod enc P w base spare held n e [c1] = some y1 := by
  cases fuel with
  | zero => simp [DataW.trod] at h
  | succ n =>
    unfold DataW.trod at h
    rw [ht] at h
    have r2 : List.range 2 = [0, 1] := rfl
    simp [r2, hce] at h
    obtain ⟨_, h⟩ := h
    cases h0 : DataW.trod enc P w base spare held n e [c0] with
    | none => simp [h0] at h
    | some y0 =>
      cases h1 : DataW.trod enc P w base spare held n e [c1] with
      | none => simp [h0, h1] at h
      | some y1 => exact ⟨y0, y1, n, h0, h1⟩
theorem byte_of {m : Nat} {cs : List Value} {z : DataW H × List MemPlace} (h : DataW.trod enc Try.prog W 0 (fun _ => true) true m 5 cs = some z) : ∃ x : Int, cs = [Value.int .u8 x] ∧ 0 ≤ x ∧ x < 256 := by
  obtain ⟨x, e, _, w⟩ := DataW.trod_int un5 h
  exact ⟨x, e, range8_of_wf w⟩
theorem end_of {m : Nat} {cs : List Value} {z : DataW H × List MemPlace} (hl : cs.length = 2) (h : DataW.trod enc Try.prog W 0 (fun _ => true) true m 122 cs = some z) : ∃ e : { e : Int × Int // (0 ≤ e.1 ∧ e.1 < 256) ∧ (0 ≤ e.2 ∧ e.2 < 256) }, cs = [Value.int .u8 e.1.1, Value.int .u8 e.1.2] := by
  match cs, hl with
  | [c0, c1], _ =>
    obtain ⟨y0, y1, n, h0, h1⟩ := trod_array2 un122 ce5 h
    obtain ⟨x0, e0, r0⟩ := byte_of h0
    obtain ⟨x1, e1, r1⟩ := byte_of h1
    simp at e0 e1
    subst e0 e1
    exact ⟨⟨(x0, x1), r0, r1⟩, rfl⟩
theorem sl_len {P : Program} {t e : TypeId} {n : Nat} {v : Value} {l : List (List Value)} (ht : P.underlying t = some (.slice e)) (hok : Cell.ok P W .any 0 t v) (h : SlW W n v l) : (l.length : Int) ≤ 9223372036854775807 := by
  rcases h with ⟨rfl, _⟩ | ⟨b, off, cap, C, E, fr, rfl, _, _⟩
  · simp
  · simp only [Cell.ok, ht] at hok
    obtain ⟨h1, h2, _⟩ := hok
    have : IntKind.i64.max = 9223372036854775807 := by kernel_rfl
    omega
set_option maxRecDepth 100000 in
theorem bytes_ok {v : Value} {fuel : Nat} {x : DataW H × List MemPlace} (hok : Cell.ok Try.prog W .any 0 75 v) (hf : DataW.trod enc Try.prog W 0 (fun _ => true) true fuel 75 [v] = some x) :
    ∃ xs : List Int, SlW W 1 v (xs.map fun x => [Value.int .u8 x]) ∧ (∀ x ∈ xs, 0 ≤ x ∧ x < 256) ∧ (xs.length : Int) ≤ 9223372036854775807 := by
  obtain ⟨l, g1, g2, g3⟩ := slW_of un75 ce5 (by omega) hok hf
  have hlen := sl_len un75 hok g1
  obtain ⟨xs, rfl⟩ := list_of (g := fun x : { x : Int // 0 ≤ x ∧ x < 256 } => [Value.int .u8 x.1]) fun y hy => by
    obtain ⟨m, z, hz⟩ := g3 y hy
    obtain ⟨x, e, r⟩ := byte_of hz
    exact ⟨⟨x, r⟩, e⟩
  refine ⟨xs.map (·.1), by rw [List.map_map]; exact g1, fun x hx => ?_, by simpa using hlen⟩
  obtain ⟨y, _, rfl⟩ := List.mem_map.1 hx
  exact y.2
set_option maxRecDepth 100000 in
theorem ends_ok {v : Value} {fuel : Nat} {x : DataW H × List MemPlace} (hok : Cell.ok Try.prog W .any 0 74 v) (hf : DataW.trod enc Try.prog W 0 (fun _ => true) true fuel 74 [v] = some x) :
    ∃ es : List (Int × Int), SlW W 2 v (es.map fun e => [Value.int .u8 e.1, Value.int .u8 e.2]) ∧ ∀ e ∈ es, (0 ≤ e.1 ∧ e.1 < 256) ∧ (0 ≤ e.2 ∧ e.2 < 256) := by
  obtain ⟨l, g1, g2, g3⟩ := slW_of un74 ce122 (by omega) hok hf
  obtain ⟨xs, rfl⟩ := list_of (g := fun e : { e : Int × Int // (0 ≤ e.1 ∧ e.1 < 256) ∧ (0 ≤ e.2 ∧ e.2 < 256) } => [Value.int .u8 e.1.1, Value.int .u8 e.1.2]) fun y hy => by
    obtain ⟨m, z, hz⟩ := g3 y hy
    exact end_of (g2 y hy) hz
  refine ⟨xs.map (·.1), by rw [List.map_map]; exact g1, fun x hx => ?_⟩
  obtain ⟨y, _, rfl⟩ := List.mem_map.1 hx
  exact y.2
set_option maxRecDepth 100000 in
theorem mill_of {v : Value} {d : DataW H} {p : List MemPlace} (hv : Value.okWide Try.prog W .any 0 78 v) (h : DataW.Trod enc Try.prog W 0 (fun _ => true) true 78 v d p) :
    ∃ (U K : Int) (ve vm : Value) (es : List (Int × Int)) (ms : List Int), v = .agg #[.int .u8 U, ve, vm, .int .u16 K] ∧ (0 ≤ U ∧ U < 256) ∧ SlW W 2 ve (es.map fun e => [Value.int .u8 e.1, Value.int .u8 e.2]) ∧ SlW W 1 vm (ms.map fun x => [Value.int .u8 x]) ∧
      (∀ e ∈ es, (0 ≤ e.1 ∧ e.1 < 256) ∧ (0 ≤ e.2 ∧ e.2 < 256)) ∧ ∀ x ∈ ms, 0 ≤ x ∧ x < 256 := by
  obtain ⟨f0, f1, f2, f3, hu, ⟨t0, o0⟩, ⟨t1, o1⟩, ⟨t2, o2⟩, t3, o3⟩ := un78
  have hv' := hv
  simp only [Value.okWide, hu] at hv'
  obtain ⟨cs, rfl, hsz, ts, hts, _, hrow⟩ := hv'
  rw [ct78] at hts; cases hts
  rw [ce78] at hsz
  obtain ⟨fuel, hf⟩ := h
  obtain ⟨l⟩ := cs
  match l, hsz with
  | [c0, c1, c2, c3], _ =>
    obtain ⟨y0, y1, y2, y3, n, _, _, h0, h1, h2, h3⟩ := Go.Joins.trod_struct4 hu hf
    rw [t0, o0, ce5] at h0
    rw [t1, o1, ce74] at h1
    rw [t2, o2, ce75] at h2
    rw [t3, o3, ce76] at h3
    obtain ⟨U, e0, rU⟩ := byte_of h0
    obtain ⟨K, e3, _, _⟩ := DataW.trod_int un76 h3
    simp [Value.cells] at e0 e3 h1 h2
    subst e0 e3
    obtain ⟨w1, hw1, hok1⟩ := hrow 1 c1 rfl
    simp at hw1; subst hw1
    obtain ⟨w2, hw2, hok2⟩ := hrow 2 c2 rfl
    simp at hw2; subst hw2
    obtain ⟨a, len, cap, rfl⟩ : ∃ a len cap, c1 = .slice a len cap := by
      simp only [Cell.okWide, un74] at hok1
      cases c1 <;> simp_all [Cell.ok]
    have hok1' : Cell.ok Try.prog W .any 0 74 (.slice a len cap) := by
      simp only [Cell.okWide, un74] at hok1; exact hok1
    obtain ⟨a2, len2, cap2, rfl⟩ : ∃ a len cap, c2 = .slice a len cap := by
      simp only [Cell.okWide, un75] at hok2
      cases c2 <;> simp_all [Cell.ok]
    have hok2' : Cell.ok Try.prog W .any 0 75 (.slice a2 len2 cap2) := by
      simp only [Cell.okWide, un75] at hok2; exact hok2
    obtain ⟨es, g1, g2⟩ := ends_ok hok1' h1
    obtain ⟨ms, g3, g4, _⟩ := bytes_ok hok2' h2
    exact ⟨U, K, _, _, es, ms, rfl, rU, g1, g3, g2, g4⟩
end
/-- A mill of the world in the calculation's memory. -/
theorem attach_mill {W : World} {ve vm : Value} {es : List (Int × Int)} {ms : List Int} {N : Nat} {σ : Ren} {s : St} (hw : WRel N σ s W) (hN : N = W.heap.size) (U K : Int) (he : SlW W 2 ve (es.map fun e => [Value.int .u8 e.1, Value.int .u8 e.2])) (hm : SlW W 1 vm (ms.map fun x => [Value.int .u8 x])) :
    ∃ τ s' ve' vm', σ.le τ ∧ WRel N τ s' W ∧ VRel τ (millV U ve' vm' K) (.agg #[.int .u8 U, ve, vm, .int .u16 K]) ∧ EndsAt s' ve' es ∧ BytesAt s' vm' ms ∧ Keep s s' := by
  obtain ⟨σ1, s1, ve', l1, hw1, hv, hs1, k1⟩ := attach hw hN he (fun x hx => by obtain ⟨f, _, rfl⟩ := List.mem_map.1 hx; rfl) (by
    rw [List.all_eq_true]; intro y hy
    obtain ⟨z, hz, hy⟩ := List.mem_flatten.1 hy
    obtain ⟨f, _, rfl⟩ := List.mem_map.1 hz
    simp at hy
    rcases hy with rfl | rfl <;> rfl)
  obtain ⟨σ2, s2, vm', l2, hw2, hv2, hs2, k2⟩ := attach hw1 hN hm (fun x hx => by obtain ⟨f, _, rfl⟩ := List.mem_map.1 hx; rfl) (by
    rw [List.all_eq_true]; intro y hy
    obtain ⟨z, hz, hy⟩ := List.mem_flatten.1 hy
    obtain ⟨f, _, rfl⟩ := List.mem_map.1 hz
    simp at hy
    subst hy; rfl)
  exact ⟨σ2, s2, ve', vm', fun i r h => l2 i r (l1 i r h), hw2, .agg (.cons (.int _ _) (.cons (hv.mono l2) (.cons hv2 (.cons (.int _ _) .nil)))), hs1.keep k2, hs2, k1.trans k2⟩
theorem Try.own : ownKnob Try.prog.godebug = none := by kernel_rfl
theorem laidB : laidOutB Try.prog = true := by kernel_rfl
theorem again_of {H : Type} {enc : TypeId × Value → H} {t : TypeId} {W W' : World} {v : Value} {d : DataW H} {p : List MemPlace} (hr : Try.prog.readableRec t = true) (ht : t < Try.prog.types.size)
    (h : DataW.Trod enc Try.prog W 0 (fun _ => true) true t v d p) (hb : Below W.heap.size W W') : DataW.Trod enc Try.prog W' 0 (fun b => decide (b < W.heap.size)) true t v d p :=
  Below.trod laidB hr ht h hb (DataW.TrodAll.lt (trodAll_mk1 h))
end Go.Proofs.Ytjehpgflhgpalaa
namespace Go.Proofs.Ytjehpgflhgpalaa
open Go Kern RowKit Go.ChangeShapes Go.WideShapes Go.ChangeAt
theorem lawO_calls (U K b sp pt : Int) (ve vm : Value) (es : List (Int × Int)) (ms : List Int) (W : World) (hU : 0 ≤ U ∧ U < 256) (hb : 0 ≤ b ∧ b < 256) (hsp : 0 ≤ sp ∧ sp < 256) (hpt : 0 ≤ pt ∧ pt < 256) (hes : SlW W 2 ve (es.map fun e => [Value.int .u8 e.1, Value.int .u8 e.2])) (hms : SlW W 1 vm (ms.map fun x => [Value.int .u8 x]))
    (hbe : ∀ e ∈ es, (0 ≤ e.1 ∧ e.1 < 256) ∧ (0 ≤ e.2 ∧ e.2 < 256)) (hbm : ∀ x ∈ ms, 0 ≤ x ∧ x < 256) :
    Calls Try.prog 11 #[.agg #[.int .u8 U, ve, vm, .int .u16 K], .int .u8 b, .int .u8 sp, .int .u8 pt] W fun e w' => e = .returned (.bool true) ∧ Below W.heap.size W w' := by
  have hw0 : WRel W.heap.size (fun _ => none) ⟨.leaf, 0⟩ W := ⟨Nat.le_refl _, (fun h => by cases h), fun _ => rfl, (fun h => by cases h), (fun h => by cases h)⟩
  obtain ⟨σ1, s1, ve', vm', _, hw1, hv, hs1, hs1', k1⟩ := attach_mill hw0 rfl U K hes hms
  refine calls_of_ev (lawO_ev U K b sp pt ve' vm' es ms s1 hU hb hsp hpt hs1 hs1' hbe hbm) hw1 rfl ?_
  exact .cons hv (.cons (.int _ _) (.cons (.int _ _) (.cons (.int _ _) .nil)))
set_option maxRecDepth 100000 in
theorem order_lifted (os : Os) (started : os.Started) (H : Type) (enc : TypeId × Value → H) :
    ReturnsInHanded {} Try.checked os 11 .any (Rows.bulkOrderSpec.pre6 enc Try.prog Try.f11 Rows.bulkOrderRow.domain false) (Rows.bulkOrderSpec.post enc Try.prog Try.f11 false true false false) := by
  refine returnsInHanded_of_change (C := Try.checked) Try.own started (by kernel_rfl) Try.func11
    (ChangeSpec.witness6 (enc := enc) (C := Try.checked) false ⟨#[], #[.agg #[.int .u8 0, .slice none 0 0, .slice none 0 0, .int .u16 0], .int .u8 0, .int .u8 0, .int .u8 0], []⟩ 8 (by kernel_rfl) (by kernel_rfl) (by kernel_rfl) (by kernel_rfl)) ?_
  intro W base args ds gs before hval hW hcnd _
  have hW' := hW
  obtain ⟨p, q, hA0, hV, rfl, hfz, hnd⟩ := hW
  have hA : DataW.TrodAll enc Try.prog W 0 (fun _ => true) true Try.f11.params.toList args.toList ds p := hA0
  rw [Try.params11] at hA
  obtain ⟨v0, v1, v2, v3, d0, d1, d2, d3, p0, p1, p2, p3, rfl, rfl, rfl, h0, h1, h2, h3⟩ := trodAll_four hA
  obtain ⟨rfl, rfl⟩ := trodVars_none hV
  have h1k := h1
  have h2k := h2
  have h3k := h3
  obtain ⟨U, K, ve, vm, es, ms, rfl, hU, hes, hms, hbe, hbm⟩ := mill_of (hval 0 78 v0 rfl rfl) h0
  obtain ⟨b, rfl, rfl, rfl, hb⟩ := open_int un5 (hval 1 5 v1 rfl rfl) h1
  obtain ⟨un, rfl, rfl, rfl, hu⟩ := open_int un5 (hval 2 5 v2 rfl rfl) h2
  obtain ⟨kd, rfl, rfl, rfl, hk⟩ := open_int un5 (hval 3 5 v3 rfl rfl) h3
  refine (lawO_calls U K b un kd ve vm es ms W hU (range8_of_wf hb) (range8_of_wf hu) (range8_of_wf hk) hes hms hbe hbm).mono fun e W' ⟨he, hbl⟩ => ?_
  subst he
  exact ⟨_, rfl, [_, _, _, _], [], _, [], _, [], hW', trodAll_mk1 (shut_bool Try.underlying4 _), trodAll_mk4 (again_of (by kernel_rfl) (of_decide_eq_true (by kernel_rfl)) h0 hbl) (again_of (by kernel_rfl) (of_decide_eq_true (by kernel_rfl)) h1k hbl) (again_of (by kernel_rfl) (of_decide_eq_true (by kernel_rfl)) h2k hbl) (again_of (by kernel_rfl) (of_decide_eq_true (by kernel_rfl)) h3k hbl), rfl, hbl.frame _, fun h => by cases h⟩

theorem order_holds : Rows.BulkOrderSaid :=
  OpenClaim.holds_of_wide 11 Try.f11 rfl rfl rfl rfl rfl rfl rfl ⟨rfl, rfl, rfl, rfl, rfl⟩ rfl rfl rfl rfl rfl (by kernel_rfl) Try.func11 (by kernel_rfl)
    (of_decide_eq_true (by kernel_rfl)) (by unfold Func.isWrapper; first | (rw [if_pos (by decide +kernel)]; kernel_rfl) | (rw [if_neg (by decide +kernel)]; exact ⟨rfl, rfl⟩))
    (fun os started H enc _ => order_lifted os started H enc)
end Go.Proofs.Ytjehpgflhgpalaa
