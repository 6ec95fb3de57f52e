/-
  . They hold with no condition but those that are written in each theorem.
-/
import Derived.Test.YtnhokodcmeekhaaRows
import Derived.ProofKit
import Derived.Deep.Slices
import Derived.Lib.SmallJoins
import Derived.Laws.IdiomArrays
import Derived.Deep.Strs
import Derived.Test.YtnhokodcmeekhaaPN1
import Derived.Test.YtnhokodcmeekhaaPN2
import Derived.Test.YtnhokodcmeekhaaPN3
import Derived.Test.YtnhokodcmeekhaaPN4
import Derived.Test.YtnhokodcmeekhaaPN5
set_option linter.unusedSimpArgs false
set_option linter.unusedVariables false
namespace Go.Proofs.Ytnhokodcmeekhaa
open Go Kern RowKit Go.ChangeShapes Go.WideShapes Go.ChangeAt
open Go.ChangeMaps (open_string)
theorem take_eq_of {α : Type} {L cs : List α} {k n : Nat} (hl : cs.length = n) (h : ∀ j, j < n → L[k + j]? = cs[j]?) : (L.drop k).take n = cs := by
  apply List.ext_getElem?
  intro j
  rw [List.getElem?_take, List.getElem?_drop]
  by_cases hj : j < n
  · rw [if_pos hj]; exact h j hj
  · rw [if_neg hj, List.getElem?_eq_none (by omega)]
theorem rows_flat {α : Type} {L : List α} {k n : Nat} (g : Nat → List α) : ∀ {len : Nat}, (∀ i, i < len → (L.drop (k + i * n)).take n = g i) → ((List.range len).map g).flatten = (L.drop k).take (len * n)
  | 0, _ => by simp
  | len + 1, h => by
    rw [List.range_succ, List.map_append, List.flatten_append, rows_flat g (fun i hi => h i (by omega)), List.map_cons, List.map_nil, List.flatten_cons, List.flatten_nil, List.append_nil, ← h len (by omega),
      Nat.add_mul, Nat.one_mul, List.take_add, List.drop_drop]
/-- A slice that the row reads, as a list of its elements' cells. -/
theorem slW_of {H : Type} {enc : TypeId × Value → H} {P : Program} {W : World} {t e : TypeId} {n fuel : Nat} {v : Value} {x : DataW H × List MemPlace} (ht : P.underlying t = some (.slice e)) (hn : P.cellsOf e = n) (hn0 : 0 < n)
    (hok : Cell.ok P W .any 0 t v) (h : DataW.trod enc P W 0 (fun _ => true) true fuel t [v] = some x) :
    ∃ l, SlW W n v l ∧ (∀ y ∈ l, y.length = n) ∧ ∀ y ∈ l, ∃ m z, DataW.trod enc P W 0 (fun _ => true) true m e y = some z := by
  rcases Go.Deep.open_slice ht h with ⟨hcs, _⟩ | ⟨a, len, cap, m, q, D, Pl, hcs, _, hlc, _, hm, _, hel⟩
  · simp at hcs; subst hcs
    exact ⟨[], .inl ⟨rfl, rfl⟩, by simp, by simp⟩
  · simp at hcs; subst hcs
    simp only [Cell.ok, ht] at hok
    obtain ⟨_, _, _, hsp, row, cells, hsh, _⟩ := hok
    obtain ⟨b, off, spot⟩ := a
    simp only at hsp; subst hsp
    obtain ⟨C, E, fr, hb⟩ : ∃ C E fr, W.heap[b]? = some (.cells C E fr) := by
      unfold World.shape? at hsh
      simp only at hsh
      split at hsh
      · rename_i c el fr hh; exact ⟨c, el, fr, hh⟩
      all_goals cases hsh
    rw [hn] at hel
    simp at hm; subst hm
    have hrow : ∀ i, i < len → ∃ cs', cs'.length = n ∧ (∀ j, j < n → C.toList[off + i * n + j]? = cs'[j]?) ∧ ∃ z, DataW.trod enc P W 0 (fun _ => true) true q e cs' = some z := fun i hi => by
      obtain ⟨cs', h1, h2⟩ := hel i (by omega)
      obtain ⟨_, h3, h4⟩ := World.cells?_some h1
      refine ⟨cs', h3, fun j hj => ?_, _, h2⟩
      have := h4 j hj
      rw [addr_add, addr_add] at this
      simp only [World.cell?, hb] at this
      simpa using this
    have hg : ∀ i, i < len → ((C.toList.drop (off + i * n)).take n).length = n ∧ ∃ z, DataW.trod enc P W 0 (fun _ => true) true q e ((C.toList.drop (off + i * n)).take n) = some z := fun i hi => by
      obtain ⟨cs', h1, h2, z, h3⟩ := hrow i hi
      rw [take_eq_of h1 h2]
      exact ⟨h1, z, h3⟩
    have hfl := rows_flat (L := C.toList) (k := off) (n := n) (len := len) (fun i => (C.toList.drop (off + i * n)).take n) fun _ _ => rfl
    refine ⟨(List.range len).map fun i => (C.toList.drop (off + i * n)).take n, .inr ⟨b, off, m, C, E, fr, by simp, hb, fun hne => ?_⟩, fun y hy => ?_, fun y hy => ?_⟩
    · rw [hfl]
      have hlen : 0 < len := by
        rcases Nat.eq_zero_or_pos len with h | h
        · subst h; simp at hne
        · exact h
      obtain ⟨cs', h1, h2, _⟩ := hrow (len - 1) (by omega)
      have h3 := h2 (n - 1) (by omega)
      rw [List.getElem?_eq_getElem (l := cs') (by omega)] at h3
      have h4 := (List.getElem?_eq_some_iff.1 h3).1
      have h5 : len * n = (len - 1) * n + n := by rw [← Nat.succ_mul]; congr 1; omega
      have h6 : off + len * n ≤ C.size := by simp at h4; omega
      have h7 : ((C.toList.drop off).take (len * n)).length = len * n := by simp; omega
      rw [h7]
      exact ⟨h6, rfl⟩
    · obtain ⟨i, hi, rfl⟩ := List.mem_map.1 hy
      exact (hg i (by simpa using hi)).1
    · obtain ⟨i, hi, rfl⟩ := List.mem_map.1 hy
      obtain ⟨z, hz⟩ := (hg i (by simpa using hi)).2
      exact ⟨_, z, hz⟩
theorem list_of {α β : Type} {g : β → α} : ∀ {l : List α}, (∀ y ∈ l, ∃ f, y = g f) → ∃ fs : List β, l = fs.map g
  | [], _ => ⟨[], rfl⟩
  | y :: r, h => by
    obtain ⟨f, rfl⟩ := h y (.head _)
    obtain ⟨fs, rfl⟩ := list_of (l := r) fun z hz => h z (.tail _ hz)
    exact ⟨f :: fs, rfl⟩
section
variable {H : Type} {enc : TypeId × Value → H} {W : World}
end
end Go.Proofs.Ytnhokodcmeekhaa
namespace Go.Proofs.Ytnhokodcmeekhaa
open Go Kern RowKit Go.ChangeShapes Go.WideShapes Go.ChangeAt
theorem Try.own : ownKnob Try.prog.godebug = none := by kernel_rfl
theorem laidB : laidOutB Try.prog = true := by kernel_rfl
theorem again_of {H : Type} {enc : TypeId × Value → H} {t : TypeId} {W W' : World} {v : Value} {d : DataW H} {p : List MemPlace} (hr : Try.prog.readableRec t = true) (ht : t < Try.prog.types.size)
    (h : DataW.Trod enc Try.prog W 0 (fun _ => true) true t v d p) (hb : Below W.heap.size W W') : DataW.Trod enc Try.prog W' 0 (fun b => decide (b < W.heap.size)) true t v d p :=
  Below.trod laidB hr ht h hb (DataW.TrodAll.lt (trodAll_mk1 h))
end Go.Proofs.Ytnhokodcmeekhaa
namespace Go.Proofs.Ytnhokodcmeekhaa
open Go Kern RowKit Go.ChangeShapes Go.WideShapes Go.ChangeAt
end Go.Proofs.Ytnhokodcmeekhaa
namespace Go.Proofs.Ytnhokodcmeekhaa
open Go Kern RowKit Go.ChangeShapes Go.WideShapes Go.ChangeAt
end Go.Proofs.Ytnhokodcmeekhaa
namespace Go.Proofs.Ytnhokodcmeekhaa
open Go Kern RowKit Go.ChangeShapes Go.WideShapes Go.ChangeAt
/-! A crop by numbers, as the row reads it -/
theorem un5 : Try.prog.underlying 5 = some (.int .u8) := by kernel_rfl
theorem un59 : Try.prog.underlying 59 = some (.slice 5) := by kernel_rfl
theorem un60 : Try.prog.underlying 60 = some (.array 2 5) := by kernel_rfl
theorem un61 : Try.prog.underlying 61 = some (.slice 80) := by kernel_rfl
theorem un80 : Try.prog.underlying 80 = some (.array 3 5) := by kernel_rfl
theorem un63 : ∃ f0 f1 f2 f3 f4 f5 : Field, Try.prog.underlying 63 = some (.struct #[f0, f1, f2, f3, f4, f5]) ∧ (f0.type = 5 ∧ f0.offset = 0) ∧ (f1.type = 5 ∧ f1.offset = 1) ∧ (f2.type = 5 ∧ f2.offset = 2) ∧ (f3.type = 59 ∧ f3.offset = 3) ∧ (f4.type = 60 ∧ f4.offset = 4) ∧ (f5.type = 61 ∧ f5.offset = 6) := ⟨_, _, _, _, _, _, Try.underlying63, ⟨rfl, rfl⟩, ⟨rfl, rfl⟩, ⟨rfl, rfl⟩, ⟨rfl, rfl⟩, ⟨rfl, rfl⟩, rfl, rfl⟩
theorem ce5 : Try.prog.cellsOf 5 = 1 := by kernel_rfl
theorem ce59 : Try.prog.cellsOf 59 = 1 := by kernel_rfl
theorem ce60 : Try.prog.cellsOf 60 = 2 := by kernel_rfl
theorem ce61 : Try.prog.cellsOf 61 = 1 := by kernel_rfl
theorem ce80 : Try.prog.cellsOf 80 = 3 := by kernel_rfl
theorem ce63 : Try.prog.cellsOf 63 = 7 := by kernel_rfl
theorem ct63 : Try.prog.cellTypes Try.prog.depth 63 = some [5, 5, 5, 59, 5, 5, 61] := by kernel_rfl
theorem range8_of_wf {x : Int} (h : (Lit.int .u8 x).wf = true) : Byte x := by
  simp [Lit.wf, IntKind.min, IntKind.max, IntKind.bits, IntKind.signed] at h
  unfold Byte; omega
section
variable {H : Type} {enc : TypeId × Value → H} {W : World}
theorem trod_array2 {P : Program} {base : Nat} {spare : Nat → Bool} {held : Bool} {w : World} {t e : TypeId} {fuel : Nat} {c0 c1 : Value} {x : DataW H × List MemPlace} (ht : P.underlying t = some (.array 2 e)) (hce : P.cellsOf e = 1)
    (h : DataW.trod enc P w base spare held fuel t [c0, c1] = some x) :
    ∃ y0 y1 n, DataW.trod enc P w base spare held n e [c0] = some y0 ∧ DataW.trod enc P w base spare held n e [c1] = some y1 := by
  cases fuel with
  | zero => simp [DataW.trod] at h
  | succ n =>
    unfold DataW.trod at h
    rw [ht] at h
    have r2 : List.range 2 = [0, 1] := rfl
    simp [r2, hce] at h
    obtain ⟨_, h⟩ := h
    cases h0 : DataW.trod enc P w base spare held n e [c0] with
    | none => simp [h0] at h
    | some y0 =>
      cases h1 : DataW.trod enc P w base spare held n e [c1] with
      | none => simp [h0, h1] at h
      | some y1 => exact ⟨y0, y1, n, h0, h1⟩
theorem byte_of {m : Nat} {cs : List Value} {z : DataW H × List MemPlace} (h : DataW.trod enc Try.prog W 0 (fun _ => true) true m 5 cs = some z) : ∃ x : Int, cs = [Value.int .u8 x] ∧ Byte x := by
  obtain ⟨x, e, _, w⟩ := DataW.trod_int un5 h
  exact ⟨x, e, range8_of_wf w⟩
theorem three_of {m : Nat} {cs : List Value} {z : DataW H × List MemPlace} (hl : cs.length = 3) (h : DataW.trod enc Try.prog W 0 (fun _ => true) true m 80 cs = some z) : ∃ e : { e : Int × Int × Int // Bytes3 e }, cs = u8T e.1 := by
  match cs, hl with
  | [c0, c1, c2], _ =>
    obtain ⟨y0, y1, y2, n, _, h0, h1, h2⟩ := Go.ChangeShapes.trod_array3 un80 ce5 h
    obtain ⟨x0, e0, r0⟩ := byte_of h0
    obtain ⟨x1, e1, r1⟩ := byte_of h1
    obtain ⟨x2, e2, r2⟩ := byte_of h2
    simp at e0 e1 e2
    subst e0 e1 e2
    exact ⟨⟨(x0, x1, x2), r0, r1, r2⟩, rfl⟩
set_option maxRecDepth 100000 in
theorem bytes_ok {v : Value} {fuel : Nat} {x : DataW H × List MemPlace} (hok : Cell.ok Try.prog W .any 0 59 v) (hf : DataW.trod enc Try.prog W 0 (fun _ => true) true fuel 59 [v] = some x) :
    ∃ xs : List Int, SlW W 1 v (xs.map u8C) ∧ ∀ x ∈ xs, Byte x := by
  obtain ⟨l, g1, g2, g3⟩ := slW_of un59 ce5 (by omega) hok hf
  obtain ⟨xs, rfl⟩ := list_of (g := fun x : { x : Int // Byte x } => u8C x.1) fun y hy => by
    obtain ⟨m, z, hz⟩ := g3 y hy
    obtain ⟨x, e, r⟩ := byte_of hz
    exact ⟨⟨x, r⟩, e⟩
  refine ⟨xs.map (·.1), by rw [List.map_map]; exact g1, fun x hx => ?_⟩
  obtain ⟨y, _, rfl⟩ := List.mem_map.1 hx
  exact y.2
set_option maxRecDepth 100000 in
theorem threes_ok {v : Value} {fuel : Nat} {x : DataW H × List MemPlace} (hok : Cell.ok Try.prog W .any 0 61 v) (hf : DataW.trod enc Try.prog W 0 (fun _ => true) true fuel 61 [v] = some x) :
    ∃ es : List (Int × Int × Int), SlW W 3 v (es.map u8T) ∧ ∀ e ∈ es, Bytes3 e := by
  obtain ⟨l, g1, g2, g3⟩ := slW_of un61 ce80 (by omega) hok hf
  obtain ⟨xs, rfl⟩ := list_of (g := fun e : { e : Int × Int × Int // Bytes3 e } => u8T e.1) fun y hy => by
    obtain ⟨m, z, hz⟩ := g3 y hy
    exact three_of (g2 y hy) hz
  refine ⟨xs.map (·.1), by rw [List.map_map]; exact g1, fun x hx => ?_⟩
  obtain ⟨y, _, rfl⟩ := List.mem_map.1 hx
  exact y.2
set_option maxRecDepth 100000 in
theorem crop_of {v : Value} {d : DataW H} {p : List MemPlace} (hv : Value.okWide Try.prog W .any 0 63 v) (h : DataW.Trod enc Try.prog W 0 (fun _ => true) true 63 v d p) :
    ∃ (c : CropD) (fv sv : Value), v = cropV c fv sv ∧ c.Ok ∧ SlW W 1 fv (c.falls.map u8C) ∧ SlW W 3 sv (c.samples.map u8T) := by
  obtain ⟨f0, f1, f2, f3, f4, f5, hu, ⟨t0, o0⟩, ⟨t1, o1⟩, ⟨t2, o2⟩, ⟨t3, o3⟩, ⟨t4, o4⟩, t5, o5⟩ := un63
  have hv' := hv
  simp only [Value.okWide, hu] at hv'
  obtain ⟨cs, rfl, hsz, ts, hts, _, hrow⟩ := hv'
  rw [ct63] at hts; cases hts
  rw [ce63] at hsz
  obtain ⟨fuel, hf⟩ := h
  obtain ⟨l⟩ := cs
  match l, hsz with
  | [c0, c1, c2, c3, c4, c5, c6], _ =>
    obtain ⟨xs, n, _, _, hl, hlen, hfs⟩ := DataW.trod_struct hu hf
    match xs, hlen with
    | [y0, y1, y2, y3, y4, y5], _ =>
      have h0 := hfs 0 f0 rfl
      have h1 := hfs 1 f1 rfl
      have h2 := hfs 2 f2 rfl
      have h3 := hfs 3 f3 rfl
      have h4 := hfs 4 f4 rfl
      have h5 := hfs 5 f5 rfl
      rw [t0, o0, ce5] at h0
      rw [t1, o1, ce5] at h1
      rw [t2, o2, ce5] at h2
      rw [t3, o3, ce59] at h3
      rw [t4, o4, ce60] at h4
      rw [t5, o5, ce61] at h5
      simp [Value.cells] at h0 h1 h2 h3 h4 h5
      obtain ⟨b0, e0, r0⟩ := byte_of h0
      obtain ⟨b1, e1, r1⟩ := byte_of h1
      obtain ⟨b2, e2, r2⟩ := byte_of h2
      obtain ⟨z0, z1, m, k0, k1⟩ := trod_array2 un60 ce5 h4
      obtain ⟨b4, e4, r4⟩ := byte_of k0
      obtain ⟨b5, e5, r5⟩ := byte_of k1
      simp at e0 e1 e2 e4 e5
      subst e0 e1 e2 e4 e5
      obtain ⟨w3, hw3, hok3⟩ := hrow 3 c3 rfl
      simp at hw3; subst hw3
      obtain ⟨w6, hw6, hok6⟩ := hrow 6 c6 rfl
      simp at hw6; subst hw6
      obtain ⟨a, len, cap, rfl⟩ : ∃ a len cap, c3 = .slice a len cap := by
        simp only [Cell.okWide, un59] at hok3
        cases c3 <;> simp_all [Cell.ok]
      have hok3' : Cell.ok Try.prog W .any 0 59 (.slice a len cap) := by
        simp only [Cell.okWide, un59] at hok3; exact hok3
      obtain ⟨a2, len2, cap2, rfl⟩ : ∃ a len cap, c6 = .slice a len cap := by
        simp only [Cell.okWide, un61] at hok6
        cases c6 <;> simp_all [Cell.ok]
      have hok6' : Cell.ok Try.prog W .any 0 61 (.slice a2 len2 cap2) := by
        simp only [Cell.okWide, un61] at hok6; exact hok6
      obtain ⟨fs, g1, g2⟩ := bytes_ok hok3' h3
      obtain ⟨es, g3, g4⟩ := threes_ok hok6' h5
      exact ⟨⟨b0, b1, b2, fs, b4, b5, es⟩, _, _, rfl, ⟨r0, r1, r2, g2, r4, r5, g4⟩, g1, g3⟩
end
theorem u8C_len (l : List Int) : ∀ x ∈ l.map u8C, x.length = 1 := fun x hx => by obtain ⟨f, _, rfl⟩ := List.mem_map.1 hx; rfl
theorem u8T_len (l : List (Int × Int × Int)) : ∀ x ∈ l.map u8T, x.length = 3 := fun x hx => by obtain ⟨f, _, rfl⟩ := List.mem_map.1 hx; rfl
theorem u8C_closed (l : List Int) : (l.map u8C).flatten.all closed1 = true := by
  rw [List.all_eq_true]; intro y hy
  obtain ⟨z, hz, hy⟩ := List.mem_flatten.1 hy
  obtain ⟨f, _, rfl⟩ := List.mem_map.1 hz
  simp [u8C] at hy
  subst hy; rfl
theorem u8T_closed (l : List (Int × Int × Int)) : (l.map u8T).flatten.all closed1 = true := by
  rw [List.all_eq_true]; intro y hy
  obtain ⟨z, hz, hy⟩ := List.mem_flatten.1 hy
  obtain ⟨f, _, rfl⟩ := List.mem_map.1 hz
  simp [u8T] at hy
  rcases hy with rfl | rfl | rfl <;> rfl
/-- A crop of the world in the calculation's memory. -/
theorem attach_crop {W : World} {c : CropD} {fv sv : Value} (hf : SlW W 1 fv (c.falls.map u8C)) (hs : SlW W 3 sv (c.samples.map u8T)) :
    ∃ τ s' fv' sv', WRel W.heap.size τ s' W ∧ VRel τ (cropV c fv' sv') (cropV c fv sv) ∧ SlAt 1 s' fv' (c.falls.map u8C) ∧ SlAt 3 s' sv' (c.samples.map u8T) := by
  have hw0 : WRel W.heap.size (fun _ => none) ⟨.leaf, 0⟩ W := ⟨Nat.le_refl _, (fun h => by cases h), fun _ => rfl, (fun h => by cases h), (fun h => by cases h)⟩
  obtain ⟨σ1, s1, v1, _, hw1, hv1, hs1, k1⟩ := attach hw0 rfl hf (u8C_len _) (u8C_closed _)
  obtain ⟨σ2, s2, v2, l2, hw2, hv2, hs2, k2⟩ := attach hw1 rfl hs (u8T_len _) (u8T_closed _)
  exact ⟨σ2, s2, v1, v2, hw2, .agg (.cons (.int _ _) (.cons (.int _ _) (.cons (.int _ _) (.cons (hv1.mono l2) (.cons (.int _ _) (.cons (.int _ _) (.cons hv2 .nil))))))), hs1.keep k2, hs2⟩
end Go.Proofs.Ytnhokodcmeekhaa
namespace Go.Proofs.Ytnhokodcmeekhaa
open Go Kern RowKit Go.ChangeShapes Go.WideShapes Go.ChangeAt
theorem lawN_calls (c : CropD) (hc : c.Ok) (fv sv : Value) (y d : Int) (W : World) (hf : SlW W 1 fv (c.falls.map u8C)) (hs : SlW W 3 sv (c.samples.map u8T)) (hy : 0 ≤ y ∧ y ≤ 255) (hd : 0 ≤ d ∧ d ≤ 255) :
    Calls Try.prog 11 #[cropV c fv sv, .int .u8 y, .int .u8 d] W fun e w' => e = .returned (.bool true) ∧ Below W.heap.size W w' := by
  obtain ⟨σ1, s1, fv', sv', hw1, hv1, hs1, hs2⟩ := attach_crop hf hs
  refine calls_of_ev (lawN_ev c hc fv' sv' y d s1 hs1 hs2 hy hd) hw1 rfl ?_
  exact .cons hv1 (.cons (.int _ _) (.cons (.int _ _) .nil))
set_option maxRecDepth 100000 in
theorem turned_lifted (os : Os) (started : os.Started) (H : Type) (enc : TypeId × Value → H) :
    ReturnsInHanded {} Try.checked os 11 .any (Rows.ripeTurnedSpec.pre6 enc Try.prog Try.f11 Rows.ripeTurnedRow.domain false) (Rows.ripeTurnedSpec.post enc Try.prog Try.f11 false true false false) := by
  refine returnsInHanded_of_change (C := Try.checked) Try.own started (by kernel_rfl) Try.func11
    (ChangeSpec.witness6 (enc := enc) (C := Try.checked) false ⟨#[], #[.agg #[.int .u8 0, .int .u8 0, .int .u8 0, .slice none 0 0, .int .u8 0, .int .u8 0, .slice none 0 0], .int .u8 0, .int .u8 0], []⟩ 8 (by kernel_rfl) (by kernel_rfl) (by kernel_rfl) (by kernel_rfl)) ?_
  intro W base args ds gs before hval hW hcnd _
  have hW' := hW
  obtain ⟨p, q, hA0, hV, rfl, hfz, hnd⟩ := hW
  have hA : DataW.TrodAll enc Try.prog W 0 (fun _ => true) true Try.f11.params.toList args.toList ds p := hA0
  rw [Try.params11] at hA
  obtain ⟨v0, v1, v2, d0, d1, d2, p0, p1, p2, rfl, rfl, rfl, h0, h1, h2⟩ := trodAll_three hA
  obtain ⟨rfl, rfl⟩ := trodVars_none hV
  obtain ⟨c, fv, sv, rfl, hc, hf, hs⟩ := crop_of (hval 0 63 v0 rfl rfl) h0
  have h1k := h1
  obtain ⟨y, rfl, rfl, rfl, hwy⟩ := open_int un5 (hval 1 5 v1 rfl rfl) h1
  have h2k := h2
  obtain ⟨d, rfl, rfl, rfl, hwf⟩ := open_int un5 (hval 2 5 v2 rfl rfl) h2
  refine (lawN_calls c hc fv sv y d W hf hs (range8_of_wf hwy) (range8_of_wf hwf)).mono fun e W' ⟨he, hb⟩ => ?_
  subst he
  exact ⟨_, rfl, [_, _, _], [], _, [], _, [], hW', trodAll_mk1 (shut_bool Try.underlying4 _), trodAll_mk3 (again_of (by kernel_rfl) (of_decide_eq_true (by kernel_rfl)) h0 hb) (again_of (by kernel_rfl) (of_decide_eq_true (by kernel_rfl)) h1k hb) (again_of (by kernel_rfl) (of_decide_eq_true (by kernel_rfl)) h2k hb), rfl, hb.frame _, fun h => by cases h⟩

theorem turned_holds : Rows.RipeTurnedSaid :=
  OpenClaim.holds_of_wide 11 Try.f11 rfl rfl rfl rfl rfl rfl rfl ⟨rfl, rfl, rfl, rfl, rfl⟩ rfl rfl rfl rfl rfl (by kernel_rfl) Try.func11 (by kernel_rfl)
    (of_decide_eq_true (by kernel_rfl)) (by unfold Func.isWrapper; first | (rw [if_pos (by decide +kernel)]; kernel_rfl) | (rw [if_neg (by decide +kernel)]; exact ⟨rfl, rfl⟩))
    (fun os started H enc _ => turned_lifted os started H enc)
end Go.Proofs.Ytnhokodcmeekhaa
