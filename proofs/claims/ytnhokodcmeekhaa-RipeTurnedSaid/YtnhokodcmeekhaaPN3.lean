/-
  . They hold with no condition but those that are written in each theorem.
-/
import Derived.Test.YtnhokodcmeekhaaPN1
import Derived.Test.YtnhokodcmeekhaaPN2
set_option linter.unusedSimpArgs false
set_option linter.unusedVariables false
namespace Go.Proofs.Ytnhokodcmeekhaa
open Go Kern
abbrev IntsAt (s : St) (v : Value) (xs : List Int) : Prop := SlAt 1 s v (xs.map fun x => [.int .i64 x])
theorem IntsAt.at {s : St} {a : Option Addr} {m c : Nat} {xs : List Int} (h : IntsAt s (.slice a m c) xs) {k : Nat} {x : Int} (hk : xs[k]? = some x) :
    ∃ b off o cs g, a = some ⟨b, off, none⟩ ∧ b < s.next ∧ s.heap.get b = some o ∧ cellsOf o = some (cs, g) ∧ cs[off + k]? = some (.int .i64 x) := by
  obtain ⟨b, off, o, cs, g, h1, h2, h3, h4, h5⟩ := SlAt.at h (k := k) (e := [.int .i64 x]) (by rw [List.getElem?_map, hk]; rfl)
  refine ⟨b, off, o, cs, g, h1, h2, h3, h4, ?_⟩
  have := takeL_one h5
  rw [List.getElem?_drop, Nat.mul_one] at this
  exact this
theorem fold_take {α β : Type} (g : β → α → β) (b : β) (l : List α) {k : Nat} {x : α} (h : l[k]? = some x) : (l.take (k + 1)).foldl g b = g ((l.take k).foldl g b) x := by
  rw [List.take_add_one, h]; simp
/-- The units that are gathered, in a block of their own. -/
def OwnU (N : Nat) (s : St) (w : Value) (cs : List Int) : Prop :=
  (cs = [] ∧ w = .slice none 0 0) ∨ ∃ b, w = .slice (some ⟨b, 0, none⟩) cs.length cs.length ∧ cs ≠ [] ∧ N ≤ b ∧ b < s.next ∧ s.heap.get b = some (.cells (cs.map (Value.int .i64)) (some 1))
theorem OwnU.ints {N : Nat} {s : St} {w : Value} {cs : List Int} (h : OwnU N s w cs) : IntsAt s w cs := by
  rcases h with ⟨rfl, rfl⟩ | ⟨b, rfl, hne, h1, h2, h3⟩
  · exact .nil 0
  · have := SlAt.mk (n := 1) (s := s) (off := 0) (c := cs.length) (l := cs.map fun x => [.int .i64 x]) h2 h3 rfl (fun i e he => ?_)
    · rw [List.length_map] at this; exact this
    · rw [List.getElem?_map] at he
      cases hb : cs[i]? with
      | none => rw [hb] at he; cases he
      | some y =>
        rw [hb] at he; cases he
        rw [Nat.zero_add, Nat.mul_one]
        have hd : (cs.map (Value.int .i64)).drop i = .int .i64 y :: (cs.map (Value.int .i64)).drop (i + 1) := by
          rw [List.drop_eq_getElem_cons (by simpa using (List.getElem?_eq_some_iff.1 hb).1)]
          have := (List.getElem?_eq_some_iff.1 hb).2
          simp [this]
        rw [hd]; rfl
theorem Fr.get_mk (f : Fr) (m : List Nat) (t : Tmp) : Fr.get ⟨f.tmps, m⟩ t = f.get t := rfl
theorem ints_of_cells {s : St} {b c : Nat} {xs : List Int} {g : Option Nat} (h2 : b < s.next) (h3 : s.heap.get b = some (.cells (xs.map (Value.int .i64)) g)) : IntsAt s (.slice (some ⟨b, 0, none⟩) xs.length c) xs := by
  have := SlAt.mk (n := 1) (s := s) (off := 0) (c := c) (l := xs.map fun x => [.int .i64 x]) h2 h3 rfl (fun i e he => ?_)
  · rw [List.length_map] at this; exact this
  · rw [List.getElem?_map] at he
    cases hb : xs[i]? with
    | none => rw [hb] at he; cases he
    | some y =>
      rw [hb] at he; cases he
      rw [Nat.zero_add, Nat.mul_one]
      have hd : (xs.map (Value.int .i64)).drop i = .int .i64 y :: (xs.map (Value.int .i64)).drop (i + 1) := by
        rw [List.drop_eq_getElem_cons (by simpa using (List.getElem?_eq_some_iff.1 hb).1)]
        have := (List.getElem?_eq_some_iff.1 hb).2
        simp [this]
      rw [hd]; rfl
theorem takeL_append {α : Type} : ∀ (a b : List α), takeL a.length (a ++ b) = some a
  | [], b => rfl
  | x :: a, b => by show ob (takeL a.length (a ++ b)) (fun r => some (x :: r)) = _; rw [takeL_append a b]; rfl
theorem drop_flat {α : Type} {n : Nat} : ∀ {l : List (List α)} {i : Nat} {e : List α}, (∀ x ∈ l, x.length = n) → l[i]? = some e → takeL n (l.flatten.drop (i * n)) = some e
  | [], i, e, _, h => by simp at h
  | x :: r, 0, e, hl, h => by
    simp at h; subst h
    rw [Nat.zero_mul, List.drop_zero, List.flatten_cons, ← hl x (.head _)]
    exact takeL_append _ _
  | x :: r, i + 1, e, hl, h => by
    have hx := hl x (.head _)
    rw [List.flatten_cons, show (i + 1) * n = x.length + i * n by rw [Nat.add_mul, hx]; omega, ← List.drop_drop, List.drop_left]
    exact drop_flat (fun y hy => hl y (.tail _ hy)) (by simpa using h)
theorem sl_of_cells {n : Nat} {s : St} {b c : Nat} {l : List (List Value)} {g : Option Nat} (h2 : b < s.next) (hl : ∀ x ∈ l, x.length = n) (h3 : s.heap.get b = some (.cells l.flatten g)) : SlAt n s (.slice (some ⟨b, 0, none⟩) l.length c) l :=
  SlAt.mk h2 h3 rfl fun i e he => by rw [Nat.zero_add]; exact drop_flat hl he
theorem takeL_at {α : Type} : ∀ {n : Nat} {l r : List α} {i : Nat}, takeL n l = some r → i < n → l[i]? = r[i]?
  | 0, _, _, _, _, h => by omega
  | n + 1, [], r, _, h, _ => by cases h
  | n + 1, x :: l, r, i, h, hi => by
    obtain ⟨t, h1, h2⟩ := ob_eq (show ob (takeL n l) (fun t => some (x :: t)) = some r from h)
    cases h2
    cases i with
    | zero => rfl
    | succ i => simpa using takeL_at h1 (by omega)
section
variable {T : Tab} {self : Self} {f : Fr} {s : St} {ρ : Env} {H : Tree AObj}
@[simp] theorem act_max2 (x y : Operand) (tys : Array TypeId) : actO T self (.call ⟨.builtin .max, #[x, y], tys⟩) f s = pureR (vExt true x [y] f.eval s.heap) s := rfl
@[simp] theorem act_min2 (x y : Operand) (tys : Array TypeId) : actO T self (.call ⟨.builtin .min, #[x, y], tys⟩) f s = pureR (vExt false x [y] f.eval s.heap) s := rfl
@[simp] theorem vExt_one (mx : Bool) (x y : Operand) : vExt mx x [y] ρ H = ext2 mx (ρ x) (ρ y) := by
  show ob (ext2 mx (ρ x) (ρ y)) some = _
  cases ext2 mx (ρ x) (ρ y) <;> rfl
@[simp] theorem ext2_max (k : IntKind) (a b : Int) : ext2 true (.int k a) (.int k b) = some (.int k (max a b)) := by
  show some (Value.int k (bt (bt true (intLt a b) (intLt b a)) b a)) = _
  rw [intLt_eq, bt_true]
  by_cases h : a < b
  · rw [decide_eq_true h, bt_true, show max a b = b by omega]
  · rw [decide_eq_false h, bt_false, show max a b = a by omega]
@[simp] theorem ext2_min (k : IntKind) (a b : Int) : ext2 false (.int k a) (.int k b) = some (.int k (min a b)) := by
  show some (Value.int k (bt (bt false (intLt a b) (intLt b a)) b a)) = _
  rw [intLt_eq b a, bt_false]
  by_cases h : b < a
  · rw [decide_eq_true h, bt_true, show min a b = b by omega]
  · rw [decide_eq_false h, bt_false, show min a b = a by omega]
end
theorem veq_sl {n k : Nat} {s : St} {v : Value} {l : List (List Value)} (h : SlAt n s v l) : veq (k + 1) v v = true := by
  cases h with
  | nil c => exact veq_sliceN _ _ _
  | mk hb ho hc he => exact veq_slice _ _ _ _ _
@[simp] theorem binVal_boolEq (t : TypeId) (fl : Bool) (a b : Bool) : binVal TT .bool t fl .eql (.bool a) (.bool b) = some (.bool (a == b)) := by
  cases a <;> cases b <;> rfl
@[simp] theorem binVal_boolNe (t : TypeId) (fl : Bool) (a b : Bool) : binVal TT .bool t fl .neq (.bool a) (.bool b) = some (.bool (a != b)) := by
  cases a <;> cases b <;> rfl
theorem putL_append {α : Type} (vs : List α) : ∀ (a b : List α), putL a.length vs (a ++ b) = ob (overL vs b) fun r => some (a ++ r)
  | [], b => by
    show overL vs b = _
    cases overL vs b <;> rfl
  | x :: a, b => by
    show ob (putL a.length vs (a ++ b)) (fun l => some (x :: l)) = _
    rw [putL_append vs a b]
    cases overL vs b <;> rfl
theorem overL_same {α : Type} : ∀ (vs b r : List α), vs.length = b.length → overL vs (b ++ r) = some (vs ++ r)
  | [], [], _, _ => rfl
  | v :: vs, x :: b, r, h => by
    show ob (overL vs (b ++ r)) (fun l => some (v :: l)) = _
    rw [overL_same vs b r (by simpa using h)]; rfl
def flatG (g : Nat → List Value) (len : Nat) : List Value := ((List.range len).map g).flatten
theorem flatG_succ (g : Nat → List Value) (k : Nat) : flatG g (k + 1) = flatG g k ++ g k := by
  unfold flatG
  rw [List.range_succ, List.map_append, List.flatten_append]; simp
theorem flatG_length {g : Nat → List Value} {N : Nat} (h : ∀ j, (g j).length = N) : ∀ len, (flatG g len).length = len * N
  | 0 => by simp [flatG]
  | k + 1 => by rw [flatG_succ, List.length_append, flatG_length h k, h k, Nat.add_mul]; omega
theorem flatG_congr {g h : Nat → List Value} {len : Nat} (hc : ∀ j, j < len → g j = h j) : flatG g len = flatG h len := by
  unfold flatG
  congr 1
  apply List.map_congr_left
  intro j hj
  exact hc j (by simpa using hj)
theorem flatG_cut (g : Nat → List Value) {i : Nat} : ∀ {len : Nat}, i < len → ∃ r, flatG g len = flatG g i ++ (g i ++ r) ∧ ∀ vs, flatG (fun j => if j = i then vs else g j) len = flatG g i ++ (vs ++ r)
  | 0, h => by omega
  | k + 1, h => by
    have hpre : ∀ vs, flatG (fun j => if j = i then vs else g j) i = flatG g i := fun vs => flatG_congr fun j hj => if_neg (by omega)
    by_cases e : i = k
    · subst e
      refine ⟨[], by rw [flatG_succ, List.append_nil], fun vs => ?_⟩
      rw [flatG_succ, hpre vs, if_pos rfl, List.append_nil]
    · obtain ⟨r, h1, h2⟩ := flatG_cut g (i := i) (len := k) (by omega)
      refine ⟨r ++ g k, by rw [flatG_succ, h1]; simp, fun vs => ?_⟩
      rw [flatG_succ, h2 vs, if_neg (fun q => e q.symm)]; simp
theorem flatG_put {g : Nat → List Value} {N : Nat} (hN : ∀ j, (g j).length = N) {vs : List Value} (hv : vs.length = N) {i len : Nat} (h : i < len) : putL (i * N) vs (flatG g len) = some (flatG (fun j => if j = i then vs else g j) len) := by
  obtain ⟨r, h1, h2⟩ := flatG_cut g h
  rw [h1, h2 vs, ← flatG_length hN i, putL_append, overL_same vs (g i) r (by rw [hv, hN])]; rfl
theorem flatG_get {g : Nat → List Value} {N : Nat} (hN : ∀ j, (g j).length = N) {i len : Nat} (h : i < len) : takeL N ((flatG g len).drop (i * N)) = some (g i) := by
  unfold flatG
  exact drop_flat (fun x hx => by obtain ⟨j, _, rfl⟩ := List.mem_map.1 hx; exact hN j) (by rw [List.getElem?_map, List.getElem?_range h]; rfl)
theorem repeatL_snoc (z : List Value) : ∀ q : Nat, repeatL z q ++ z = repeatL z (q + 1)
  | 0 => by show [] ++ z = z ++ []; simp
  | q + 1 => by
    show (z ++ repeatL z q) ++ z = z ++ repeatL z (q + 1)
    rw [List.append_assoc, repeatL_snoc z q]
theorem flatG_same (z : List Value) : ∀ len, flatG (fun _ => z) len = repeatL z len
  | 0 => by simp [flatG]
  | k + 1 => by rw [flatG_succ, flatG_same z k, repeatL_snoc]
theorem sl_of_flat {N : Nat} {s : St} {b c len : Nat} {g : Nat → List Value} {o : Option Nat} (h2 : b < s.next) (hN : ∀ j, (g j).length = N) (h3 : s.heap.get b = some (.cells (flatG g len) o)) : SlAt N s (.slice (some ⟨b, 0, none⟩) len c) ((List.range len).map g) := by
  have := sl_of_cells (n := N) (c := c) (l := (List.range len).map g) h2 (fun x hx => by obtain ⟨j, _, rfl⟩ := List.mem_map.1 hx; exact hN j) h3
  rw [List.length_map, List.length_range] at this
  exact this
section
variable {T : Tab} {self : Self} {ds : List (Option Tmp)} {f : Fr} {s : St} {pend : List DRec}
@[simp] theorem stepD_nil : stepD T self ds [] pend f s = gd (pend.all (recD T self ds s)) (some (f, s)) := rfl
@[simp] theorem stepD_heavy (i m : Nat) (nw : Bool) (o : SOp) (r : List (Nat × Nat × Bool × Bool × SOp)) : stepD T self ds ((i, m, true, nw, o) :: r) pend f s = gd (pend.all (recD T self ds s)) (ob (itemD T self ds o f s) fun p => stepD T self ds r (pend.filter fun q => !m.testBit q.idx) (f.put o.d p.1) p.2) := rfl
@[simp] theorem stepD_light (i m : Nat) (nw : Bool) (o : SOp) (r : List (Nat × Nat × Bool × Bool × SOp)) : stepD T self ds ((i, m, false, nw, o) :: r) pend f s = ob (itemD T self ds o f s) fun p => stepD T self ds r (⟨i, nw, o, f, p.1, s.next⟩ :: pend) (f.put o.d p.1) p.2 := rfl
theorem filter_bt {α : Type} (p : α → Bool) (x : α) (l : List α) : (x :: l).filter p = bt (p x) (x :: l.filter p) (l.filter p) := by
  rw [List.filter_cons]; cases p x <;> rfl
@[simp] theorem recD_plain (i : Nat) (nw : Bool) (d : Option Tmp) (op : Op) (v : Value) (a : Nat) : recD T self ds s ⟨i, nw, ⟨d, op, none⟩, f, v, a⟩ = bt nw (objEq (s.heap.get a) (Kern.newObj T op f)) (valEq (actO T self op f s) v) := rfl
@[simp] theorem recD_guard (i : Nat) (nw : Bool) (d : Option Tmp) (op : Op) (j : Nat) (b : Bool) (v : Value) (a : Nat) : recD T self ds s ⟨i, nw, ⟨d, op, some (j, b)⟩, f, v, a⟩ = bt (guardO b f ds[j]?) (bt nw (objEq (s.heap.get a) (Kern.newObj T op f)) (valEq (actO T self op f s) v)) true := rfl
@[simp] theorem objEq_some (a b : AObj) : objEq (some a) (some b) = oeq a b := rfl
@[simp] theorem oeq_cells (c c' : List Value) : oeq (.cells c none) (.cells c' none) = (listEq (veq 5) c c' && true) := rfl
theorem newObj_buildSlice (t : TypeId) (len : Nat) (pl0 : Array (Nat × Operand)) {z : Value} {e : TypeId} {n : Nat} (h1 : T.und t = some (.slice e)) (h2 : T.size e = some n) (h3 : T.zero e = some z) (h4 : (Nat.beq (lenL z.cells.toList) n && Nat.ble (len * n) 16777216) = true) :
    Kern.newObj T (.buildSlice t len pl0) f = ob (fillL f.eval (placesA n pl0.toList) (repeatL z.cells.toList len)) fun c => some (.cells c none) := by
  have h : compOp T (.buildSlice t len pl0) = some (.new fun ρ => ob (fillL ρ (placesA n pl0.toList) (repeatL z.cells.toList len)) fun c => some (.cells c none, fun i => .slice (some ⟨i, 0, none⟩) len len)) := by
    show ob (T.und t) _ = _
    rw [h1]
    show ob (T.size e) (fun n => ob (T.zero e) _) = _
    rw [h2]
    show ob (T.zero e) _ = _
    rw [h3]
    show gd _ _ = _
    rw [h4]; rfl
  unfold Kern.newObj
  rw [h]
  show Option.map (·.1) (ob (fillL f.eval (placesA n pl0.toList) (repeatL z.cells.toList len)) fun c => some (AObj.cells c none, fun i => Value.slice (some ⟨i, 0, none⟩) len len)) = _
  cases fillL f.eval (placesA n pl0.toList) (repeatL z.cells.toList len) <;> rfl
end
/-- Rows of cells that are gathered, in a block of their own. -/
def OwnG (n N : Nat) (s : St) (w : Value) (l : List (List Value)) : Prop :=
  (l = [] ∧ w = .slice none 0 0) ∨ ∃ b, w = .slice (some ⟨b, 0, none⟩) l.length l.length ∧ l ≠ [] ∧ N ≤ b ∧ b < s.next ∧ s.heap.get b = some (.cells l.flatten (some n))
theorem OwnG.sl {n N : Nat} {s : St} {w : Value} {l : List (List Value)} (h : OwnG n N s w l) (hn : ∀ x ∈ l, x.length = n) : SlAt n s w l := by
  rcases h with ⟨rfl, rfl⟩ | ⟨b, rfl, hne, h1, h2, h3⟩
  · exact .nil 0
  · exact sl_of_cells h2 hn h3
theorem takeL_part {α : Type} {n k : Nat} {l : List α} {a : α} {r : List α} (h : takeL (k + 1) (l.drop n) = some (a :: r)) : l[n]? = some a ∧ takeL k (l.drop (n + 1)) = some r := by
  have h0 := takeL_at h (i := 0) (by omega)
  rw [List.getElem?_drop] at h0
  refine ⟨by simpa using h0, ?_⟩
  cases hl : l.drop n with
  | nil => rw [hl] at h; cases h
  | cons x t =>
    rw [hl] at h
    obtain ⟨t', h1, h2⟩ := ob_eq (show ob (takeL k t) (fun t => some (x :: t)) = some (a :: r) from h)
    cases h2
    rw [← List.drop_drop, hl]
    exact h1
theorem intOp_rem (k : IntKind) (a b : Int) (ha : 0 ≤ a) (hb : 0 < b) : intOp .rem k a (k, b) = some (.int k (a % b)) := by
  show gd (kindEq k k) (gd (bt (intEq b 0) false true) (some (Value.int k (a.tmod b)))) = _
  have hb0 : (b == 0) = false := by simp; omega
  rw [kindEq_refl, intEq_eq, hb0, bt_false, Int.tmod_eq_emod_of_nonneg ha]; rfl
theorem OwnG.keep {n N : Nat} {s s' : St} {w : Value} {l : List (List Value)} (h : OwnG n N s w l) (h1 : s.next ≤ s'.next) (h2 : ∀ i, N ≤ i → i < s.next → s'.heap.get i = s.heap.get i) : OwnG n N s' w l := by
  rcases h with ⟨h, h'⟩ | ⟨b, h, h', hb1, hb2, hb3⟩
  · exact .inl ⟨h, h'⟩
  · exact .inr ⟨b, h, h', hb1, by omega, by rw [h2 b hb1 hb2]; exact hb3⟩
theorem newObj_alloc {T : Tab} {f : Fr} (t : TypeId) {z : Value} (h : T.zero t = some z) : Kern.newObj T (.alloc t) f = some (.cells z.cells.toList none) := by
  have hc : compOp T (.alloc t) = some (.new fun _ => some (.cells z.cells.toList none, ptrTo)) := by
    show ob (T.zero t) _ = _
    rw [h]; rfl
  unfold Kern.newObj
  rw [hc]; rfl
/-- Rows of cells in a block of their own, or none of them. -/
def OwnR (n N : Nat) (s : St) (w : Value) (l : List (List Value)) : Prop :=
  ∃ b, w = .slice (some ⟨b, 0, none⟩) l.length l.length ∧ N ≤ b ∧ b < s.next ∧ s.heap.get b = some (.cells l.flatten (if l = [] then none else some n))
theorem OwnR.sl {n N : Nat} {s : St} {w : Value} {l : List (List Value)} (h : OwnR n N s w l) (hn : ∀ x ∈ l, x.length = n) : SlAt n s w l := by
  obtain ⟨b, rfl, h1, h2, h3⟩ := h
  exact sl_of_cells h2 hn h3
theorem OwnR.keep {n N : Nat} {s s' : St} {w : Value} {l : List (List Value)} (h : OwnR n N s w l) (h1 : s.next ≤ s'.next) (h2 : ∀ i, N ≤ i → i < s.next → s'.heap.get i = s.heap.get i) : OwnR n N s' w l := by
  obtain ⟨b, h, hb1, hb2, hb3⟩ := h
  exact ⟨b, h, hb1, by omega, by rw [h2 b hb1 hb2]; exact hb3⟩
@[simp] theorem binVal_nilE (t e : TypeId) (fl : Bool) (l c l' c' : Nat) : binVal TT (.slice e) t fl .eql (.slice none l c) (.slice none l' c') = some (.bool true) := rfl
@[simp] theorem binVal_someE (t e : TypeId) (fl : Bool) (a : Addr) (l c l' c' : Nat) : binVal TT (.slice e) t fl .eql (.slice (some a) l c) (.slice none l' c') = some (.bool false) := rfl
theorem putL_app {α : Type} : ∀ {n : Nat} {vs l x : List α} (r : List α), putL n vs l = some x → putL n vs (l ++ r) = some (x ++ r)
  | 0, vs, l, x, r, h => by
    rw [putL_zero] at h ⊢
    induction vs generalizing l x with
    | nil => change some l = some x at h; cases h; rfl
    | cons v vs ih =>
      cases l with
      | nil => cases h
      | cons y l =>
        obtain ⟨t, h1, h2⟩ := ob_eq (show ob (overL vs l) (fun t => some (v :: t)) = some x from h)
        cases h2
        show ob (overL vs (l ++ r)) (fun t => some (v :: t)) = _
        rw [ih l t h1]; rfl
  | n + 1, vs, [], x, r, h => by cases h
  | n + 1, vs, y :: l, x, r, h => by
    obtain ⟨t, h1, h2⟩ := ob_eq (show ob (putL n vs l) (fun t => some (y :: t)) = some x from h)
    cases h2
    show ob (putL n vs (l ++ r)) (fun t => some (y :: t)) = _
    rw [putL_app r h1]; rfl
theorem putL_behind {α : Type} {n : Nat} {vs b x : List α} : ∀ {a : List α}, putL n vs b = some x → putL (a.length + n) vs (a ++ b) = some (a ++ x)
  | [], h => by simpa using h
  | y :: a, h => by
    rw [List.length_cons, show a.length + 1 + n = (a.length + n) + 1 by omega]
    show ob (putL (a.length + n) vs (a ++ b)) (fun t => some (y :: t)) = _
    rw [putL_behind h]; rfl
def cellsB (m : Nat) (M : Nat → Bool) : List Value := (List.range m).map fun j => Value.bool (M j)
def orAt (M : Nat → Bool) (p j : Nat) : Bool := if j = p then true else M j
theorem intOp_quo (k : IntKind) (a b : Int) (ha : 0 ≤ a) (hb : 0 < b) : intOp .quo k a (k, b) = some (.int k (wrapF k (a / b))) := by
  show gd (kindEq k k) (gd (bt (intEq b 0) false true) (some (Value.int k (wrapF k (a.tdiv b))))) = _
  have hb0 : (b == 0) = false := by simp; omega
  rw [kindEq_refl, intEq_eq, hb0, bt_false, Int.tdiv_eq_ediv_of_nonneg ha]; rfl
theorem OwnU.keepK {N : Nat} {s s' : St} {w : Value} {cs : List Int} (h : OwnU N s w cs) (k : Keep s s') : OwnU N s' w cs := by
  rcases h with ⟨h, h'⟩ | ⟨b, h, h', hb1, hb2, hb3⟩
  · exact .inl ⟨h, h'⟩
  · exact .inr ⟨b, h, h', hb1, by have := k.1; omega, (k.2 b hb2).trans hb3⟩
end Go.Proofs.Ytnhokodcmeekhaa
namespace Go.Proofs.Ytnhokodcmeekhaa
open Go Kern
/-! Fields are checked -/
structure SampD where
  week : Int
  val : Int
  off : Int
def SampD.cs (s : SampD) : List Value := [.int .i64 s.week, .int .i64 s.val, .int .i64 s.off]
abbrev SmAt (s : St) (v : Value) (ss : List SampD) : Prop := SlAt 3 s v (ss.map SampD.cs)
theorem SmAt.at {s : St} {a : Option Addr} {m c : Nat} {ss : List SampD} (h : SmAt s (.slice a m c) ss) {k : Nat} {x : SampD} (hk : ss[k]? = some x) :
    ∃ b off o cs g, a = some ⟨b, off, none⟩ ∧ b < s.next ∧ s.heap.get b = some o ∧ cellsOf o = some (cs, g) ∧ takeL 3 (cs.drop (off + k * 3)) = some [.int .i64 x.week, .int .i64 x.val, .int .i64 x.off] :=
  SlAt.at h (by rw [List.getElem?_map, hk]; rfl)
def fieldV (n lo hi : Int) (v : Value) : Value := .agg #[.int .i64 n, .int .i64 lo, .int .i64 hi, v]
def sweetB (x : Int) : Bool := decide (0 ≤ x) && decide (x ≤ 30000)
def weekB (n x : Int) : Bool := decide (0 ≤ x) && decide (x < n)
def isB (n lo hi : Int) : Bool := decide (lo ≤ n) && decide (n ≤ hi)
set_option maxRecDepth 100000 in
theorem isSweet_ev (x : Int) (s : St) : Ev TT 51 [.int .i64 x] s fun v s' => v = .bool (sweetB x) ∧ Keep s s' := by
  refine Ev.intro (fn := Try.f51) rfl (by kernel_rfl) rfl rfl ?_
  apply zz
  refine Cd.ra (h := ?_)
  apply Run.by_eq
  · intro self
    conv => lhs; simp -implicitDefEqProofs (maxSteps := 300000) (disch := omega) [-getElem?_pos, -getElem?_neg]
  try (with_reducible refine Run.ret ?_)
  apply zz
  by_cases h : 0 ≤ x
  · apply zz
    refine Cd.ra (h := ?_)
    apply Run.by_eq
    · intro self
      conv => lhs; simp -implicitDefEqProofs (maxSteps := 300000) (disch := omega) [-getElem?_pos, -getElem?_neg, h]
    try (with_reducible refine Run.ret ?_)
    apply zz
    apply Leave.mk (by first | exact .inl rfl | exact .inr rfl) (by simp only [Fr.marks_put, fr0_marks])
    · conv => lhs; simp -implicitDefEqProofs (disch := omega) [Try.results51]
    exact ⟨by simp [sweetB, h], Keep.refl _⟩
  · apply zz
    refine Cd.ra (h := ?_)
    apply Run.by_eq
    · intro self
      conv => lhs; simp -implicitDefEqProofs (maxSteps := 300000) (disch := omega) [-getElem?_pos, -getElem?_neg, h]
    try (with_reducible refine Run.ret ?_)
    apply zz
    apply Leave.mk (by first | exact .inl rfl | exact .inr rfl) (by simp only [Fr.marks_put, fr0_marks])
    · conv => lhs; simp -implicitDefEqProofs (disch := omega) [Try.results51]
    exact ⟨by simp [sweetB, h], Keep.refl _⟩
set_option maxRecDepth 100000 in
theorem hasWeek_ev (n lo hi x : Int) (v : Value) (s : St) : Ev TT 52 [fieldV n lo hi v, .int .i64 x] s fun r s' => r = .bool (weekB n x) ∧ Keep s s' := by
  unfold fieldV
  refine Ev.intro (fn := Try.f52) rfl (by kernel_rfl) rfl rfl ?_
  apply zz
  refine Cd.ra (h := ?_)
  apply Run.by_eq
  · intro self
    conv => lhs; simp -implicitDefEqProofs (maxSteps := 300000) (disch := omega) [-getElem?_pos, -getElem?_neg]
  try (with_reducible refine Run.ret ?_)
  apply zz
  by_cases h : 0 ≤ x
  · apply zz
    refine Cd.ra (h := ?_)
    apply Run.by_eq
    · intro self
      conv => lhs; simp -implicitDefEqProofs (maxSteps := 300000) (disch := omega) [-getElem?_pos, -getElem?_neg, h]
    try (with_reducible refine Run.ret ?_)
    apply zz
    apply Leave.mk (by first | exact .inl rfl | exact .inr rfl) (by simp only [Fr.marks_put, fr0_marks])
    · conv => lhs; simp -implicitDefEqProofs (disch := omega) [Try.results52]
    exact ⟨by simp [weekB, h], (Keep.refl _).pushed _⟩
  · apply zz
    refine Cd.ra (h := ?_)
    apply Run.by_eq
    · intro self
      conv => lhs; simp -implicitDefEqProofs (maxSteps := 300000) (disch := omega) [-getElem?_pos, -getElem?_neg, h]
    try (with_reducible refine Run.ret ?_)
    apply zz
    apply Leave.mk (by first | exact .inl rfl | exact .inr rfl) (by simp only [Fr.marks_put, fr0_marks])
    · conv => lhs; simp -implicitDefEqProofs (disch := omega) [Try.results52]
    exact ⟨by simp [weekB, h], (Keep.refl _).pushed _⟩
def sampErr (n : Int) (s : SampD) : Int := if weekB n s.week = false then 5 else if (sweetB s.val && sweetB s.off) = false then 2 else 0
def firstS (n : Int) : List SampD → Int
  | [] => 0
  | s :: r => if sampErr n s = 0 then firstS n r else sampErr n s
theorem firstS_zero {n : Int} : ∀ {ss : List SampD}, (∀ (j : Nat) (s : SampD), ss[j]? = some s → sampErr n s = 0) → firstS n ss = 0
  | [], _ => rfl
  | s :: r, h => by
    unfold firstS
    rw [if_pos (h 0 s rfl)]
    exact firstS_zero fun j s hj => h (j + 1) s (by simpa using hj)
theorem firstS_at {n : Int} : ∀ {ss : List SampD} {k : Nat} {s : SampD}, (∀ (j : Nat) (s : SampD), j < k → ss[j]? = some s → sampErr n s = 0) → ss[k]? = some s → sampErr n s ≠ 0 → firstS n ss = sampErr n s
  | [], k, s, _, h, _ => by simp at h
  | g :: r, 0, s, _, h, hne => by simp at h; subst h; simp [firstS, hne]
  | g :: r, k + 1, s, hz, h, hne => by
    unfold firstS
    rw [if_pos (hz 0 g (by omega) rfl)]
    exact firstS_at (k := k) (fun j s hj hs => hz (j + 1) s (by omega) (by simpa using hs)) (by simpa using h) hne
def fieldErr (n lo hi : Int) (ss : List SampD) : Int :=
  if n < 1 ∨ 30 < n then 2 else if lo > hi ∨ sweetB lo = false ∨ sweetB hi = false then 2 else if 100 < (ss.length : Int) then 1 else firstS n ss
set_option maxRecDepth 100000 in
set_option maxHeartbeats 2000000 in
theorem check_ev (n lo hi : Int) (v : Value) (ss : List SampD) (s : St) (hs : SmAt s v ss) (hl : ss.length ≤ 1000000) : Ev TT 18 [fieldV n lo hi v] s fun r s' => r = .int .i64 (fieldErr n lo hi ss) ∧ Keep s s' := by
  obtain ⟨a, c, rfl⟩ := hs.shape
  rw [List.length_map] at hs ⊢
  unfold fieldV
  refine Ev.intro (fn := Try.f18) rfl (by kernel_rfl) rfl rfl ?_
  apply zz
  refine Cd.ra (h := ?_)
  apply Run.by_eq
  · intro self
    conv => lhs; simp -implicitDefEqProofs (maxSteps := 300000) (disch := omega) [-getElem?_pos, -getElem?_neg]
  try (with_reducible refine Run.ret ?_)
  apply zz
  by_cases h1 : n < 1
  · apply zz
    refine Cd.ra (h := ?_)
    apply Run.by_eq
    · intro self
      conv => lhs; simp -implicitDefEqProofs (maxSteps := 300000) (disch := omega) [-getElem?_pos, -getElem?_neg, h1]
    try (with_reducible refine Run.ret ?_)
    apply zz
    apply Cd.ite rfl
    · conv => lhs; simp -implicitDefEqProofs (maxSteps := 300000) (disch := omega) [-getElem?_pos, -getElem?_neg]
    all_goals intro c0
    all_goals try (cases c0; done)
    all_goals try simp only [Bool.not_eq_true', Bool.not_eq_false', decide_eq_true_eq, decide_eq_false_iff_not] at c0
    all_goals apply zz
    apply zz
    refine Cd.ra (h := ?_)
    apply Run.by_eq
    · intro self
      conv => lhs; simp -implicitDefEqProofs (maxSteps := 300000) (disch := omega) [-getElem?_pos, -getElem?_neg]
    try (with_reducible refine Run.ret ?_)
    apply zz
    apply Leave.mk (by first | exact .inl rfl | exact .inr rfl) (by simp only [Fr.marks_put, fr0_marks])
    · conv => lhs; simp -implicitDefEqProofs (disch := omega) [Try.results18]
    exact ⟨by unfold fieldErr; rw [if_pos (.inl h1)]; rfl, ⟨by (try simp only [pushed_next', upded_next']); omega, fun i hi => by simp -implicitDefEqProofs (disch := omega) []⟩⟩
  by_cases h2 : 30 < n
  · apply zz
    refine Cd.ra (h := ?_)
    apply Run.by_eq
    · intro self
      conv => lhs; simp -implicitDefEqProofs (maxSteps := 300000) (disch := omega) [-getElem?_pos, -getElem?_neg, h1, h2]
    try (with_reducible refine Run.ret ?_)
    apply zz
    apply Cd.ite rfl
    · conv => lhs; simp -implicitDefEqProofs (maxSteps := 300000) (disch := omega) [-getElem?_pos, -getElem?_neg]
    all_goals intro c0
    all_goals try (cases c0; done)
    all_goals try simp only [Bool.not_eq_true', Bool.not_eq_false', decide_eq_true_eq, decide_eq_false_iff_not] at c0
    all_goals apply zz
    apply zz
    refine Cd.ra (h := ?_)
    apply Run.by_eq
    · intro self
      conv => lhs; simp -implicitDefEqProofs (maxSteps := 300000) (disch := omega) [-getElem?_pos, -getElem?_neg]
    try (with_reducible refine Run.ret ?_)
    apply zz
    apply Leave.mk (by first | exact .inl rfl | exact .inr rfl) (by simp only [Fr.marks_put, fr0_marks])
    · conv => lhs; simp -implicitDefEqProofs (disch := omega) [Try.results18]
    exact ⟨by unfold fieldErr; rw [if_pos (.inr h2)]; rfl, ⟨by (try simp only [pushed_next', upded_next']); omega, fun i hi => by simp -implicitDefEqProofs (disch := omega) []⟩⟩
  apply zz
  refine Cd.ra (h := ?_)
  apply Run.by_eq
  · intro self
    conv => lhs; simp -implicitDefEqProofs (maxSteps := 300000) (disch := omega) [-getElem?_pos, -getElem?_neg, h1, h2]
  try (with_reducible refine Run.ret ?_)
  apply zz
  apply Cd.ite rfl
  · conv => lhs; simp -implicitDefEqProofs (maxSteps := 300000) (disch := omega) [-getElem?_pos, -getElem?_neg]
  all_goals intro c0
  all_goals try (cases c0; done)
  all_goals try simp only [Bool.not_eq_true', Bool.not_eq_false', decide_eq_true_eq, decide_eq_false_iff_not] at c0
  all_goals apply zz
  have hF0 : fieldErr n lo hi ss = if lo > hi ∨ sweetB lo = false ∨ sweetB hi = false then 2 else if 100 < (ss.length : Int) then 1 else firstS n ss := by unfold fieldErr; rw [if_neg (by omega)]
  rw [hF0]
  by_cases h3 : hi < lo
  · apply zz
    refine Cd.ra (h := ?_)
    apply Run.by_eq
    · intro self
      conv => lhs; simp -implicitDefEqProofs (maxSteps := 300000) (disch := omega) [-getElem?_pos, -getElem?_neg, h3]
    try (with_reducible refine Run.ret ?_)
    apply zz
    apply Cd.ite rfl
    · conv => lhs; simp -implicitDefEqProofs (maxSteps := 300000) (disch := omega) [-getElem?_pos, -getElem?_neg]
    all_goals intro c1
    all_goals try (cases c1; done)
    all_goals try simp only [Bool.not_eq_true', Bool.not_eq_false', decide_eq_true_eq, decide_eq_false_iff_not] at c1
    all_goals apply zz
    apply zz
    refine Cd.ra (h := ?_)
    apply Run.by_eq
    · intro self
      conv => lhs; simp -implicitDefEqProofs (maxSteps := 300000) (disch := omega) [-getElem?_pos, -getElem?_neg]
    try (with_reducible refine Run.ret ?_)
    apply zz
    apply Leave.mk (by first | exact .inl rfl | exact .inr rfl) (by simp only [Fr.marks_put, fr0_marks])
    · conv => lhs; simp -implicitDefEqProofs (disch := omega) [Try.results18]
    exact ⟨by rw [if_pos (.inl h3)]; rfl, ⟨by (try simp only [pushed_next', upded_next']); omega, fun i hi => by simp -implicitDefEqProofs (disch := omega) []⟩⟩
  apply zz
  refine Cd.ra (h := ?_)
  apply Run.by_eq
  · intro self
    conv => lhs; simp -implicitDefEqProofs (maxSteps := 300000) (disch := omega) [-getElem?_pos, -getElem?_neg, h3]
  try (with_reducible refine Run.ret ?_)
  apply zz
  refine Run.call ((isSweet_ev lo _).mono fun v wy hv => ?_)
  obtain ⟨rfl, y⟩ := hv
  have ya := y.1
  have yb := y.2
  try simp only [pushed_next', upded_next'] at ya yb
  cases h4 : sweetB lo with
  | false =>
    apply Run.by_eq
    · intro self
      conv => lhs; simp -implicitDefEqProofs (maxSteps := 300000) (disch := omega) [-getElem?_pos, -getElem?_neg, yb]
    try (with_reducible refine Run.ret ?_)
    apply zz
    apply Cd.ite rfl
    · conv => lhs; simp -implicitDefEqProofs (maxSteps := 300000) (disch := omega) [-getElem?_pos, -getElem?_neg]
    all_goals intro c1
    all_goals try (cases c1; done)
    all_goals try simp only [Bool.not_eq_true', Bool.not_eq_false', decide_eq_true_eq, decide_eq_false_iff_not] at c1
    all_goals apply zz
    apply zz
    refine Cd.ra (h := ?_)
    apply Run.by_eq
    · intro self
      conv => lhs; simp -implicitDefEqProofs (maxSteps := 300000) (disch := omega) [-getElem?_pos, -getElem?_neg]
    try (with_reducible refine Run.ret ?_)
    apply zz
    apply Leave.mk (by first | exact .inl rfl | exact .inr rfl) (by simp only [Fr.marks_put, fr0_marks])
    · conv => lhs; simp -implicitDefEqProofs (disch := omega) [Try.results18]
    exact ⟨by rw [if_pos (.inr (.inl rfl))]; rfl, ⟨by (try simp only [pushed_next', upded_next']); omega, fun i hi => by simp -implicitDefEqProofs (disch := omega) [yb]⟩⟩
  | true =>
  apply Run.by_eq
  · intro self
    conv => lhs; simp -implicitDefEqProofs (maxSteps := 300000) (disch := omega) [-getElem?_pos, -getElem?_neg, yb]
  try (with_reducible refine Run.ret ?_)
  apply zz
  refine Run.call ((isSweet_ev hi _).mono fun v wz hv => ?_)
  obtain ⟨rfl, z⟩ := hv
  have za := z.1
  have zb := z.2
  try simp only [pushed_next', upded_next'] at za zb
  cases h5 : sweetB hi with
  | false =>
    apply Run.by_eq
    · intro self
      conv => lhs; simp -implicitDefEqProofs (maxSteps := 300000) (disch := omega) [-getElem?_pos, -getElem?_neg, zb, yb]
    try (with_reducible refine Run.ret ?_)
    apply zz
    apply Cd.ite rfl
    · conv => lhs; simp -implicitDefEqProofs (maxSteps := 300000) (disch := omega) [-getElem?_pos, -getElem?_neg]
    all_goals intro c1
    all_goals try (cases c1; done)
    all_goals try simp only [Bool.not_eq_true', Bool.not_eq_false', decide_eq_true_eq, decide_eq_false_iff_not] at c1
    all_goals apply zz
    apply zz
    refine Cd.ra (h := ?_)
    apply Run.by_eq
    · intro self
      conv => lhs; simp -implicitDefEqProofs (maxSteps := 300000) (disch := omega) [-getElem?_pos, -getElem?_neg]
    try (with_reducible refine Run.ret ?_)
    apply zz
    apply Leave.mk (by first | exact .inl rfl | exact .inr rfl) (by simp only [Fr.marks_put, fr0_marks])
    · conv => lhs; simp -implicitDefEqProofs (disch := omega) [Try.results18]
    exact ⟨by rw [if_pos (.inr (.inr rfl))]; rfl, ⟨by (try simp only [pushed_next', upded_next']); omega, fun i hi => by simp -implicitDefEqProofs (disch := omega) [zb, yb]⟩⟩
  | true =>
  apply Run.by_eq
  · intro self
    conv => lhs; simp -implicitDefEqProofs (maxSteps := 300000) (disch := omega) [-getElem?_pos, -getElem?_neg, zb, yb]
  try (with_reducible refine Run.ret ?_)
  apply zz
  apply Cd.ite rfl
  · conv => lhs; simp -implicitDefEqProofs (maxSteps := 300000) (disch := omega) [-getElem?_pos, -getElem?_neg]
  all_goals intro c1
  all_goals try (cases c1; done)
  all_goals try simp only [Bool.not_eq_true', Bool.not_eq_false', decide_eq_true_eq, decide_eq_false_iff_not] at c1
  all_goals apply zz
  rw [if_neg (by rintro (h | h | h); omega; cases h; cases h)]
  by_cases h6 : 100 < (ss.length : Int)
  · apply zz
    refine Cd.ra (h := ?_)
    apply Run.by_eq
    · intro self
      conv => lhs; simp -implicitDefEqProofs (maxSteps := 300000) (disch := omega) [-getElem?_pos, -getElem?_neg, zb, yb, h6]
    try (with_reducible refine Run.ret ?_)
    apply zz
    apply Cd.ite rfl
    · conv => lhs; simp -implicitDefEqProofs (maxSteps := 300000) (disch := omega) [-getElem?_pos, -getElem?_neg]
    all_goals intro c2
    all_goals try (cases c2; done)
    all_goals try simp only [Bool.not_eq_true', Bool.not_eq_false', decide_eq_true_eq, decide_eq_false_iff_not] at c2
    all_goals apply zz
    apply zz
    refine Cd.ra (h := ?_)
    apply Run.by_eq
    · intro self
      conv => lhs; simp -implicitDefEqProofs (maxSteps := 300000) (disch := omega) [-getElem?_pos, -getElem?_neg]
    try (with_reducible refine Run.ret ?_)
    apply zz
    apply Leave.mk (by first | exact .inl rfl | exact .inr rfl) (by simp only [Fr.marks_put, fr0_marks])
    · conv => lhs; simp -implicitDefEqProofs (disch := omega) [Try.results18]
    exact ⟨by rw [if_pos h6]; rfl, ⟨by (try simp only [pushed_next', upded_next']); omega, fun i hi => by simp -implicitDefEqProofs (disch := omega) [zb, yb]⟩⟩
  rw [if_neg h6]
  apply zz
  refine Cd.ra (h := ?_)
  apply Run.by_eq
  · intro self
    conv => lhs; simp -implicitDefEqProofs (maxSteps := 300000) (disch := omega) [-getElem?_pos, -getElem?_neg, zb, yb, h6]
  try (with_reducible refine Run.ret ?_)
  apply zz
  apply Cd.ite rfl
  · conv => lhs; simp -implicitDefEqProofs (maxSteps := 300000) (disch := omega) [-getElem?_pos, -getElem?_neg]
  all_goals intro c2
  all_goals try (cases c2; done)
  all_goals try simp only [Bool.not_eq_true', Bool.not_eq_false', decide_eq_true_eq, decide_eq_false_iff_not] at c2
  all_goals apply zz
  apply zz
  refine Cd.ra (h := ?_)
  apply Run.by_eq
  · intro self
    conv => lhs; simp -implicitDefEqProofs (maxSteps := 300000) (disch := omega) [-getElem?_pos, -getElem?_neg, zb, yb]
  try (with_reducible refine Run.ret ?_)
  apply zz
  refine Cd.inv (fun z f s' => ∃ k : Nat, k ≤ ss.length ∧ z = ss.length - k ∧ f.marks = [] ∧ f.get 1 = .pointer (some ⟨s.next, 0, none⟩) ∧ f.get 39 = .slice a ss.length c ∧ f.get 40 = .int .i64 ss.length ∧ f.get 41 = .int .i64 k ∧ Keep s s' ∧ s.next < s'.next ∧ s'.heap.get s.next = some (.cells [.int .i64 n, .int .i64 lo, .int .i64 hi, .slice a ss.length c] none) ∧ ∀ (j : Nat) (x : SampD), j < k → ss[j]? = some x → sampErr n x = 0) ss.length ?_ ?_
  · exact ⟨0, by omega, rfl, by simp, by simp, by simp, by simp, by simp, ⟨by (try simp only [pushed_next', upded_next']); omega, fun i hi => by simp -implicitDefEqProofs (disch := omega) [zb, yb]⟩, by (try simp only [pushed_next', upded_next']); omega, by simp -implicitDefEqProofs (disch := omega) [zb, yb], fun j x h => by omega⟩
  clear y ya yb z za zb
  rintro zz0 f s' ⟨k, hk, rfl, hm, g1, g39, g40, g41, hkp, hnx, hg, hz⟩
  have hkpa := hkp.1
  have hkpb := hkp.2
  by_cases hlt : k < ss.length
  · obtain ⟨x, hx⟩ : ∃ x, ss[k]? = some x := ⟨ss[k], by simp [hlt]⟩
    obtain ⟨b, off, o, cs, gg, rfl, hb, ho, hc, ht⟩ := SmAt.at (hs.keep hkp) hx
    have hat := firstS_at hz hx
    have hnx2 : sampErr n x = 0 → ∀ (j : Nat) (y : SampD), j < k + 1 → ss[j]? = some y → sampErr n y = 0 := fun h0 j y hj hy => by
      by_cases e : j = k
      · subst e; rw [hx] at hy; cases hy; exact h0
      · exact hz j y (by omega) hy
    unfold sampErr at hat hnx2
    obtain ⟨w, vl, of⟩ := x
    simp only [] at ht hat hnx2
    apply zz
    refine Cd.ra (h := ?_)
    apply Run.by_eq
    · intro self
      conv => lhs; simp -implicitDefEqProofs (maxSteps := 300000) (disch := omega) [-getElem?_pos, -getElem?_neg, g41, g40]
    try (with_reducible refine Run.ret ?_)
    apply zz
    apply Cd.ite rfl
    · conv => lhs; simp -implicitDefEqProofs (maxSteps := 300000) (disch := omega) [-getElem?_pos, -getElem?_neg]
    all_goals intro c3
    all_goals try (cases c3; done)
    all_goals try simp only [Bool.not_eq_true', Bool.not_eq_false', decide_eq_true_eq, decide_eq_false_iff_not] at c3
    all_goals apply zz
    · apply zz
      refine Cd.ra (h := ?_)
      apply Run.by_eq
      · intro self
        conv => lhs; simp -implicitDefEqProofs (maxSteps := 300000) (disch := omega) [-getElem?_pos, -getElem?_neg, g41, g39, hlt, ho, hc, ht]
      try (with_reducible refine Run.ret ?_)
      apply zz
      refine Cd.ra (h := ?_)
      apply Run.by_eq
      · intro self
        conv => lhs; simp -implicitDefEqProofs (maxSteps := 300000) (disch := omega) [-getElem?_pos, -getElem?_neg, g1, hg]
      try (with_reducible refine Run.ret ?_)
      apply zz
      refine Run.call ((hasWeek_ev n lo hi w _ _).mono fun v wy hv => ?_)
      obtain ⟨rfl, y⟩ := hv
      have ya := y.1
      have yb := y.2
      try simp only [pushed_next', upded_next'] at ya yb
      cases hw : weekB n w with
      | false =>
        rw [hw, if_pos rfl] at hat
        apply Run.by_eq
        · intro self
          conv => lhs; simp -implicitDefEqProofs (maxSteps := 300000) (disch := omega) [-getElem?_pos, -getElem?_neg]
        try (with_reducible refine Run.ret ?_)
        apply zz
        apply Cd.ite rfl
        · conv => lhs; simp -implicitDefEqProofs (maxSteps := 300000) (disch := omega) [-getElem?_pos, -getElem?_neg]
        all_goals intro c4
        all_goals try (cases c4; done)
        all_goals try simp only [Bool.not_eq_true', Bool.not_eq_false', decide_eq_true_eq, decide_eq_false_iff_not] at c4
        all_goals apply zz
        apply zz
        refine Cd.ra (h := ?_)
        apply Run.by_eq
        · intro self
          conv => lhs; simp -implicitDefEqProofs (maxSteps := 300000) (disch := omega) [-getElem?_pos, -getElem?_neg]
        try (with_reducible refine Run.ret ?_)
        apply zz
        apply Leave.mk (by first | exact .inl rfl | exact .inr rfl) (by simp only [Fr.marks_put, fr0_marks, hm])
        · conv => lhs; simp -implicitDefEqProofs (disch := omega) [Try.results18, hm]
        exact ⟨by rw [hat (by decide)]; rfl, ⟨by (try simp only [pushed_next', upded_next']); omega, fun i hi => by simp -implicitDefEqProofs (disch := omega) [yb, hkpb]⟩⟩
      | true =>
        rw [hw, if_neg (by decide)] at hat
        rw [hw] at hnx2
        apply Run.by_eq
        · intro self
          conv => lhs; simp -implicitDefEqProofs (maxSteps := 300000) (disch := omega) [-getElem?_pos, -getElem?_neg]
        try (with_reducible refine Run.ret ?_)
        apply zz
        apply Cd.ite rfl
        · conv => lhs; simp -implicitDefEqProofs (maxSteps := 300000) (disch := omega) [-getElem?_pos, -getElem?_neg]
        all_goals intro c4
        all_goals try (cases c4; done)
        all_goals try simp only [Bool.not_eq_true', Bool.not_eq_false', decide_eq_true_eq, decide_eq_false_iff_not] at c4
        all_goals apply zz
        apply zz
        refine Cd.ra (h := ?_)
        apply Run.by_eq
        · intro self
          conv => lhs; simp -implicitDefEqProofs (maxSteps := 300000) (disch := omega) [-getElem?_pos, -getElem?_neg, yb]
        try (with_reducible refine Run.ret ?_)
        apply zz
        refine Run.call ((isSweet_ev vl _).mono fun v wz hv => ?_)
        obtain ⟨rfl, z⟩ := hv
        have za := z.1
        have zb := z.2
        try simp only [pushed_next', upded_next'] at za zb
        cases hv : sweetB vl with
        | false =>
          rw [hv, if_pos (show (false && sweetB of) = false from rfl)] at hat
          apply Run.by_eq
          · intro self
            conv => lhs; simp -implicitDefEqProofs (maxSteps := 300000) (disch := omega) [-getElem?_pos, -getElem?_neg, zb, yb]
          try (with_reducible refine Run.ret ?_)
          apply zz
          apply Cd.ite rfl
          · conv => lhs; simp -implicitDefEqProofs (maxSteps := 300000) (disch := omega) [-getElem?_pos, -getElem?_neg]
          all_goals intro c5
          all_goals try (cases c5; done)
          all_goals try simp only [Bool.not_eq_true', Bool.not_eq_false', decide_eq_true_eq, decide_eq_false_iff_not] at c5
          all_goals apply zz
          apply zz
          refine Cd.ra (h := ?_)
          apply Run.by_eq
          · intro self
            conv => lhs; simp -implicitDefEqProofs (maxSteps := 300000) (disch := omega) [-getElem?_pos, -getElem?_neg]
          try (with_reducible refine Run.ret ?_)
          apply zz
          apply Leave.mk (by first | exact .inl rfl | exact .inr rfl) (by simp only [Fr.marks_put, fr0_marks, hm])
          · conv => lhs; simp -implicitDefEqProofs (disch := omega) [Try.results18, hm]
          exact ⟨by rw [hat (by decide)]; rfl, ⟨by (try simp only [pushed_next', upded_next']); omega, fun i hi => by simp -implicitDefEqProofs (disch := omega) [zb, yb, hkpb]⟩⟩
        | true =>
          apply Run.by_eq
          · intro self
            conv => lhs; simp -implicitDefEqProofs (maxSteps := 300000) (disch := omega) [-getElem?_pos, -getElem?_neg, zb, yb]
          try (with_reducible refine Run.ret ?_)
          apply zz
          refine Run.call ((isSweet_ev of _).mono fun v wu hv => ?_)
          obtain ⟨rfl, u⟩ := hv
          have ua := u.1
          have ub := u.2
          try simp only [pushed_next', upded_next'] at ua ub
          cases hof : sweetB of with
          | false =>
            rw [hv, hof, if_pos (show (true && false) = false from rfl)] at hat
            apply Run.by_eq
            · intro self
              conv => lhs; simp -implicitDefEqProofs (maxSteps := 300000) (disch := omega) [-getElem?_pos, -getElem?_neg, ub, zb, yb]
            try (with_reducible refine Run.ret ?_)
            apply zz
            apply Cd.ite rfl
            · conv => lhs; simp -implicitDefEqProofs (maxSteps := 300000) (disch := omega) [-getElem?_pos, -getElem?_neg]
            all_goals intro c5
            all_goals try (cases c5; done)
            all_goals try simp only [Bool.not_eq_true', Bool.not_eq_false', decide_eq_true_eq, decide_eq_false_iff_not] at c5
            all_goals apply zz
            apply zz
            refine Cd.ra (h := ?_)
            apply Run.by_eq
            · intro self
              conv => lhs; simp -implicitDefEqProofs (maxSteps := 300000) (disch := omega) [-getElem?_pos, -getElem?_neg]
            try (with_reducible refine Run.ret ?_)
            apply zz
            apply Leave.mk (by first | exact .inl rfl | exact .inr rfl) (by simp only [Fr.marks_put, fr0_marks, hm])
            · conv => lhs; simp -implicitDefEqProofs (disch := omega) [Try.results18, hm]
            exact ⟨by rw [hat (by decide)]; rfl, ⟨by (try simp only [pushed_next', upded_next']); omega, fun i hi => by simp -implicitDefEqProofs (disch := omega) [ub, zb, yb, hkpb]⟩⟩
          | true =>
            rw [hv, hof] at hnx2
            apply Run.by_eq
            · intro self
              conv => lhs; simp -implicitDefEqProofs (maxSteps := 300000) (disch := omega) [-getElem?_pos, -getElem?_neg, ub, zb, yb]
            try (with_reducible refine Run.ret ?_)
            apply zz
            apply Cd.ite rfl
            · conv => lhs; simp -implicitDefEqProofs (maxSteps := 300000) (disch := omega) [-getElem?_pos, -getElem?_neg]
            all_goals intro c5
            all_goals try (cases c5; done)
            all_goals try simp only [Bool.not_eq_true', Bool.not_eq_false', decide_eq_true_eq, decide_eq_false_iff_not] at c5
            all_goals apply zz
            apply zz
            refine Cd.ra (h := ?_)
            apply Run.by_eq
            · intro self
              conv => lhs; simp -implicitDefEqProofs (maxSteps := 300000) (disch := omega) [-getElem?_pos, -getElem?_neg, g41]
            try (with_reducible refine Run.ret ?_)
            apply zz
            exact LoopK.nm (ss.length - (k + 1)) (by omega) ⟨k + 1, by omega, rfl, by simp [hm], by simp [g1], by simp [g39], by simp [g40], by simp, ⟨by (try simp only [pushed_next', upded_next']); omega, fun i hi => by simp -implicitDefEqProofs (disch := omega) [ub, zb, yb, hkpb]⟩, by (try simp only [pushed_next', upded_next']); omega, by simp -implicitDefEqProofs (disch := omega) [ub, zb, yb, hg], hnx2 rfl⟩
    · simp at c3; omega
  · obtain rfl : k = ss.length := by omega
    apply zz
    refine Cd.ra (h := ?_)
    apply Run.by_eq
    · intro self
      conv => lhs; simp -implicitDefEqProofs (maxSteps := 300000) (disch := omega) [-getElem?_pos, -getElem?_neg, g41, g40]
    try (with_reducible refine Run.ret ?_)
    apply zz
    apply Cd.ite rfl
    · conv => lhs; simp -implicitDefEqProofs (maxSteps := 300000) (disch := omega) [-getElem?_pos, -getElem?_neg]
    all_goals intro c3
    all_goals try (cases c3; done)
    all_goals try simp only [Bool.not_eq_true', Bool.not_eq_false', decide_eq_true_eq, decide_eq_false_iff_not] at c3
    all_goals apply zz
    apply zz
    refine Cd.ra (h := ?_)
    apply Run.by_eq
    · intro self
      conv => lhs; simp -implicitDefEqProofs (maxSteps := 300000) (disch := omega) [-getElem?_pos, -getElem?_neg]
    try (with_reducible refine Run.ret ?_)
    apply zz
    apply Leave.mk (by first | exact .inl rfl | exact .inr rfl) (by simp only [Fr.marks_put, fr0_marks, hm])
    · conv => lhs; simp -implicitDefEqProofs (disch := omega) [Try.results18, hm]
    exact ⟨by rw [firstS_zero fun j x hj => hz j x (List.getElem?_eq_some_iff.1 hj).1 hj]; rfl, hkp⟩
end Go.Proofs.Ytnhokodcmeekhaa
namespace Go.Proofs.Ytnhokodcmeekhaa
open Go Kern
theorem fieldErr_ref (n lo hi : Int) (ss : List SampD) : fieldErr n lo hi ss = if isB n 1 30 = false ∨ isB lo 0 hi = false ∨ 30000 < hi then 2 else if 100 < (ss.length : Int) then 1 else firstS n ss := by
  unfold fieldErr
  by_cases h1 : n < 1 ∨ 30 < n
  · rw [if_pos h1, if_pos]
    left; simp [isB]; omega
  · rw [if_neg h1]
    by_cases h2 : lo > hi ∨ sweetB lo = false ∨ sweetB hi = false
    · rw [if_pos h2, if_pos]
      right
      simp only [isB, sweetB, Bool.and_eq_false_iff, decide_eq_false_iff_not] at h2 ⊢
      omega
    · have h3 : ¬ (isB n 1 30 = false ∨ isB lo 0 hi = false ∨ 30000 < hi) := by
        simp only [isB, sweetB, Bool.and_eq_false_iff, decide_eq_false_iff_not] at h2 ⊢
        omega
      rw [if_neg h2, if_neg h3]
@[simp] theorem newObj_33 {f : Fr} {pl0 : Array (Nat × Operand)} : Kern.newObj TT (.buildSlice 33 1 pl0) f = ob (fillL f.eval (placesA 3 pl0.toList) (repeatL [.int .i64 0, .int .i64 0, .int .i64 0] 1)) fun c => some (.cells c none) :=
  newObj_buildSlice 33 1 pl0 und_33 size_106 zero_106 rfl
theorem samp_len (l : List SampD) : ∀ x ∈ l.map SampD.cs, x.length = 3 := fun x hx => by obtain ⟨m, _, rfl⟩ := List.mem_map.1 hx; rfl
end Go.Proofs.Ytnhokodcmeekhaa
namespace Go.Proofs.Ytnhokodcmeekhaa
open Go Kern
/-! Fractions -/
structure Frac where
  o : Int
  u : Int
def Frac.cs (f : Frac) : List Value := [.int .i64 f.o, .int .i64 f.u]
def Frac.v (f : Frac) : Value := .agg #[.int .i64 f.o, .int .i64 f.u]
def aboveB (f g : Frac) : Bool := decide (g.o * f.u < f.o * g.u)
/-- Products that fit. -/
def Fits (f g : Frac) : Prop := (-4611686018427387904 ≤ f.o * g.u ∧ f.o * g.u ≤ 4611686018427387904) ∧ (-4611686018427387904 ≤ g.o * f.u ∧ g.o * f.u ≤ 4611686018427387904)
theorem Fits.symm {f g : Frac} (h : Fits f g) : Fits g f := ⟨h.2, h.1⟩
set_option maxRecDepth 100000 in
theorem whole_ev (x : Int) (s : St) : Ev TT 62 [.int .i64 x] s fun r s' => r = Frac.v ⟨x, 1⟩ ∧ Keep s s' := by
  refine Ev.intro (fn := Try.f62) rfl (by kernel_rfl) rfl rfl ?_
  apply zz
  refine Cd.ra (h := ?_)
  apply Run.by_eq
  · intro self
    conv => lhs; simp -implicitDefEqProofs (maxSteps := 300000) (disch := omega) [-getElem?_pos, -getElem?_neg]
  try (with_reducible refine Run.ret ?_)
  apply zz
  refine Cd.ra (h := ?_)
  apply Run.by_eq
  · intro self
    conv => lhs; simp -implicitDefEqProofs (maxSteps := 300000) (disch := omega) [-getElem?_pos, -getElem?_neg]
  try (with_reducible refine Run.ret ?_)
  apply zz
  apply Leave.mk (by first | exact .inl rfl | exact .inr rfl) (by simp only [Fr.marks_put, fr0_marks])
  · conv => lhs; simp -implicitDefEqProofs (disch := omega) [Try.results62]
  exact ⟨rfl, ⟨by (try simp only [pushed_next', upded_next']); omega, fun i hi => by simp -implicitDefEqProofs (disch := omega) []⟩⟩
set_option maxRecDepth 100000 in
theorem above_ev (f g : Frac) (s : St) (h : Fits f g) : Ev TT 76 [f.v, g.v] s fun r s' => r = .bool (aboveB f g) ∧ Keep s s' := by
  obtain ⟨h1, h2⟩ := h
  unfold aboveB Frac.v
  obtain ⟨a, b⟩ := f
  obtain ⟨c, d⟩ := g
  simp only [] at h1 h2 ⊢
  generalize hX : a * d = X at h1
  generalize hY : c * b = Y at h2
  refine Ev.intro (fn := Try.f76) rfl (by kernel_rfl) rfl rfl ?_
  apply zz
  refine Cd.ra (h := ?_)
  apply Run.by_eq
  · intro self
    conv => lhs; simp -implicitDefEqProofs (maxSteps := 300000) (disch := omega) [-getElem?_pos, -getElem?_neg]
  try (with_reducible refine Run.ret ?_)
  apply zz
  refine Cd.ra (h := ?_)
  apply Run.by_eq
  · intro self
    conv => lhs; simp -implicitDefEqProofs (maxSteps := 300000) (disch := omega) [-getElem?_pos, -getElem?_neg, hX, hY]
  try (with_reducible refine Run.ret ?_)
  apply zz
  apply Leave.mk (by first | exact .inl rfl | exact .inr rfl) (by simp only [Fr.marks_put, fr0_marks])
  · conv => lhs; simp -implicitDefEqProofs (disch := omega) [Try.results76]
  exact ⟨rfl, ⟨by (try simp only [pushed_next', upded_next']); omega, fun i hi => by simp -implicitDefEqProofs (disch := omega) []⟩⟩
set_option maxRecDepth 100000 in
theorem below_ev (f g : Frac) (s : St) (h : Fits f g) : Ev TT 66 [f.v, g.v] s fun r s' => r = .bool (aboveB g f) ∧ Keep s s' := by
  unfold Frac.v
  refine Ev.intro (fn := Try.f66) rfl (by kernel_rfl) rfl rfl ?_
  apply zz
  refine Cd.ra (h := ?_)
  apply Run.by_eq
  · intro self
    conv => lhs; simp -implicitDefEqProofs (maxSteps := 300000) (disch := omega) [-getElem?_pos, -getElem?_neg]
  try (with_reducible refine Run.ret ?_)
  apply zz
  refine Cd.ra (h := ?_)
  apply Run.by_eq
  · intro self
    conv => lhs; simp -implicitDefEqProofs (maxSteps := 300000) (disch := omega) [-getElem?_pos, -getElem?_neg]
  try (with_reducible refine Run.ret ?_)
  apply zz
  refine Run.call ((above_ev g f _ h.symm).mono fun v wy hv => ?_)
  obtain ⟨rfl, y⟩ := hv
  have ya := y.1
  have yb := y.2
  try simp only [pushed_next', upded_next'] at ya yb
  apply Run.by_eq
  · intro self
    conv => lhs; simp -implicitDefEqProofs (maxSteps := 300000) (disch := omega) [-getElem?_pos, -getElem?_neg]
  try (with_reducible refine Run.ret ?_)
  apply zz
  apply Leave.mk (by first | exact .inl rfl | exact .inr rfl) (by simp only [Fr.marks_put, fr0_marks])
  · conv => lhs; simp -implicitDefEqProofs (disch := omega) [Try.results66]
  exact ⟨rfl, ⟨by (try simp only [pushed_next', upded_next']); omega, fun i hi => by simp -implicitDefEqProofs (disch := omega) [yb]⟩⟩
abbrev FrAt (s : St) (v : Value) (fs : List Frac) : Prop := SlAt 2 s v (fs.map Frac.cs)
theorem FrAt.at {s : St} {a : Option Addr} {m c : Nat} {fs : List Frac} (h : FrAt s (.slice a m c) fs) {k : Nat} {x : Frac} (hk : fs[k]? = some x) :
    ∃ b off o cs g, a = some ⟨b, off, none⟩ ∧ b < s.next ∧ s.heap.get b = some o ∧ cellsOf o = some (cs, g) ∧ takeL 2 (cs.drop (off + k * 2)) = some [.int .i64 x.o, .int .i64 x.u] :=
  SlAt.at h (by rw [List.getElem?_map, hk]; rfl)
/-- The first that none comes before. -/
def foreF (bf : Frac → Frac → Bool) (a : Frac) (fs : List Frac) : Frac := fs.foldl (fun a x => if bf x a = true then x else a) a
theorem foreF_take {bf : Frac → Frac → Bool} {a : Frac} {fs : List Frac} {k : Nat} {x : Frac} (h : fs[k]? = some x) : foreF bf a (fs.take (k + 1)) = if bf x (foreF bf a (fs.take k)) = true then x else foreF bf a (fs.take k) := by
  unfold foreF
  rw [fold_take _ _ _ h]
theorem foreF_mem {bf : Frac → Frac → Bool} (a : Frac) : ∀ fs : List Frac, foreF bf a fs = a ∨ foreF bf a fs ∈ fs := by
  intro fs
  induction fs generalizing a with
  | nil => exact .inl rfl
  | cons x r ih =>
    show foreF bf (if bf x a = true then x else a) r = a ∨ foreF bf (if bf x a = true then x else a) r ∈ x :: r
    rcases ih (if bf x a = true then x else a) with h | h
    · split at h
      · rename_i hb; rw [if_pos hb, h]; exact .inr (.head _)
      · rename_i hb; rw [if_neg hb, h]; exact .inl rfl
    · exact .inr (.tail _ h)
set_option maxRecDepth 100000 in
set_option maxHeartbeats 2000000 in
theorem foremost_ev (gi : FuncId) (bf : Frac → Frac → Bool) (hbf : ∀ (x y : Frac) (s : St), Fits x y → Ev TT gi [x.v, y.v] s fun r s' => r = .bool (bf x y) ∧ Keep s s') (a : Frac) (v : Value) (fs : List Frac) (s : St) (hs : FrAt s v fs) (hl : fs.length ≤ 100000) (hF : ∀ x ∈ fs, ∀ y, y = a ∨ y ∈ fs → Fits x y) :
    Ev TT 79 [.func (.func gi) #[] #[], a.v, v] s fun r s' => r = (foreF bf a fs).v ∧ Keep s s' := by
  obtain ⟨av, c, rfl⟩ := hs.shape
  rw [List.length_map] at hs ⊢
  unfold Frac.v
  refine Ev.intro (fn := Try.f79) rfl (by kernel_rfl) rfl rfl ?_
  apply zz
  refine Cd.ra (h := ?_)
  apply Run.by_eq
  · intro self
    conv => lhs; simp -implicitDefEqProofs (maxSteps := 300000) (disch := omega) [-getElem?_pos, -getElem?_neg]
  try (with_reducible refine Run.ret ?_)
  apply zz
  refine Cd.ra (h := ?_)
  apply Run.by_eq
  · intro self
    conv => lhs; simp -implicitDefEqProofs (maxSteps := 300000) (disch := omega) [-getElem?_pos, -getElem?_neg]
  try (with_reducible refine Run.ret ?_)
  apply zz
  refine Cd.inv (fun z f s' => ∃ k : Nat, k ≤ fs.length ∧ z = fs.length - k ∧ f.marks = [] ∧ f.get 0 = .func (.func gi) #[] #[] ∧ f.get 4 = .pointer (some ⟨s.next, 0, none⟩) ∧ f.get 6 = .pointer (some ⟨s.next + 1, 0, none⟩) ∧ f.get 9 = .slice av fs.length c ∧ f.get 10 = .int .i64 fs.length ∧ f.get 11 = .int .i64 k ∧ Keep s s' ∧ s.next + 1 < s'.next ∧ s'.heap.get s.next = some (.cells [.int .i64 (foreF bf a (fs.take k)).o, .int .i64 (foreF bf a (fs.take k)).u] none) ∧ s'.heap.get (s.next + 1) = some (.cells [.int .i64 0, .int .i64 0] none)) fs.length ?_ ?_
  · refine ⟨0, by omega, rfl, by simp, by simp, by simp, by simp, by simp, by simp, by simp, ⟨by (try simp only [pushed_next', upded_next']); omega, fun i hi => by simp -implicitDefEqProofs (disch := omega) []⟩, by simp, ?_, by simp -implicitDefEqProofs (disch := omega)⟩
    rw [List.take_zero]
    show _ = some (AObj.cells [.int .i64 a.o, .int .i64 a.u] none)
    simp -implicitDefEqProofs (disch := omega)
  rintro z f s' ⟨k, hk, rfl, hm, g0, g4, g6, g9, g10, g11, hkp, hnx, hg0, hg1⟩
  have hkpa := hkp.1
  have hkpb := hkp.2
  by_cases hlt : k < fs.length
  · obtain ⟨x, hx⟩ : ∃ x, fs[k]? = some x := ⟨fs[k], by simp [hlt]⟩
    obtain ⟨b, off, o, cs, gg, rfl, hb, ho, hc, ht⟩ := FrAt.at (hs.keep hkp) hx
    have hst := foreF_take (bf := bf) (a := a) hx
    have hmem : foreF bf a (fs.take k) = a ∨ foreF bf a (fs.take k) ∈ fs := (foreF_mem a _).imp id fun h => List.mem_of_mem_take h
    have hfit := hF x (List.mem_of_getElem? hx) _ hmem
    generalize foreF bf a (fs.take k) = cur at hst hg0 hfit
    apply zz
    refine Cd.ra (h := ?_)
    apply Run.by_eq
    · intro self
      conv => lhs; simp -implicitDefEqProofs (maxSteps := 300000) (disch := omega) [-getElem?_pos, -getElem?_neg, g11, g10]
    try (with_reducible refine Run.ret ?_)
    apply zz
    apply Cd.ite rfl
    · conv => lhs; simp -implicitDefEqProofs (maxSteps := 300000) (disch := omega) [-getElem?_pos, -getElem?_neg]
    all_goals intro c0
    all_goals try (cases c0; done)
    all_goals try simp only [Bool.not_eq_true', Bool.not_eq_false', decide_eq_true_eq, decide_eq_false_iff_not] at c0
    all_goals apply zz
    · apply zz
      refine Cd.ra (h := ?_)
      apply Run.by_eq
      · intro self
        conv => lhs; simp -implicitDefEqProofs (maxSteps := 300000) (disch := omega) [-getElem?_pos, -getElem?_neg, g11, g9, hlt, ho, hc, ht]
      try (with_reducible refine Run.ret ?_)
      apply zz
      refine Cd.ra (h := ?_)
      apply Run.by_eq
      · intro self
        conv => lhs; simp -implicitDefEqProofs (maxSteps := 300000) (disch := omega) [-getElem?_pos, -getElem?_neg, g0, g4, hg0]
      try (with_reducible refine Run.ret ?_)
      apply zz
      refine Run.call ((hbf x cur _ hfit).mono fun r w hv => ?_)
      obtain ⟨rfl, y⟩ := hv
      have ya := y.1
      have yb := y.2
      try simp only [pushed_next', upded_next'] at ya yb
      cases hbx : bf x cur with
      | true =>
        rw [hbx, if_pos rfl] at hst
        apply Run.by_eq
        · intro self
          conv => lhs; simp -implicitDefEqProofs (maxSteps := 300000) (disch := omega) [-getElem?_pos, -getElem?_neg]
        try (with_reducible refine Run.ret ?_)
        apply zz
        apply Cd.ite rfl
        · conv => lhs; simp -implicitDefEqProofs (maxSteps := 300000) (disch := omega) [-getElem?_pos, -getElem?_neg]
        all_goals intro c1
        all_goals try (cases c1; done)
        all_goals try simp only [Bool.not_eq_true', Bool.not_eq_false', decide_eq_true_eq, decide_eq_false_iff_not] at c1
        all_goals apply zz
        apply zz
        refine Cd.ra (h := ?_)
        apply Run.by_eq
        · intro self
          conv => lhs; simp -implicitDefEqProofs (maxSteps := 300000) (disch := omega) [-getElem?_pos, -getElem?_neg, g4, yb, hg0]
        try (with_reducible refine Run.ret ?_)
        apply zz
        refine Cd.ra (h := ?_)
        apply Run.by_eq
        · intro self
          conv => lhs; simp -implicitDefEqProofs (maxSteps := 300000) (disch := omega) [-getElem?_pos, -getElem?_neg, g11]
        try (with_reducible refine Run.ret ?_)
        apply zz
        refine LoopK.nm (fs.length - (k + 1)) (by omega) ⟨k + 1, by omega, rfl, by simp [hm], by simp [g0], by simp [g4], by simp [g6], by simp [g9], by simp [g10], by simp, ⟨by (try simp only [pushed_next', upded_next']); omega, fun i hi => by simp -implicitDefEqProofs (disch := omega) [yb, hkpb]⟩, by (try simp only [pushed_next', upded_next']); omega, ?_, ?_⟩
        · rw [hst]; simp -implicitDefEqProofs (disch := omega) [yb, hg0]
        · simp -implicitDefEqProofs (disch := omega) [yb, hg1]
      | false =>
        rw [hbx, if_neg (by decide)] at hst
        apply Run.by_eq
        · intro self
          conv => lhs; simp -implicitDefEqProofs (maxSteps := 300000) (disch := omega) [-getElem?_pos, -getElem?_neg]
        try (with_reducible refine Run.ret ?_)
        apply zz
        apply Cd.ite rfl
        · conv => lhs; simp -implicitDefEqProofs (maxSteps := 300000) (disch := omega) [-getElem?_pos, -getElem?_neg]
        all_goals intro c1
        all_goals try (cases c1; done)
        all_goals try simp only [Bool.not_eq_true', Bool.not_eq_false', decide_eq_true_eq, decide_eq_false_iff_not] at c1
        all_goals apply zz
        apply zz
        refine Cd.ra (h := ?_)
        apply Run.by_eq
        · intro self
          conv => lhs; simp -implicitDefEqProofs (maxSteps := 300000) (disch := omega) [-getElem?_pos, -getElem?_neg, g11]
        try (with_reducible refine Run.ret ?_)
        apply zz
        refine LoopK.nm (fs.length - (k + 1)) (by omega) ⟨k + 1, by omega, rfl, by simp [hm], by simp [g0], by simp [g4], by simp [g6], by simp [g9], by simp [g10], by simp, ⟨by (try simp only [pushed_next', upded_next']); omega, fun i hi => by simp -implicitDefEqProofs (disch := omega) [yb, hkpb]⟩, by (try simp only [pushed_next', upded_next']); omega, ?_, ?_⟩
        · rw [hst]; simp -implicitDefEqProofs (disch := omega) [yb, hg0]
        · simp -implicitDefEqProofs (disch := omega) [yb, hg1]
    · omega
  · obtain rfl : k = fs.length := by omega
    rw [List.take_length] at hg0
    apply zz
    refine Cd.ra (h := ?_)
    apply Run.by_eq
    · intro self
      conv => lhs; simp -implicitDefEqProofs (maxSteps := 300000) (disch := omega) [-getElem?_pos, -getElem?_neg, g11, g10]
    try (with_reducible refine Run.ret ?_)
    apply zz
    apply Cd.ite rfl
    · conv => lhs; simp -implicitDefEqProofs (maxSteps := 300000) (disch := omega) [-getElem?_pos, -getElem?_neg]
    all_goals intro c0
    all_goals try (cases c0; done)
    all_goals try simp only [Bool.not_eq_true', Bool.not_eq_false', decide_eq_true_eq, decide_eq_false_iff_not] at c0
    all_goals apply zz
    apply zz
    refine Cd.ra (h := ?_)
    apply Run.by_eq
    · intro self
      conv => lhs; simp -implicitDefEqProofs (maxSteps := 300000) (disch := omega) [-getElem?_pos, -getElem?_neg, g4, hg0, g6, hg1]
    try (with_reducible refine Run.ret ?_)
    apply zz
    apply Leave.mk (by first | exact .inl rfl | exact .inr rfl) (by simp only [Fr.marks_put, fr0_marks, hm, g6])
    · conv => lhs; simp -implicitDefEqProofs (disch := omega) [Try.results79, hm, g6]
    exact ⟨rfl, ⟨by (try simp only [pushed_next', upded_next']); omega, fun i hi => by simp -implicitDefEqProofs (disch := omega) [hkpb]⟩⟩
theorem v_eq (f : Frac) : f.v = .agg #[.int .i64 f.o, .int .i64 f.u] := rfl
set_option maxRecDepth 100000 in
theorem greatest_ev (a : Frac) (v : Value) (fs : List Frac) (s : St) (hs : FrAt s v fs) (hl : fs.length ≤ 100000) (hF : ∀ x ∈ fs, ∀ y, y = a ∨ y ∈ fs → Fits x y) : Ev TT 59 [a.v, v] s fun r s' => r = (foreF aboveB a fs).v ∧ Keep s s' := by
  rw [v_eq]
  refine Ev.intro (fn := Try.f59) rfl (by kernel_rfl) rfl rfl ?_
  apply zz
  refine Cd.ra (h := ?_)
  apply Run.by_eq
  · intro self
    conv => lhs; simp -implicitDefEqProofs (maxSteps := 300000) (disch := omega) [-getElem?_pos, -getElem?_neg]
  try (with_reducible refine Run.ret ?_)
  apply zz
  refine Cd.ra (h := ?_)
  apply Run.by_eq
  · intro self
    conv => lhs; simp -implicitDefEqProofs (maxSteps := 300000) (disch := omega) [-getElem?_pos, -getElem?_neg]
  try (with_reducible refine Run.ret ?_)
  apply zz
  refine Run.call ((foremost_ev 76 aboveB above_ev a _ fs _ (hs.keep ⟨by (try simp only [pushed_next', upded_next']); omega, fun i hi => by simp -implicitDefEqProofs (disch := omega) []⟩) hl hF).mono fun v wy hv => ?_)
  obtain ⟨rfl, y⟩ := hv
  have ya := y.1
  have yb := y.2
  try simp only [pushed_next', upded_next'] at ya yb
  apply Run.by_eq
  · intro self
    conv => lhs; simp -implicitDefEqProofs (maxSteps := 300000) (disch := omega) [-getElem?_pos, -getElem?_neg, v_eq, yb]
  try (with_reducible refine Run.ret ?_)
  apply zz
  apply Leave.mk (by first | exact .inl rfl | exact .inr rfl) (by simp only [Fr.marks_put, fr0_marks, yb])
  · conv => lhs; simp -implicitDefEqProofs (disch := omega) [Try.results59, yb]
  exact ⟨rfl, ⟨by (try simp only [pushed_next', upded_next']); omega, fun i hi => by simp -implicitDefEqProofs (disch := omega) [yb]⟩⟩
set_option maxRecDepth 100000 in
theorem smallest_ev (a : Frac) (v : Value) (fs : List Frac) (s : St) (hs : FrAt s v fs) (hl : fs.length ≤ 100000) (hF : ∀ x ∈ fs, ∀ y, y = a ∨ y ∈ fs → Fits x y) : Ev TT 70 [a.v, v] s fun r s' => r = (foreF (fun x y => aboveB y x) a fs).v ∧ Keep s s' := by
  rw [v_eq]
  refine Ev.intro (fn := Try.f70) rfl (by kernel_rfl) rfl rfl ?_
  apply zz
  refine Cd.ra (h := ?_)
  apply Run.by_eq
  · intro self
    conv => lhs; simp -implicitDefEqProofs (maxSteps := 300000) (disch := omega) [-getElem?_pos, -getElem?_neg]
  try (with_reducible refine Run.ret ?_)
  apply zz
  refine Cd.ra (h := ?_)
  apply Run.by_eq
  · intro self
    conv => lhs; simp -implicitDefEqProofs (maxSteps := 300000) (disch := omega) [-getElem?_pos, -getElem?_neg]
  try (with_reducible refine Run.ret ?_)
  apply zz
  refine Run.call ((foremost_ev 66 (fun x y => aboveB y x) below_ev a _ fs _ (hs.keep ⟨by (try simp only [pushed_next', upded_next']); omega, fun i hi => by simp -implicitDefEqProofs (disch := omega) []⟩) hl hF).mono fun v wy hv => ?_)
  obtain ⟨rfl, y⟩ := hv
  have ya := y.1
  have yb := y.2
  try simp only [pushed_next', upded_next'] at ya yb
  apply Run.by_eq
  · intro self
    conv => lhs; simp -implicitDefEqProofs (maxSteps := 300000) (disch := omega) [-getElem?_pos, -getElem?_neg, v_eq, yb]
  try (with_reducible refine Run.ret ?_)
  apply zz
  apply Leave.mk (by first | exact .inl rfl | exact .inr rfl) (by simp only [Fr.marks_put, fr0_marks, yb])
  · conv => lhs; simp -implicitDefEqProofs (disch := omega) [Try.results70, yb]
  exact ⟨rfl, ⟨by (try simp only [pushed_next', upded_next']); omega, fun i hi => by simp -implicitDefEqProofs (disch := omega) [yb]⟩⟩
end Go.Proofs.Ytnhokodcmeekhaa
namespace Go.Proofs.Ytnhokodcmeekhaa
open Go Kern
/-! Lows and highs of weeks -/
structure BOk (B : List Value) (n : Nat) (L H : Nat → Frac) : Prop where
  len : B.length = 121
  ones : onesL B = true
  same : listEq (veq 4) B B = true
  wk : B[0]? = some (.int .i64 n)
  lo : ∀ w, w < 30 → takeL 2 (B.drop (1 + w * 2)) = some [.int .i64 (L w).o, .int .i64 (L w).u]
  hi : ∀ w, w < 30 → takeL 2 (B.drop (61 + w * 2)) = some [.int .i64 (H w).o, .int .i64 (H w).u]
theorem takeL_len {α : Type} {B : List α} {n : Nat} (h : B.length = n) : takeL n B = some B := by rw [← h, takeL_all]
set_option maxRecDepth 100000 in
set_option maxHeartbeats 1000000 in
theorem lowPoint_ev (B : List Value) (n : Nat) (L H : Nat → Frac) (w : Nat) (s : St) (hB : BOk B n L H) (hw : w < 30) : Ev TT 77 [.agg B.toArray, .int .i64 w] s fun r s' => r = .agg #[.int .i64 w, .int .i64 (L w).o, .int .i64 (L w).u] ∧ Keep s s' := by
  have h1 := hB.lo w hw
  have h2 := hB.len
  have h3 := hB.ones
  have h4 : ((w : Int) < 30) := by omega
  refine Ev.intro (fn := Try.f77) rfl (by kernel_rfl) rfl rfl ?_
  apply zz
  refine Cd.ra (h := ?_)
  apply Run.by_eq
  · intro self
    conv => lhs; simp -implicitDefEqProofs (maxSteps := 300000) (disch := omega) [-getElem?_pos, -getElem?_neg, h2, h3]
  try (with_reducible refine Run.ret ?_)
  apply zz
  refine Cd.ra (h := ?_)
  apply Run.by_eq
  · intro self
    conv => lhs; simp -implicitDefEqProofs (maxSteps := 300000) (disch := omega) [-getElem?_pos, -getElem?_neg, h1, hw, h4]
  try (with_reducible refine Run.ret ?_)
  apply zz
  apply Leave.mk (by first | exact .inl rfl | exact .inr rfl) (by simp only [Fr.marks_put, fr0_marks])
  · conv => lhs; simp -implicitDefEqProofs (disch := omega) [Try.results77]
  exact ⟨rfl, ⟨by (try simp only [pushed_next', upded_next']); omega, fun i hi => by simp -implicitDefEqProofs (disch := omega) []⟩⟩
theorem mul_bd {a b : Int} (A B : Int) (ha : -A ≤ a ∧ a ≤ A) (hb : -B ≤ b ∧ b ≤ B) : -(A * B) ≤ a * b ∧ a * b ≤ A * B := by
  have h : (a * b).natAbs ≤ A.toNat * B.toNat := by
    rw [Int.natAbs_mul]
    exact Nat.mul_le_mul (by omega) (by omega)
  have e : ((A.toNat * B.toNat : Nat) : Int) = A * B := by
    push_cast
    rw [Int.toNat_of_nonneg (by omega), Int.toNat_of_nonneg (by omega)]
  omega
def lineO (a : Int) (x : Frac) (b : Int) (y : Frac) (w : Int) : Frac := ⟨x.o * y.u * (b - w) + y.o * x.u * (w - a), x.u * y.u * (b - a)⟩
/-- The straight line through two points, in a week. -/
def lineF (a : Int) (x : Frac) (b : Int) (y : Frac) (w : Int) : Frac := if b < a then lineO b y a x w else lineO a x b y w
/-- What a fraction of a plan of weeks can be. -/
def Small (x : Frac) : Prop := (-30000000000 ≤ x.o ∧ x.o ≤ 30000000000) ∧ (-30000 ≤ x.u ∧ x.u ≤ 30000)
@[simp] theorem newObj_a129 {f : Fr} : Kern.newObj TT (.alloc 129) f = some (.cells [.int .i64 0, .int .i64 0, .int .i64 0] none) := newObj_alloc 129 zero_129
set_option maxRecDepth 100000 in
set_option maxHeartbeats 4000000 in
theorem lineO_ev (a b w : Int) (x y : Frac) (s : St) (hx : Small x) (hy : Small y) (ha : 0 ≤ a ∧ a < 30) (hb : 0 ≤ b ∧ b < 30) (hw : 0 ≤ w ∧ w < 30) :
    Ev TT 78 [.agg #[.int .i64 a, .int .i64 x.o, .int .i64 x.u, .int .i64 b, .int .i64 y.o, .int .i64 y.u], .int .i64 w] s fun r s' => r = (lineF a x b y w).v ∧ Keep s s' := by
  obtain ⟨xo, xu⟩ := x
  obtain ⟨yo, yu⟩ := y
  obtain ⟨hx1, hx2⟩ := hx
  obtain ⟨hy1, hy2⟩ := hy
  simp only [] at hx1 hx2 hy1 hy2 ⊢
  have p1 := mul_bd 30000000000 30000 hx1 hy2
  have p2 := mul_bd 30000000000 30000 hy1 hx2
  have p3 := mul_bd 30000 30000 hx2 hy2
  have q1 := mul_bd 900000000000000 30 p1 (b := b - w) (by omega)
  have q2 := mul_bd 900000000000000 30 p2 (b := w - a) (by omega)
  have q3 := mul_bd 900000000 30 p3 (b := b - a) (by omega)
  have r1 := mul_bd 900000000000000 30 p2 (b := a - w) (by omega)
  have r2 := mul_bd 900000000000000 30 p1 (b := w - b) (by omega)
  have r3 := mul_bd 900000000 30 p3 (b := a - b) (by omega)
  unfold lineF lineO Frac.v
  simp only []
  refine Ev.intro (fn := Try.f78) rfl (by kernel_rfl) rfl rfl ?_
  apply zz
  refine Cd.ra (h := ?_)
  apply Run.by_eq
  · intro self
    conv => lhs; simp -implicitDefEqProofs (maxSteps := 300000) (disch := omega) [-getElem?_pos, -getElem?_neg]
  try (with_reducible refine Run.ret ?_)
  apply zz
  refine Cd.drawn (pl := [(0, 0, false, false), (1, 1, false, false), (2, 0, false, false), (3, 4, false, false), (4, 0, false, true), (5, 0, false, true), (6, 51, true, false), (7, 127, true, false)]) (by kernel_rfl) (by conv => lhs; simp only [List.map_cons, List.map_nil]) (by conv => lhs; simp [strip, ordered]) ?_
  apply Run.by_eq
  · intro self
    conv => lhs; simp -implicitDefEqProofs (maxSteps := 300000) (disch := omega) [filter_bt, (show Nat.testBit 51 0 = true from rfl), (show Nat.testBit 51 1 = true from rfl), (show Nat.testBit 51 2 = false from rfl), (show Nat.testBit 51 3 = false from rfl), (show Nat.testBit 51 4 = true from rfl), (show Nat.testBit 51 5 = true from rfl), (show ∀ i, Nat.testBit 127 i = decide (i < 7) from fun i => Nat.testBit_two_pow_sub_one 7 i), -getElem?_pos, -getElem?_neg]
  try (with_reducible refine Run.ret ?_)
  apply zz
  by_cases h : b < a
  · rw [if_pos h]
    have p3' := mul_bd 30000 30000 hy2 hx2
    have r3' := mul_bd 900000000 30 p3' (b := a - b) (by omega)
    apply zz
    refine Cd.ra (h := ?_)
    apply Run.by_eq
    · intro self
      conv => lhs; simp -implicitDefEqProofs (maxSteps := 300000) (disch := omega) [-getElem?_pos, -getElem?_neg, h]
    try (with_reducible refine Run.ret ?_)
    apply zz
    apply Cd.ite rfl
    · conv => lhs; simp -implicitDefEqProofs (maxSteps := 300000) (disch := omega) [-getElem?_pos, -getElem?_neg]
    all_goals intro c0
    all_goals try (cases c0; done)
    all_goals try simp only [Bool.not_eq_true', Bool.not_eq_false', decide_eq_true_eq, decide_eq_false_iff_not] at c0
    all_goals apply zz
    apply zz
    refine Cd.ra (h := ?_)
    apply Run.by_eq
    · intro self
      conv => lhs; simp -implicitDefEqProofs (maxSteps := 300000) (disch := omega) [-getElem?_pos, -getElem?_neg]
    try (with_reducible refine Run.ret ?_)
    apply zz
    generalize hP1 : xo * yu = P1 at p1 q1 r2 ⊢
    generalize hP2 : yo * xu = P2 at p2 q2 r1 ⊢
    generalize hP3 : yu * xu = P3 at p3' r3' ⊢
    generalize hQ1 : P2 * (a - w) = Q1 at r1 ⊢
    generalize hQ2 : P1 * (w - b) = Q2 at r2 ⊢
    generalize hQ3 : P3 * (a - b) = Q3 at r3' ⊢
    clear q1 q2 q3 r3 p3 hx1 hx2 hy1 hy2
    apply zz
    refine Cd.ra (h := ?_)
    apply Run.by_eq
    · intro self
      conv => lhs; simp -implicitDefEqProofs (maxSteps := 300000) (disch := omega) [-getElem?_pos, -getElem?_neg, hP2, hQ1]
    try (with_reducible refine Run.ret ?_)
    apply zz
    refine Cd.ra (h := ?_)
    apply Run.by_eq
    · intro self
      conv => lhs; simp -implicitDefEqProofs (maxSteps := 300000) (disch := omega) [-getElem?_pos, -getElem?_neg, hP1, hQ2]
    try (with_reducible refine Run.ret ?_)
    apply zz
    refine Cd.ra (h := ?_)
    apply Run.by_eq
    · intro self
      conv => lhs; simp -implicitDefEqProofs (maxSteps := 300000) (disch := omega) [-getElem?_pos, -getElem?_neg, hP3, hQ3]
    try (with_reducible refine Run.ret ?_)
    apply zz
    apply Leave.mk (by first | exact .inl rfl | exact .inr rfl) (by simp only [Fr.marks_put, fr0_marks])
    · conv => lhs; simp -implicitDefEqProofs (disch := omega) [Try.results78]
    exact ⟨rfl, ⟨by (try simp only [pushed_next', upded_next']); omega, fun i hi => by simp -implicitDefEqProofs (disch := omega) []⟩⟩
  · rw [if_neg h]
    apply zz
    refine Cd.ra (h := ?_)
    apply Run.by_eq
    · intro self
      conv => lhs; simp -implicitDefEqProofs (maxSteps := 300000) (disch := omega) [-getElem?_pos, -getElem?_neg, h]
    try (with_reducible refine Run.ret ?_)
    apply zz
    apply Cd.ite rfl
    · conv => lhs; simp -implicitDefEqProofs (maxSteps := 300000) (disch := omega) [-getElem?_pos, -getElem?_neg]
    all_goals intro c0
    all_goals try (cases c0; done)
    all_goals try simp only [Bool.not_eq_true', Bool.not_eq_false', decide_eq_true_eq, decide_eq_false_iff_not] at c0
    all_goals apply zz
    generalize hP1 : xo * yu = P1 at p1 q1 r2 ⊢
    generalize hP2 : yo * xu = P2 at p2 q2 r1 ⊢
    generalize hP3 : xu * yu = P3 at p3 q3 r3 ⊢
    generalize hQ1 : P1 * (b - w) = Q1 at q1 ⊢
    generalize hQ2 : P2 * (w - a) = Q2 at q2 ⊢
    generalize hQ3 : P3 * (b - a) = Q3 at q3 ⊢
    clear r1 r2 r3 hx1 hx2 hy1 hy2
    apply zz
    refine Cd.ra (h := ?_)
    apply Run.by_eq
    · intro self
      conv => lhs; simp -implicitDefEqProofs (maxSteps := 300000) (disch := omega) [-getElem?_pos, -getElem?_neg, hP1, hQ1]
    try (with_reducible refine Run.ret ?_)
    apply zz
    refine Cd.ra (h := ?_)
    apply Run.by_eq
    · intro self
      conv => lhs; simp -implicitDefEqProofs (maxSteps := 300000) (disch := omega) [-getElem?_pos, -getElem?_neg, hP2, hQ2]
    try (with_reducible refine Run.ret ?_)
    apply zz
    refine Cd.ra (h := ?_)
    apply Run.by_eq
    · intro self
      conv => lhs; simp -implicitDefEqProofs (maxSteps := 300000) (disch := omega) [-getElem?_pos, -getElem?_neg, hP3, hQ3]
    try (with_reducible refine Run.ret ?_)
    apply zz
    apply Leave.mk (by first | exact .inl rfl | exact .inr rfl) (by simp only [Fr.marks_put, fr0_marks])
    · conv => lhs; simp -implicitDefEqProofs (disch := omega) [Try.results78]
    exact ⟨rfl, ⟨by (try simp only [pushed_next', upded_next']); omega, fun i hi => by simp -implicitDefEqProofs (disch := omega) []⟩⟩
end Go.Proofs.Ytnhokodcmeekhaa
namespace Go.Proofs.Ytnhokodcmeekhaa
open Go Kern
/-! Bounds of a field -/
def fracsL (L : Nat → Frac) : List Value := flatG (fun w => (L w).cs) 30
def bcells (n : Nat) (L H : Nat → Frac) : List Value := .int .i64 n :: (fracsL L ++ fracsL H)
def updF (L : Nat → Frac) (w : Nat) (x : Frac) (j : Nat) : Frac := if j = w then x else L j
theorem fracs_len (L : Nat → Frac) : (fracsL L).length = 60 := flatG_length (N := 2) (fun _ => rfl) 30
theorem takeL_app {α : Type} : ∀ {n : Nat} {l r x : List α}, takeL n l = some r → takeL n (l ++ x) = some r
  | 0, _, _, _, h => h
  | n + 1, [], _, _, h => by cases h
  | n + 1, y :: l, r, x, h => by
    obtain ⟨t, h1, h2⟩ := ob_eq (show ob (takeL n l) (fun t => some (y :: t)) = some r from h)
    cases h2
    show ob (takeL n (l ++ x)) (fun t => some (y :: t)) = _
    rw [takeL_app h1]; rfl
theorem fracs_get (L : Nat → Frac) {w : Nat} (h : w < 30) : takeL 2 ((fracsL L).drop (w * 2)) = some [.int .i64 (L w).o, .int .i64 (L w).u] := flatG_get (N := 2) (g := fun w => (L w).cs) (fun _ => rfl) h
theorem fracs_put (L : Nat → Frac) {w : Nat} (h : w < 30) (x : Frac) : putL (w * 2) [.int .i64 x.o, .int .i64 x.u] (fracsL L) = some (fracsL (updF L w x)) := by
  unfold fracsL
  rw [flatG_put (N := 2) (fun _ => rfl) rfl h]
  congr 1
  refine flatG_congr fun j hj => ?_
  unfold updF
  by_cases e : j = w
  · rw [if_pos e, if_pos e]; rfl
  · rw [if_neg e, if_neg e]
theorem ones_flat {g : Nat → List Value} (h : ∀ j, onesL (g j) = true) : ∀ k, onesL (flatG g k) = true
  | 0 => rfl
  | k + 1 => by
    rw [flatG_succ, ← onesL_eq, List.all_append, onesL_eq, onesL_eq, ones_flat h k, h k]; rfl
theorem same_ints : ∀ l : List Value, (∀ v ∈ l, ∃ x, v = .int .i64 x) → listEq (veq 4) l l = true
  | [], _ => rfl
  | v :: r, h => by
    obtain ⟨x, rfl⟩ := h v (.head _)
    rw [listEq_cons, veq_int, same_ints r fun w hw => h w (.tail _ hw)]; rfl
theorem fracs_ints (L : Nat → Frac) : ∀ v ∈ fracsL L, ∃ x, v = Value.int .i64 x := fun v hv => by
  unfold fracsL flatG at hv
  obtain ⟨z, hz, hy⟩ := List.mem_flatten.1 hv
  obtain ⟨j, _, rfl⟩ := List.mem_map.1 hz
  simp [Frac.cs] at hy
  rcases hy with rfl | rfl
  · exact ⟨_, rfl⟩
  · exact ⟨_, rfl⟩
theorem bOk (n : Nat) (L H : Nat → Frac) : BOk (bcells n L H) n L H := by
  refine ⟨by simp [bcells, fracs_len], ?_, ?_, rfl, fun w h => ?_, fun w h => ?_⟩
  · unfold bcells
    rw [← onesL_eq, List.all_cons, List.all_append, onesL_eq, onesL_eq]
    unfold fracsL
    rw [ones_flat (fun _ => rfl), ones_flat (fun _ => rfl)]; rfl
  · refine same_ints _ fun v hv => ?_
    unfold bcells at hv
    cases hv with
    | head => exact ⟨_, rfl⟩
    | tail _ hv =>
      rcases List.mem_append.1 hv with hv | hv
      · exact fracs_ints L v hv
      · exact fracs_ints H v hv
  · show takeL 2 (List.drop (1 + w * 2) (_ :: (fracsL L ++ fracsL H))) = _
    rw [Nat.add_comm, List.drop_succ_cons, List.drop_append_of_le_length (by rw [fracs_len]; omega)]
    exact takeL_app (fracs_get L h)
  · show takeL 2 (List.drop (61 + w * 2) (_ :: (fracsL L ++ fracsL H))) = _
    rw [show 61 + w * 2 = (60 + w * 2) + 1 by omega, List.drop_succ_cons, ← fracs_len L, List.drop_append]
    simp only [Nat.add_sub_cancel_left]
    rw [List.drop_eq_nil_of_le (by omega), List.nil_append]
    exact fracs_get H h
theorem put_lo (n : Nat) (L H : Nat → Frac) {w : Nat} (h : w < 30) (x : Frac) : putL (1 + w * 2) [.int .i64 x.o, .int .i64 x.u] (bcells n L H) = some (bcells n (updF L w x) H) := by
  rw [Nat.add_comm]
  show ob (putL (w * 2) _ (fracsL L ++ fracsL H)) (fun l => some (_ :: l)) = _
  rw [putL_app _ (fracs_put L h x)]; rfl
theorem put_hi (n : Nat) (L H : Nat → Frac) {w : Nat} (h : w < 30) (x : Frac) : putL (61 + w * 2) [.int .i64 x.o, .int .i64 x.u] (bcells n L H) = some (bcells n L (updF H w x)) := by
  rw [show 61 + w * 2 = (60 + w * 2) + 1 by omega]
  show ob (putL (60 + w * 2) _ (fracsL L ++ fracsL H)) (fun l => some (_ :: l)) = _
  rw [← fracs_len L, putL_behind (fracs_put H h x)]; rfl
@[simp] theorem newObj_114 {f : Fr} {pl0 : Array (Nat × Operand)} : Kern.newObj TT (.buildSlice 114 1 pl0) f = ob (fillL f.eval (placesA 2 pl0.toList) (repeatL [.int .i64 0, .int .i64 0] 1)) fun c => some (.cells c none) :=
  newObj_buildSlice 114 1 pl0 und_114 size_90 zero_90 rfl
def belowB (x y : Frac) : Bool := aboveB y x
/-- A whole number within what weeks can have. -/
def Whole (x : Frac) : Prop := x.u = 1 ∧ -60000 ≤ x.o ∧ x.o ≤ 60000
theorem Whole.fits {x y : Frac} (hx : Whole x) (hy : Whole y) : Fits x y := by
  obtain ⟨h1, h2, h3⟩ := hx
  obtain ⟨h4, h5, h6⟩ := hy
  unfold Fits
  rw [h1, h4]
  omega
theorem fr_one {s : St} {b : Nat} {x : Frac} {g : Option Nat} (hb : b < s.next) (h : s.heap.get b = some (.cells [.int .i64 x.o, .int .i64 x.u] g)) : FrAt s (.slice (some ⟨b, 0, none⟩) 1 1) [x] :=
  sl_of_cells (n := 2) (l := [[.int .i64 x.o, .int .i64 x.u]]) hb (fun y hy => by simp at hy; subst hy; rfl) h
set_option maxRecDepth 100000 in
set_option maxHeartbeats 4000000 in
theorem narrow_ev (w n p : Nat) (lo hi : Int) (L H : Nat → Frac) (s : St) (hw : w < 30) (hlo : Whole ⟨lo, 1⟩) (hhi : Whole ⟨hi, 1⟩) (hL : Whole (L w)) (hH : Whole (H w)) (hp : p < s.next) (hg : s.heap.get p = some (.cells (bcells n L H) none)) :
    Ev TT 75 [.int .i64 w, .int .i64 lo, .int .i64 hi, .pointer (some ⟨p, 0, none⟩)] s fun _ s' => s.next ≤ s'.next ∧ (∀ j, j < s.next → j ≠ p → s'.heap.get j = s.heap.get j) ∧ s'.heap.get p = some (.cells (bcells n (updF L w (foreF aboveB (L w) [⟨lo, 1⟩])) (updF H w (foreF belowB (H w) [⟨hi, 1⟩]))) none) := by
  have h1 := (bOk n L H).lo w hw
  have h4 : ((w : Int) < 30) := by omega
  have hF1 : ∀ x ∈ [(⟨lo, 1⟩ : Frac)], ∀ y, y = L w ∨ y ∈ [(⟨lo, 1⟩ : Frac)] → Fits x y := fun x hx y hy => by
    simp at hx hy; subst hx
    rcases hy with rfl | rfl
    · exact hlo.fits hL
    · exact hlo.fits hlo
  have hF2 : ∀ x ∈ [(⟨hi, 1⟩ : Frac)], ∀ y, y = H w ∨ y ∈ [(⟨hi, 1⟩ : Frac)] → Fits x y := fun x hx y hy => by
    simp at hx hy; subst hx
    rcases hy with rfl | rfl
    · exact hhi.fits hH
    · exact hhi.fits hhi
  refine Ev.intro (fn := Try.f75) rfl (by kernel_rfl) rfl rfl ?_
  apply zz
  refine Cd.drawn (pl := [(0, 0, false, false), (1, 0, false, false), (2, 0, false, false), (3, 6, false, false), (4, 14, false, false), (5, 0, false, false), (9, 0, false, false), (6, 32, true, false), (7, 96, false, true), (8, 254, true, false), (10, 1023, false, false), (11, 2047, true, false)]) (by kernel_rfl) (by conv => lhs; simp only [List.map_cons, List.map_nil]) (by conv => lhs; simp [strip, ordered]) ?_
  apply Run.by_eq
  · intro self
    conv => lhs; simp -implicitDefEqProofs (maxSteps := 300000) (disch := omega) [filter_bt, (show Nat.testBit 32 0 = false from rfl), (show Nat.testBit 32 1 = false from rfl), (show Nat.testBit 32 2 = false from rfl), (show Nat.testBit 32 3 = false from rfl), (show Nat.testBit 32 4 = false from rfl), (show Nat.testBit 32 5 = true from rfl), (show Nat.testBit 32 9 = false from rfl), (show Nat.testBit 254 0 = false from rfl), (show Nat.testBit 254 1 = true from rfl), (show Nat.testBit 254 2 = true from rfl), (show Nat.testBit 254 3 = true from rfl), (show Nat.testBit 254 4 = true from rfl), (show Nat.testBit 254 5 = true from rfl), (show Nat.testBit 254 9 = false from rfl), (show Nat.testBit 254 7 = true from rfl), (show ∀ i, Nat.testBit 2047 i = decide (i < 11) from fun i => Nat.testBit_two_pow_sub_one 11 i), -getElem?_pos, -getElem?_neg, hg, h1, hw, h4]
  try (with_reducible refine Run.ret ?_)
  apply zz
  refine Run.call ((whole_ev lo _).mono fun v wy hv => ?_)
  obtain ⟨rfl, y⟩ := hv
  have ya := y.1
  have yb := y.2
  try simp only [pushed_next', upded_next'] at ya yb
  have hpy : ¬ p = wy.next := by omega
  have hgy := (yb p hp).trans hg
  have h2 := put_lo n L H hw (foreF aboveB (L w) [⟨lo, 1⟩])
  apply Run.by_eq
  · intro self
    conv => lhs; simp -implicitDefEqProofs (maxSteps := 300000) (disch := omega) [-getElem?_pos, -getElem?_neg, v_eq, hpy, hgy, h1]
  try (with_reducible refine Run.ret ?_)
  apply zz
  refine Run.call ((greatest_ev (L w) _ [⟨lo, 1⟩] _ (fr_one (g := none) (b := wy.next) (by simp) (by simp -implicitDefEqProofs (disch := omega))) (by simp) hF1).mono fun v wz hv => ?_)
  obtain ⟨rfl, z⟩ := hv
  have za := z.1
  have zb := z.2
  try simp only [pushed_next', upded_next'] at za zb
  have hgz : wz.heap.get p = some (.cells (bcells n L H) none) := by rw [zb p (by omega)]; simp -implicitDefEqProofs (disch := omega) [hgy]
  have hnz : wz.heap.get wy.next = some (.cells [.int .i64 lo, .int .i64 1] none) := by rw [zb wy.next (by omega)]; simp -implicitDefEqProofs (disch := omega)
  generalize foreF aboveB (L w) [⟨lo, 1⟩] = X at h2 ⊢
  apply Run.by_eq
  · intro self
    conv => lhs; simp -implicitDefEqProofs (maxSteps := 300000) (disch := omega) [-getElem?_pos, -getElem?_neg, v_eq, hgz, hnz, h1, h2, hw, h4]
  try (with_reducible refine Run.ret ?_)
  apply zz
  generalize updF L w X = L2 at h2 ⊢
  have h5 := (bOk n L2 H).hi w hw
  have h6 := put_hi n L2 H hw (foreF belowB (H w) [⟨hi, 1⟩])
  apply zz
  refine Cd.drawn (pl := [(0, 0, false, false), (1, 0, false, false), (2, 0, false, false), (3, 6, false, false), (4, 14, false, false), (5, 0, false, false), (9, 0, false, false), (6, 32, true, false), (7, 96, false, true), (8, 254, true, false), (10, 1023, false, false), (11, 2047, true, false)]) (by kernel_rfl) (by conv => lhs; simp only [List.map_cons, List.map_nil]) (by conv => lhs; simp [strip, ordered]) ?_
  apply Run.by_eq
  · intro self
    conv => lhs; simp -implicitDefEqProofs (maxSteps := 300000) (disch := omega) [filter_bt, (show Nat.testBit 32 0 = false from rfl), (show Nat.testBit 32 1 = false from rfl), (show Nat.testBit 32 2 = false from rfl), (show Nat.testBit 32 3 = false from rfl), (show Nat.testBit 32 4 = false from rfl), (show Nat.testBit 32 5 = true from rfl), (show Nat.testBit 32 9 = false from rfl), (show Nat.testBit 254 0 = false from rfl), (show Nat.testBit 254 1 = true from rfl), (show Nat.testBit 254 2 = true from rfl), (show Nat.testBit 254 3 = true from rfl), (show Nat.testBit 254 4 = true from rfl), (show Nat.testBit 254 5 = true from rfl), (show Nat.testBit 254 9 = false from rfl), (show Nat.testBit 254 7 = true from rfl), (show ∀ i, Nat.testBit 2047 i = decide (i < 11) from fun i => Nat.testBit_two_pow_sub_one 11 i), -getElem?_pos, -getElem?_neg, h5, hw, h4]
  try (with_reducible refine Run.ret ?_)
  apply zz
  refine Run.call ((whole_ev hi _).mono fun v wu hv => ?_)
  obtain ⟨rfl, u⟩ := hv
  have ua := u.1
  have ub := u.2
  try simp only [pushed_next', upded_next'] at ua ub
  have hpu : ¬ p = wu.next := by omega
  have hgu : wu.heap.get p = some (.cells (bcells n L2 H) none) := by rw [ub p (by omega)]; simp -implicitDefEqProofs (disch := omega)
  apply Run.by_eq
  · intro self
    conv => lhs; simp -implicitDefEqProofs (maxSteps := 300000) (disch := omega) [-getElem?_pos, -getElem?_neg, v_eq, hpu, hgu, h5]
  try (with_reducible refine Run.ret ?_)
  apply zz
  refine Run.call ((smallest_ev (H w) _ [⟨hi, 1⟩] _ (fr_one (g := none) (b := wu.next) (by simp) (by simp -implicitDefEqProofs (disch := omega))) (by simp) hF2).mono fun v wt hv => ?_)
  obtain ⟨rfl, t⟩ := hv
  have ta := t.1
  have tb := t.2
  try simp only [pushed_next', upded_next'] at ta tb
  have hgt : wt.heap.get p = some (.cells (bcells n L2 H) none) := by rw [tb p (by omega)]; simp -implicitDefEqProofs (disch := omega) [hgu]
  have hnt : wt.heap.get wu.next = some (.cells [.int .i64 hi, .int .i64 1] none) := by rw [tb wu.next (by omega)]; simp -implicitDefEqProofs (disch := omega)
  rw [show (fun x y => aboveB y x) = belowB from rfl]
  generalize foreF belowB (H w) [⟨hi, 1⟩] = Y at h6 ⊢
  apply Run.by_eq
  · intro self
    conv => lhs; simp -implicitDefEqProofs (maxSteps := 300000) (disch := omega) [-getElem?_pos, -getElem?_neg, v_eq, hgt, hnt, h5, h6, hw, h4]
  try (with_reducible refine Run.ret ?_)
  apply zz
  apply Leave.mk (by first | exact .inl rfl | exact .inr rfl) (by simp only [Fr.marks_put, fr0_marks])
  · conv => lhs; simp -implicitDefEqProofs (disch := omega) [Try.results75]
  refine ⟨by (try simp only [pushed_next', upded_next']); omega, fun j hj hjp => ?_, ?_⟩
  · simp -implicitDefEqProofs (disch := omega) [tb, ub, zb, yb]
  · simp -implicitDefEqProofs (disch := omega)
end Go.Proofs.Ytnhokodcmeekhaa
namespace Go.Proofs.Ytnhokodcmeekhaa
open Go Kern
def iniF (x : Int) (k j : Nat) : Frac := if j < k then ⟨x, 1⟩ else ⟨0, 0⟩
theorem iniF_next (x : Int) (k : Nat) : updF (iniF x k) k ⟨x, 1⟩ = iniF x (k + 1) := by
  funext j
  unfold updF iniF
  by_cases e : j = k
  · subst e; rw [if_pos rfl, if_pos (by omega)]
  · rw [if_neg e]
    by_cases h : j < k
    · rw [if_pos h, if_pos (by omega)]
    · rw [if_neg h, if_neg (by omega)]
/-- What one sample does to the lows and highs. -/
def bndS (p : (Nat → Frac) × (Nat → Frac)) (x : SampD) : (Nat → Frac) × (Nat → Frac) :=
  (updF p.1 x.week.toNat (foreF aboveB (p.1 x.week.toNat) [⟨x.val - x.off, 1⟩]), updF p.2 x.week.toNat (foreF belowB (p.2 x.week.toNat) [⟨x.val + x.off, 1⟩]))
def bndN (n : Nat) (lo hi : Int) (ss : List SampD) : (Nat → Frac) × (Nat → Frac) := ss.foldl bndS (iniF lo n, iniF hi n)
theorem foreF_whole {bf : Frac → Frac → Bool} {a : Frac} {fs : List Frac} (ha : Whole a) (h : ∀ x ∈ fs, Whole x) : Whole (foreF bf a fs) := by
  rcases foreF_mem (bf := bf) a fs with e | e
  · rw [e]; exact ha
  · exact h _ e
theorem bnd_whole {n : Nat} : ∀ (ss : List SampD) (p : (Nat → Frac) × (Nat → Frac)), (∀ w, w < n → Whole (p.1 w) ∧ Whole (p.2 w)) → (∀ x ∈ ss, Whole ⟨x.val - x.off, 1⟩ ∧ Whole ⟨x.val + x.off, 1⟩) → ∀ w, w < n → Whole ((ss.foldl bndS p).1 w) ∧ Whole ((ss.foldl bndS p).2 w)
  | [], _, h, _ => h
  | x :: r, p, h, hx => by
    refine bnd_whole r (bndS p x) (fun w hw => ?_) fun y hy => hx y (.tail _ hy)
    obtain ⟨h1, h2⟩ := hx x (.head _)
    unfold bndS updF
    constructor
    · show Whole (if w = x.week.toNat then _ else _)
      split
      · rename_i e; exact foreF_whole (e ▸ (h w hw).1) fun y hy => by simp at hy; subst hy; exact h1
      · exact (h w hw).1
    · show Whole (if w = x.week.toNat then _ else _)
      split
      · rename_i e; exact foreF_whole (e ▸ (h w hw).2) fun y hy => by simp at hy; subst hy; exact h2
      · exact (h w hw).2
theorem firstS_all {n : Int} : ∀ {ss : List SampD}, firstS n ss = 0 → ∀ x ∈ ss, sampErr n x = 0
  | [], _, x, h => by cases h
  | g :: r, h, x, hx => by
    unfold firstS at h
    split at h
    · rename_i h0
      cases hx with
      | head => exact h0
      | tail _ hx => exact firstS_all h x hx
    · rename_i h0; exact absurd h h0
theorem sampErr_ok {n : Int} {x : SampD} (h : sampErr n x = 0) : (0 ≤ x.week ∧ x.week < n) ∧ (0 ≤ x.val ∧ x.val ≤ 30000) ∧ (0 ≤ x.off ∧ x.off ≤ 30000) := by
  unfold sampErr at h
  split at h
  · cases h
  · split at h
    · cases h
    · rename_i h1 h2
      simp only [weekB, sweetB, Bool.and_eq_false_iff, decide_eq_false_iff_not] at h1 h2
      omega
theorem fieldErr_ok {n lo hi : Int} {ss : List SampD} (h : fieldErr n lo hi ss = 0) : (1 ≤ n ∧ n ≤ 30) ∧ (0 ≤ lo ∧ lo ≤ hi ∧ hi ≤ 30000) ∧ ss.length ≤ 100 ∧ ∀ x ∈ ss, sampErr n x = 0 := by
  rw [fieldErr_ref] at h
  split at h
  · cases h
  · rename_i h1
    split at h
    · cases h
    · simp only [isB, Bool.and_eq_false_iff, decide_eq_false_iff_not] at h1
      exact ⟨by omega, by omega, by omega, firstS_all h⟩
theorem samp_whole {n : Int} {x : SampD} (h : sampErr n x = 0) : Whole ⟨x.val - x.off, 1⟩ ∧ Whole ⟨x.val + x.off, 1⟩ := by
  obtain ⟨_, h1, h2⟩ := sampErr_ok h
  unfold Whole
  simp only [true_and]
  omega
theorem bnd_all {n : Nat} {lo hi : Int} {ss : List SampD} (h : fieldErr n lo hi ss = 0) (k w : Nat) (hw : w < n) : Whole ((bndN n lo hi (ss.take k)).1 w) ∧ Whole ((bndN n lo hi (ss.take k)).2 w) := by
  obtain ⟨_, h1, _, h2⟩ := fieldErr_ok h
  refine bnd_whole _ _ (fun w hw => ?_) (fun x hx => samp_whole (h2 x (List.mem_of_mem_take hx))) w hw
  simp only [iniF, if_pos hw]
  unfold Whole
  simp only [true_and]
  omega
set_option maxRecDepth 100000 in
set_option maxHeartbeats 4000000 in
theorem boundsOf_ev (n : Nat) (lo hi : Int) (v : Value) (ss : List SampD) (s : St) (hs : SmAt s v ss) (hck : fieldErr n lo hi ss = 0) : Ev TT 54 [fieldV n lo hi v] s fun r s' => r = .agg (bcells n (bndN n lo hi ss).1 (bndN n lo hi ss).2).toArray ∧ Keep s s' := by
  obtain ⟨⟨hn1, hn30⟩, hr, hl, hss⟩ := fieldErr_ok hck
  obtain ⟨a, c, rfl⟩ := hs.shape
  rw [List.length_map] at hs ⊢
  unfold fieldV
  refine Ev.intro (fn := Try.f54) rfl (by kernel_rfl) rfl rfl ?_
  apply zz
  refine Cd.ra (h := ?_)
  apply Run.by_eq
  · intro self
    conv => lhs; simp -implicitDefEqProofs (maxSteps := 300000) (disch := omega) [-getElem?_pos, -getElem?_neg]
  try (with_reducible refine Run.ret ?_)
  apply zz
  have hz0 : bcells n (iniF lo 0) (iniF hi 0) = .int .i64 n :: List.replicate 120 (.int .i64 0) := rfl
  apply zz
  refine Cd.ra (h := ?_)
  apply Run.by_eq
  · intro self
    conv => lhs; simp -implicitDefEqProofs (maxSteps := 300000) (disch := omega) [-getElem?_pos, -getElem?_neg]
  try (with_reducible refine Run.ret ?_)
  apply zz
  refine Cd.ra (h := ?_)
  apply Run.by_eq
  · intro self
    conv => lhs; simp -implicitDefEqProofs (maxSteps := 300000) (disch := omega) [-getElem?_pos, -getElem?_neg]
  try (with_reducible refine Run.ret ?_)
  apply zz
  refine Cd.inv (fun z f s' => ∃ w : Nat, w ≤ n ∧ z = n - w ∧ f.marks = [] ∧ f.get 1 = .pointer (some ⟨s.next, 0, none⟩) ∧ f.get 2 = .pointer (some ⟨s.next + 1, 0, none⟩) ∧ f.get 3 = .pointer (some ⟨s.next + 1 + 1, 0, none⟩) ∧ f.get 12 = .int .i64 n ∧ f.get 13 = .int .i64 w ∧ Keep s s' ∧ s.next + 1 + 1 < s'.next ∧ s'.heap.get s.next = some (.cells [.int .i64 n, .int .i64 lo, .int .i64 hi, .slice a ss.length c] none) ∧ s'.heap.get (s.next + 1) = some (.cells (.int .i64 0 :: List.replicate 120 (.int .i64 0)) none) ∧ s'.heap.get (s.next + 1 + 1) = some (.cells (bcells n (iniF lo w) (iniF hi w)) none)) n ?_ ?_
  · refine ⟨0, by omega, rfl, by simp, by simp, by simp, by simp, by simp, by simp, ⟨by (try simp only [pushed_next', upded_next']); omega, fun i hi => by simp -implicitDefEqProofs (disch := omega) []⟩, by simp, by simp -implicitDefEqProofs (disch := omega), ?_, ?_⟩
    · simp -implicitDefEqProofs (disch := omega)
    · rw [hz0]; simp -implicitDefEqProofs (disch := omega)
  rintro z f s' ⟨w, hw, rfl, hm, g1, g2, g3, g12, g13, hkp, hnx, hg0, hg1, hg2⟩
  have hkpa := hkp.1
  have hkpb := hkp.2
  by_cases hlt : w < n
  · have hw30 : w < 30 := by omega
    have hw30' : (w : Int) < 30 := by omega
    have hp1 := put_lo n (iniF lo w) (iniF hi w) hw30 ⟨lo, 1⟩
    rw [iniF_next] at hp1
    have hp2 := put_hi n (iniF lo (w + 1)) (iniF hi w) hw30 ⟨hi, 1⟩
    rw [iniF_next] at hp2
    apply zz
    refine Cd.ra (h := ?_)
    apply Run.by_eq
    · intro self
      conv => lhs; simp -implicitDefEqProofs (maxSteps := 300000) (disch := omega) [-getElem?_pos, -getElem?_neg, g13, g12]
    try (with_reducible refine Run.ret ?_)
    apply zz
    apply Cd.ite rfl
    · conv => lhs; simp -implicitDefEqProofs (maxSteps := 300000) (disch := omega) [-getElem?_pos, -getElem?_neg]
    all_goals intro c0
    all_goals try (cases c0; done)
    all_goals try simp only [Bool.not_eq_true', Bool.not_eq_false', decide_eq_true_eq, decide_eq_false_iff_not] at c0
    all_goals apply zz
    · apply zz
      refine Cd.ra (h := ?_)
      apply Run.by_eq
      · intro self
        conv => lhs; simp -implicitDefEqProofs (maxSteps := 300000) (disch := omega) [-getElem?_pos, -getElem?_neg, g13]
      try (with_reducible refine Run.ret ?_)
      apply zz
      refine Cd.drawn (pl := [(0, 0, false, false), (1, 0, false, false), (2, 0, false, false), (3, 4, false, false), (4, 12, false, false), (6, 0, false, false), (7, 64, false, false), (8, 192, false, false), (10, 0, false, false), (13, 0, false, false), (5, 28, true, false), (11, 1085, false, false), (9, 508, true, false), (12, 4093, true, false), (14, 16383, false, false), (15, 32767, true, false)]) (by kernel_rfl) (by conv => lhs; simp only [List.map_cons, List.map_nil]) (by conv => lhs; simp [strip, ordered]) ?_
      apply Run.by_eq
      · intro self
        conv => lhs; simp -implicitDefEqProofs (maxSteps := 300000) (disch := omega) [filter_bt, (show Nat.testBit 28 0 = false from rfl), (show Nat.testBit 28 1 = false from rfl), (show Nat.testBit 28 2 = true from rfl), (show Nat.testBit 28 3 = true from rfl), (show Nat.testBit 28 4 = true from rfl), (show Nat.testBit 28 6 = false from rfl), (show Nat.testBit 28 7 = false from rfl), (show Nat.testBit 28 8 = false from rfl), (show Nat.testBit 28 10 = false from rfl), (show Nat.testBit 28 13 = false from rfl), (show Nat.testBit 508 0 = false from rfl), (show Nat.testBit 508 1 = false from rfl), (show Nat.testBit 508 2 = true from rfl), (show Nat.testBit 508 3 = true from rfl), (show Nat.testBit 508 4 = true from rfl), (show Nat.testBit 508 6 = true from rfl), (show Nat.testBit 508 7 = true from rfl), (show Nat.testBit 508 8 = true from rfl), (show Nat.testBit 508 10 = false from rfl), (show Nat.testBit 508 13 = false from rfl), (show Nat.testBit 508 11 = false from rfl), (show Nat.testBit 4093 0 = true from rfl), (show Nat.testBit 4093 1 = false from rfl), (show Nat.testBit 4093 2 = true from rfl), (show Nat.testBit 4093 3 = true from rfl), (show Nat.testBit 4093 4 = true from rfl), (show Nat.testBit 4093 6 = true from rfl), (show Nat.testBit 4093 7 = true from rfl), (show Nat.testBit 4093 8 = true from rfl), (show Nat.testBit 4093 10 = true from rfl), (show Nat.testBit 4093 13 = false from rfl), (show Nat.testBit 4093 11 = true from rfl), (show ∀ i, Nat.testBit 32767 i = decide (i < 15) from fun i => Nat.testBit_two_pow_sub_one 15 i), -getElem?_pos, -getElem?_neg, g1, g3, hg0, hg2, hw30, hw30']
      try (with_reducible refine Run.ret ?_)
      apply zz
      refine Run.call ((whole_ev lo _).mono fun v wy hv => ?_)
      obtain ⟨rfl, y⟩ := hv
      have ya := y.1
      have yb := y.2
      try simp only [pushed_next', upded_next'] at ya yb
      have y0 := (yb _ (by omega)).trans hg0
      have y2 := (yb _ (by omega)).trans hg2
      apply Run.by_eq
      · intro self
        conv => lhs; simp -implicitDefEqProofs (maxSteps := 300000) (disch := omega) [-getElem?_pos, -getElem?_neg, v_eq, y0, y2, hw30, hw30']
      try (with_reducible refine Run.ret ?_)
      apply zz
      refine Run.call ((whole_ev hi _).mono fun v wu hv => ?_)
      obtain ⟨rfl, u⟩ := hv
      have ua := u.1
      have ub := u.2
      try simp only [pushed_next', upded_next'] at ua ub
      have u0 := (ub _ (by omega)).trans y0
      have u2 := (ub _ (by omega)).trans y2
      have u1 := (ub _ (by omega)).trans ((yb _ (by omega)).trans hg1)
      simp only [] at hp1 hp2
      apply Run.by_eq
      · intro self
        conv => lhs; simp -implicitDefEqProofs (maxSteps := 300000) (disch := omega) [-getElem?_pos, -getElem?_neg, v_eq, u0, u2, hw30, hw30', hp1, hp2]
      try (with_reducible refine Run.ret ?_)
      apply zz
      refine Cd.ra (h := ?_)
      apply Run.by_eq
      · intro self
        conv => lhs; simp -implicitDefEqProofs (maxSteps := 300000) (disch := omega) [-getElem?_pos, -getElem?_neg, g13]
      try (with_reducible refine Run.ret ?_)
      apply zz
      refine LoopK.nm (n - (w + 1)) (by omega) ⟨w + 1, by omega, rfl, by simp [hm], by simp [g1], by simp [g2], by simp [g3], by simp [g12], by simp, ⟨by (try simp only [pushed_next', upded_next']); omega, fun i hi => by simp -implicitDefEqProofs (disch := omega) [ub, yb, hkpb]⟩, by (try simp only [pushed_next', upded_next']); omega, ?_, ?_, ?_⟩
      · simp -implicitDefEqProofs (disch := omega) [u0]
      · simp -implicitDefEqProofs (disch := omega) [u1]
      · simp -implicitDefEqProofs (disch := omega)
    · omega
  obtain rfl : w = n := by omega
  apply zz
  refine Cd.ra (h := ?_)
  apply Run.by_eq
  · intro self
    conv => lhs; simp -implicitDefEqProofs (maxSteps := 300000) (disch := omega) [-getElem?_pos, -getElem?_neg, g13, g12]
  try (with_reducible refine Run.ret ?_)
  apply zz
  apply Cd.ite rfl
  · conv => lhs; simp -implicitDefEqProofs (maxSteps := 300000) (disch := omega) [-getElem?_pos, -getElem?_neg]
  all_goals intro c0
  all_goals try (cases c0; done)
  all_goals try simp only [Bool.not_eq_true', Bool.not_eq_false', decide_eq_true_eq, decide_eq_false_iff_not] at c0
  all_goals apply zz
  apply zz
  refine Cd.ra (h := ?_)
  apply Run.by_eq
  · intro self
    conv => lhs; simp -implicitDefEqProofs (maxSteps := 300000) (disch := omega) [-getElem?_pos, -getElem?_neg]
  try (with_reducible refine Run.ret ?_)
  apply zz
  refine Cd.ra (h := ?_)
  apply Run.by_eq
  · intro self
    conv => lhs; simp -implicitDefEqProofs (maxSteps := 300000) (disch := omega) [-getElem?_pos, -getElem?_neg, g1, hg0]
  try (with_reducible refine Run.ret ?_)
  apply zz
  have hfold : ∀ k : Nat, ∀ x : SampD, ss[k]? = some x → bndN w lo hi (ss.take (k + 1)) = bndS (bndN w lo hi (ss.take k)) x := fun k x hx => fold_take _ _ _ hx
  have hb0 : bndN w lo hi (ss.take 0) = (iniF lo w, iniF hi w) := by rw [List.take_zero]; rfl
  refine Cd.inv (fun z f s' => ∃ k : Nat, k ≤ ss.length ∧ z = ss.length - k ∧ f.marks = [] ∧ f.get 2 = .pointer (some ⟨s.next + 1, 0, none⟩) ∧ f.get 3 = .pointer (some ⟨s.next + 1 + 1, 0, none⟩) ∧ f.get 5 = .func (.func 75) #[] #[.pointer (some ⟨s.next + 1 + 1, 0, none⟩)] ∧ f.get 33 = .slice a ss.length c ∧ f.get 34 = .int .i64 ss.length ∧ f.get 35 = .int .i64 k ∧ Keep s s' ∧ s.next + 1 + 1 < s'.next ∧ s'.heap.get (s.next + 1) = some (.cells (.int .i64 0 :: List.replicate 120 (.int .i64 0)) none) ∧ s'.heap.get (s.next + 1 + 1) = some (.cells (bcells w (bndN w lo hi (ss.take k)).1 (bndN w lo hi (ss.take k)).2) none)) ss.length ?_ ?_
  · exact ⟨0, by omega, rfl, by simp [hm], by simp [g2], by simp [g3], by simp [g3], by simp, by simp, by simp, hkp, hnx, hg1, by rw [hb0]; exact hg2⟩
  clear hkp hnx hg0 hg1 hg2 hm g1 g2 g3 g12 g13 hkpa hkpb
  rintro z f2 s2 ⟨k, hk, rfl, hm, g2, g3, g5, g33, g34, g35, hkp, hnx, hg1, hg2⟩
  have hkpa := hkp.1
  have hkpb := hkp.2
  by_cases hlt2 : k < ss.length
  · obtain ⟨x, hx⟩ : ∃ x, ss[k]? = some x := ⟨ss[k], by simp [hlt2]⟩
    obtain ⟨b, off, o, cs, gg, rfl, hb, ho, hc, ht⟩ := SmAt.at (hs.keep hkp) hx
    have hxe := hss x (List.mem_of_getElem? hx)
    obtain ⟨hx1, hx2, hx3⟩ := sampErr_ok hxe
    obtain ⟨hw1, hw2⟩ := samp_whole hxe
    have hst := hfold k x hx
    have hWB := bnd_all hck k x.week.toNat (by omega)
    generalize bndN w lo hi (ss.take k) = P at hst hWB hg2
    obtain ⟨xw, xv, xo⟩ := x
    simp only [] at ht hx1 hx2 hx3 hw1 hw2 hWB hst
    obtain ⟨xw, rfl⟩ : ∃ y : Nat, xw = y := ⟨xw.toNat, by omega⟩
    rw [Int.toNat_natCast] at hWB
    unfold bndS at hst
    simp only [Int.toNat_natCast] at hst
    apply zz
    refine Cd.ra (h := ?_)
    apply Run.by_eq
    · intro self
      conv => lhs; simp -implicitDefEqProofs (maxSteps := 300000) (disch := omega) [-getElem?_pos, -getElem?_neg, g35, g34]
    try (with_reducible refine Run.ret ?_)
    apply zz
    apply Cd.ite rfl
    · conv => lhs; simp -implicitDefEqProofs (maxSteps := 300000) (disch := omega) [-getElem?_pos, -getElem?_neg]
    all_goals intro c1
    all_goals try (cases c1; done)
    all_goals try simp only [Bool.not_eq_true', Bool.not_eq_false', decide_eq_true_eq, decide_eq_false_iff_not] at c1
    all_goals apply zz
    · apply zz
      refine Cd.ra (h := ?_)
      apply Run.by_eq
      · intro self
        conv => lhs; simp -implicitDefEqProofs (maxSteps := 300000) (disch := omega) [-getElem?_pos, -getElem?_neg, g35, g33, hlt2, ho, hc, ht]
      try (with_reducible refine Run.ret ?_)
      apply zz
      refine Cd.ra (h := ?_)
      apply Run.by_eq
      · intro self
        conv => lhs; simp -implicitDefEqProofs (maxSteps := 300000) (disch := omega) [-getElem?_pos, -getElem?_neg, g5]
      try (with_reducible refine Run.ret ?_)
      apply zz
      refine Run.call ((narrow_ev xw w (s.next + 1 + 1) (xv - xo) (xv + xo) P.1 P.2 _ (by omega) hw1 hw2 hWB.1 hWB.2 (by (try simp only [pushed_next', upded_next']); omega) (by simp -implicitDefEqProofs (disch := omega) [hg2])).mono fun rv t hv => ?_)
      obtain ⟨e1, e2, e3⟩ := hv
      try simp only [pushed_next', upded_next'] at e1 e2
      apply Run.by_eq
      · intro self
        conv => lhs; simp -implicitDefEqProofs (maxSteps := 300000) (disch := omega) [-getElem?_pos, -getElem?_neg]
      try (with_reducible refine Run.ret ?_)
      apply zz
      refine Cd.ra (h := ?_)
      apply Run.by_eq
      · intro self
        conv => lhs; simp -implicitDefEqProofs (maxSteps := 300000) (disch := omega) [-getElem?_pos, -getElem?_neg, g35]
      try (with_reducible refine Run.ret ?_)
      apply zz
      refine LoopK.nm (ss.length - (k + 1)) (by omega) ⟨k + 1, by omega, rfl, by simp [hm], by simp [g2], by simp [g3], by simp [g5], by simp [g33], by simp [g34], by simp, ⟨by omega, fun i hi => ?_⟩, by omega, ?_, ?_⟩
      · rw [e2 i (by omega) (by omega)]; simp -implicitDefEqProofs (disch := omega) [hkpb]
      · rw [e2 _ (by omega) (by omega)]; simp -implicitDefEqProofs (disch := omega) [hg1]
      · rw [hst]; exact e3
    · omega
  obtain rfl : k = ss.length := by omega
  rw [List.take_length] at hg2
  have hB := bOk w (bndN w lo hi ss).1 (bndN w lo hi ss).2
  have h1 := takeL_len hB.len
  have h2 := hB.len
  have h3 := hB.ones
  generalize bcells w (bndN w lo hi ss).1 (bndN w lo hi ss).2 = BC at *
  have hZ : (Value.int .i64 0 :: List.replicate 120 (Value.int .i64 0)).length = 121 := by simp
  generalize Value.int .i64 0 :: List.replicate 120 (Value.int .i64 0) = Z at hZ hg1
  have hov : overL BC Z = some BC := by
    have := overL_same BC Z [] (by rw [h2, hZ])
    simpa using this
  apply zz
  refine Cd.ra (h := ?_)
  apply Run.by_eq
  · intro self
    conv => lhs; simp -implicitDefEqProofs (maxSteps := 300000) (disch := omega) [-getElem?_pos, -getElem?_neg, g35, g34]
  try (with_reducible refine Run.ret ?_)
  apply zz
  apply Cd.ite rfl
  · conv => lhs; simp -implicitDefEqProofs (maxSteps := 300000) (disch := omega) [-getElem?_pos, -getElem?_neg]
  all_goals intro c1
  all_goals try (cases c1; done)
  all_goals try simp only [Bool.not_eq_true', Bool.not_eq_false', decide_eq_true_eq, decide_eq_false_iff_not] at c1
  all_goals apply zz
  apply zz
  refine Cd.ra (h := ?_)
  apply Run.by_eq
  · intro self
    conv => lhs; simp -implicitDefEqProofs (maxSteps := 300000) (disch := omega) [-getElem?_pos, -getElem?_neg, g3, hg2, g2, hg1, h1, h2, h3, hov]
  try (with_reducible refine Run.ret ?_)
  apply zz
  apply Leave.mk (by first | exact .inl rfl | exact .inr rfl) (by simp only [Fr.marks_put, fr0_marks, hm, g2, h1, h2])
  · conv => lhs; simp -implicitDefEqProofs (disch := omega) [Try.results54, hm, g2, h1, h2]
  exact ⟨rfl, ⟨by (try simp only [pushed_next', upded_next']); omega, fun i hi => by simp -implicitDefEqProofs (disch := omega) [hkpb]⟩⟩
end Go.Proofs.Ytnhokodcmeekhaa
namespace Go.Proofs.Ytnhokodcmeekhaa
open Go Kern
/-! A clash in three weeks -/
def clashB (L H : Nat → Frac) (i j k : Nat) : Bool := if i = j ∧ j = k then aboveB (L j) (H j) else decide (i < j) && (decide (j < k) && aboveB (lineF i (L i) k (L k) j) (H j))
theorem Whole.small {x : Frac} (h : Whole x) : Small x := by
  obtain ⟨h1, h2, h3⟩ := h
  unfold Small
  rw [h1]; omega
theorem line_fits {a w b : Nat} {x y h : Frac} (h1 : a < w) (h2 : w < b) (h3 : b < 30) (hx : Whole x) (hy : Whole y) (hh : Whole h) : Fits (lineF a x b y w) h := by
  obtain ⟨x1, x2⟩ := hx
  obtain ⟨y1, y2⟩ := hy
  obtain ⟨z1, z2⟩ := hh
  have p1 := mul_bd 60000 30 x2 (b := (b : Int) - w) (by omega)
  have p2 := mul_bd 60000 30 y2 (b := (w : Int) - a) (by omega)
  have p3 := mul_bd 60000 30 z2 (b := (b : Int) - a) (by omega)
  unfold Fits lineF lineO
  rw [if_neg (by omega), x1, y1, z1]
  simp only [Int.mul_one, Int.one_mul]
  omega
@[simp] theorem newObj_a131 {f : Fr} : Kern.newObj TT (.alloc 131) f = some (.cells [.int .i64 0, .int .i64 0, .int .i64 0, .int .i64 0, .int .i64 0, .int .i64 0] none) := newObj_alloc 131 zero_131
set_option maxRecDepth 100000 in
set_option maxHeartbeats 4000000 in
theorem clashIn_ev (BC : List Value) (n : Nat) (L H : Nat → Frac) (i j k : Nat) (s : St) (hB : BOk BC n L H) (hn : n ≤ 30) (hi : i < n) (hj : j < n) (hk : k < n) (hW : ∀ w, w < n → Whole (L w) ∧ Whole (H w)) :
    Ev TT 56 [.agg BC.toArray, .int .i64 i, .int .i64 j, .int .i64 k] s fun r s' => r = .bool (clashB L H i j k) ∧ Keep s s' := by
  have h2 := hB.len
  have h3 := hB.ones
  have h1 := takeL_len h2
  have hS := hB.same
  have l1 := hB.lo j (by omega)
  have l2 := hB.hi j (by omega)
  have hj30 : j < 30 := by omega
  have hj30' : (j : Int) < 30 := by omega
  refine Ev.intro (fn := Try.f56) rfl (by kernel_rfl) rfl rfl ?_
  apply zz
  refine Cd.ra (h := ?_)
  apply Run.by_eq
  · intro self
    conv => lhs; simp -implicitDefEqProofs (maxSteps := 300000) (disch := omega) [-getElem?_pos, -getElem?_neg, h2, h3]
  try (with_reducible refine Run.ret ?_)
  apply zz
  by_cases hc : i = j ∧ j = k
  · obtain ⟨rfl, rfl⟩ := hc
    have hcb : clashB L H i i i = aboveB (L i) (H i) := by unfold clashB; rw [if_pos ⟨rfl, rfl⟩]
    rw [hcb]
    apply zz
    refine Cd.ra (h := ?_)
    apply Run.by_eq
    · intro self
      conv => lhs; simp -implicitDefEqProofs (maxSteps := 300000) (disch := omega) [-getElem?_pos, -getElem?_neg]
    try (with_reducible refine Run.ret ?_)
    apply zz
    apply Cd.ite rfl
    · conv => lhs; simp -implicitDefEqProofs (maxSteps := 300000) (disch := omega) [-getElem?_pos, -getElem?_neg]
    all_goals intro c0
    all_goals try (cases c0; done)
    all_goals try simp only [Bool.not_eq_true', Bool.not_eq_false', decide_eq_true_eq, decide_eq_false_iff_not] at c0
    all_goals apply zz
    apply zz
    refine Cd.drawn (pl := [(0, 0, false, false), (1, 0, false, false), (2, 3, false, false), (3, 7, false, false), (4, 0, false, false), (5, 0, false, false), (6, 48, false, false), (7, 112, false, false), (8, 255, true, false), (9, 511, false, false)]) (by kernel_rfl) (by conv => lhs; simp only [List.map_cons, List.map_nil]) (by conv => lhs; simp [strip, ordered]) ?_
    apply Run.by_eq
    · intro self
      conv => lhs; simp -implicitDefEqProofs (maxSteps := 300000) (disch := omega) [filter_bt, (show ∀ i, Nat.testBit 255 i = decide (i < 8) from fun i => Nat.testBit_two_pow_sub_one 8 i), -getElem?_pos, -getElem?_neg, l1, l2, hj30, hj30']
    try (with_reducible refine Run.ret ?_)
    apply zz
    refine Run.call ((above_ev (L i) (H i) _ ((hW i hi).1.fits (hW i hi).2)).mono fun v wy hv => ?_)
    obtain ⟨rfl, y⟩ := hv
    have ya := y.1
    have yb := y.2
    try simp only [pushed_next', upded_next'] at ya yb
    have y0 := (yb s.next (by simp)).trans (get_pushed_new s (.cells BC none))
    apply Run.by_eq
    · intro self
      conv => lhs; simp -implicitDefEqProofs (maxSteps := 300000) (disch := omega) [-getElem?_pos, -getElem?_neg, l1, l2, hj30, hj30', y0]
    try (with_reducible refine Run.ret ?_)
    apply zz
    apply Leave.mk (by first | exact .inl rfl | exact .inr rfl) (by simp only [Fr.marks_put, fr0_marks])
    · conv => lhs; simp -implicitDefEqProofs (disch := omega) [Try.results56]
    exact ⟨rfl, ⟨by (try simp only [pushed_next', upded_next']); omega, fun i hi => by simp -implicitDefEqProofs (disch := omega) [yb]⟩⟩
  have hcb : clashB L H i j k = (decide (i < j) && (decide (j < k) && aboveB (lineF i (L i) k (L k) j) (H j))) := by unfold clashB; rw [if_neg hc]
  rw [hcb]
  obtain ⟨S1, hS1⟩ : ∃ S1, S1 = s.pushed (.cells BC none) := ⟨_, rfl⟩
  have hSn : S1.next = s.next + 1 := by rw [hS1]; rfl
  have hSg : S1.heap.get s.next = some (.cells BC none) := by rw [hS1]; exact get_pushed_new _ _
  have hSk : ∀ x, x < s.next → S1.heap.get x = s.heap.get x := fun x hx => by rw [hS1]; exact get_pushed_old _ _ _ (by omega)
  refine Cd.mono (Q := fun x f1 s1 => x = Ex.normal ∧ f1.marks = [] ∧ f1.get 1 = .int .i64 i ∧ f1.get 2 = .int .i64 j ∧ f1.get 3 = .int .i64 k ∧ f1.get 4 = .pointer (some ⟨s.next, 0, none⟩) ∧ f1.get 17 = .bool false ∧ s1 = S1) ?_ ?_
  · by_cases e : i = j
    · have e2 : ¬ (j : Int) = k := fun q => hc ⟨e, by omega⟩
      subst e
      apply zz
      refine Cd.ra (h := ?_)
      apply Run.by_eq
      · intro self
        conv => lhs; simp -implicitDefEqProofs (maxSteps := 300000) (disch := omega) [-getElem?_pos, -getElem?_neg, e2]
      try (with_reducible refine Run.ret ?_)
      apply zz
      exact ⟨rfl, by simp, by simp, by simp, by simp, by simp, by simp, hS1.symm⟩
    · have e2 : ¬ (i : Int) = j := by omega
      apply zz
      refine Cd.ra (h := ?_)
      apply Run.by_eq
      · intro self
        conv => lhs; simp -implicitDefEqProofs (maxSteps := 300000) (disch := omega) [-getElem?_pos, -getElem?_neg, e2]
      try (with_reducible refine Run.ret ?_)
      apply zz
      exact ⟨rfl, by simp, by simp, by simp, by simp, by simp, by simp, hS1.symm⟩
  rintro x f1 s1 ⟨rfl, hm, g1, g2, g3, g4, g17, rfl⟩
  apply zz
  apply Cd.ite rfl
  · conv => lhs; simp -implicitDefEqProofs (maxSteps := 300000) (disch := omega) [-getElem?_pos, -getElem?_neg, g17]
  all_goals intro c0
  all_goals try (cases c0; done)
  all_goals try simp only [Bool.not_eq_true', Bool.not_eq_false', decide_eq_true_eq, decide_eq_false_iff_not] at c0
  all_goals apply zz
  apply zz
  refine Cd.drawn (pl := [(0, 0, false, false), (1, 0, false, false), (3, 0, false, false), (4, 0, false, false), (7, 0, false, true), (2, 3, true, false), (5, 31, true, false), (6, 63, false, false), (8, 255, true, false)]) (by kernel_rfl) (by conv => lhs; simp only [List.map_cons, List.map_nil]) (by conv => lhs; simp [strip, ordered]) ?_
  apply Run.by_eq
  · intro self
    conv => lhs; simp -implicitDefEqProofs (maxSteps := 300000) (disch := omega) [filter_bt, (show ∀ i, Nat.testBit 3 i = decide (i < 2) from fun i => Nat.testBit_two_pow_sub_one 2 i), (show ∀ i, Nat.testBit 31 i = decide (i < 5) from fun i => Nat.testBit_two_pow_sub_one 5 i), (show ∀ i, Nat.testBit 255 i = decide (i < 8) from fun i => Nat.testBit_two_pow_sub_one 8 i), -getElem?_pos, -getElem?_neg, g1, g3, g4, hSg, h1, hS]
  try (with_reducible refine Run.ret ?_)
  apply zz
  refine Run.call ((lowPoint_ev BC n L H i _ hB (by omega)).mono fun v wy hv => ?_)
  obtain ⟨rfl, y⟩ := hv
  have ya := y.1
  have yb := y.2
  try simp only [pushed_next', upded_next'] at ya yb
  have y0 : wy.heap.get s.next = some (.cells BC none) := by rw [yb s.next (by omega)]; simp -implicitDefEqProofs (disch := omega) [hSg]
  have y9 : wy.heap.get s1.next = some (.cells [.int .i64 0, .int .i64 0, .int .i64 0, .int .i64 0, .int .i64 0, .int .i64 0] none) := by rw [yb s1.next (by omega)]; simp -implicitDefEqProofs (disch := omega)
  apply Run.by_eq
  · intro self
    conv => lhs; simp -implicitDefEqProofs (maxSteps := 300000) (disch := omega) [-getElem?_pos, -getElem?_neg, y0, y9, h1, hS]
  try (with_reducible refine Run.ret ?_)
  apply zz
  refine Run.call ((lowPoint_ev BC n L H k _ hB (by omega)).mono fun v wz hv => ?_)
  obtain ⟨rfl, z⟩ := hv
  have za := z.1
  have zb := z.2
  try simp only [pushed_next', upded_next'] at za zb
  have z0 := (zb s.next (by omega)).trans y0
  have z9 := (zb s1.next (by omega)).trans y9
  apply Run.by_eq
  · intro self
    conv => lhs; simp -implicitDefEqProofs (maxSteps := 300000) (disch := omega) [-getElem?_pos, -getElem?_neg, z0, z9, h1, hS]
  try (with_reducible refine Run.ret ?_)
  apply zz
  by_cases hij : i < j
  · have hij' : (i : Int) < j := by omega
    by_cases hjk : j < k
    · have hjk' : (j : Int) < k := by omega
      rw [decide_eq_true hij, decide_eq_true hjk, Bool.true_and, Bool.true_and]
      apply zz
      refine Cd.drawn (pl := [(0, 0, false, false), (1, 0, false, false), (2, 3, false, false), (3, 7, false, false), (4, 15, false, false), (5, 15, false, false), (6, 63, false, false), (7, 127, false, false), (8, 255, false, false), (9, 511, false, false), (10, 511, false, false), (12, 511, false, false), (13, 511, false, false), (14, 12799, false, false), (15, 29183, false, false), (11, 2047, true, false), (16, 65535, true, false), (17, 131071, false, false), (18, 262143, false, false)]) (by kernel_rfl) (by conv => lhs; simp only [List.map_cons, List.map_nil]) (by conv => lhs; simp [strip, ordered]) ?_
      apply Run.by_eq
      · intro self
        conv => lhs; simp -implicitDefEqProofs (maxSteps := 300000) (disch := omega) [filter_bt, (show ∀ i, Nat.testBit 2047 i = decide (i < 11) from fun i => Nat.testBit_two_pow_sub_one 11 i), (show ∀ i, Nat.testBit 65535 i = decide (i < 16) from fun i => Nat.testBit_two_pow_sub_one 16 i), -getElem?_pos, -getElem?_neg, g1, g2, g3, g4, hij', hjk', z0, l2, hj30, hj30']
      try (with_reducible refine Run.ret ?_)
      apply zz
      refine Run.call ((lineO_ev i k j (L i) (L k) _ (hW i hi).1.small (hW k hk).1.small (by omega) (by omega) (by omega)).mono fun v wu hv => ?_)
      obtain ⟨rfl, u⟩ := hv
      have ua := u.1
      have ub := u.2
      try simp only [pushed_next', upded_next'] at ua ub
      have u0 : wu.heap.get s.next = some (.cells BC none) := by rw [ub s.next (by omega)]; simp -implicitDefEqProofs (disch := omega) [z0]
      have u1 : wu.heap.get s1.next = some (.cells [.int .i64 i, .int .i64 (L i).o, .int .i64 (L i).u, .int .i64 k, .int .i64 (L k).o, .int .i64 (L k).u] none) := by rw [ub s1.next (by omega)]; simp -implicitDefEqProofs (disch := omega)
      have hfit := line_fits (x := L i) (y := L k) (h := H j) hij hjk (by omega) (hW i hi).1 (hW k hk).1 (hW j hj).2
      generalize lineF i (L i) k (L k) j = X at hfit ⊢
      apply Run.by_eq
      · intro self
        conv => lhs; simp -implicitDefEqProofs (maxSteps := 300000) (disch := omega) [-getElem?_pos, -getElem?_neg, v_eq, u0, u1, g2, g4, l2, hj30, hj30']
      try (with_reducible refine Run.ret ?_)
      apply zz
      refine Run.call ((above_ev X (H j) _ hfit).mono fun v wt hv => ?_)
      obtain ⟨rfl, t⟩ := hv
      have ta := t.1
      have tb := t.2
      try simp only [pushed_next', upded_next'] at ta tb
      have t0 := (tb s.next (by omega)).trans u0
      have t1 := (tb s1.next (by omega)).trans u1
      apply Run.by_eq
      · intro self
        conv => lhs; simp -implicitDefEqProofs (maxSteps := 300000) (disch := omega) [-getElem?_pos, -getElem?_neg, v_eq, t0, t1, g2, g4, l2, hj30, hj30']
      try (with_reducible refine Run.ret ?_)
      apply zz
      apply Leave.mk (by first | exact .inl rfl | exact .inr rfl) (by simp only [Fr.marks_put, fr0_marks, hm])
      · conv => lhs; simp -implicitDefEqProofs (disch := omega) [Try.results56, hm]
      exact ⟨rfl, ⟨by (try simp only [pushed_next', upded_next'] at *); omega, fun x hx => by simp -implicitDefEqProofs (disch := omega) [tb, ub, zb, yb, hSk]⟩⟩
    · have hjk' : ¬ (j : Int) < k := by omega
      rw [decide_eq_false hjk, Bool.false_and, Bool.and_false]
      apply zz
      refine Cd.drawn (pl := [(0, 0, false, false), (1, 0, false, false), (2, 3, false, false), (3, 7, false, false), (4, 15, false, false), (5, 15, false, false), (6, 63, false, false), (7, 127, false, false), (8, 255, false, false), (9, 511, false, false), (10, 511, false, false), (12, 511, false, false), (13, 511, false, false), (14, 12799, false, false), (15, 29183, false, false), (11, 2047, true, false), (16, 65535, true, false), (17, 131071, false, false), (18, 262143, false, false)]) (by kernel_rfl) (by conv => lhs; simp only [List.map_cons, List.map_nil]) (by conv => lhs; simp [strip, ordered]) ?_
      apply Run.by_eq
      · intro self
        conv => lhs; simp -implicitDefEqProofs (maxSteps := 300000) (disch := omega) [filter_bt, (show ∀ i, Nat.testBit 2047 i = decide (i < 11) from fun i => Nat.testBit_two_pow_sub_one 11 i), (show ∀ i, Nat.testBit 65535 i = decide (i < 16) from fun i => Nat.testBit_two_pow_sub_one 16 i), -getElem?_pos, -getElem?_neg, g1, g2, g3, g4, hij', hjk', z0]
      try (with_reducible refine Run.ret ?_)
      apply zz
      apply Leave.mk (by first | exact .inl rfl | exact .inr rfl) (by simp only [Fr.marks_put, fr0_marks, hm])
      · conv => lhs; simp -implicitDefEqProofs (disch := omega) [Try.results56, hm]
      exact ⟨rfl, ⟨by (try simp only [pushed_next', upded_next'] at *); omega, fun x hx => by simp -implicitDefEqProofs (disch := omega) [zb, yb, hSk]⟩⟩
  · have hij' : ¬ (i : Int) < j := by omega
    rw [decide_eq_false hij, Bool.false_and]
    apply zz
    refine Cd.drawn (pl := [(0, 0, false, false), (1, 0, false, false), (2, 3, false, false), (3, 7, false, false), (4, 15, false, false), (5, 15, false, false), (6, 63, false, false), (7, 127, false, false), (8, 255, false, false), (9, 511, false, false), (10, 511, false, false), (12, 511, false, false), (13, 511, false, false), (14, 12799, false, false), (15, 29183, false, false), (11, 2047, true, false), (16, 65535, true, false), (17, 131071, false, false), (18, 262143, false, false)]) (by kernel_rfl) (by conv => lhs; simp only [List.map_cons, List.map_nil]) (by conv => lhs; simp [strip, ordered]) ?_
    apply Run.by_eq
    · intro self
      conv => lhs; simp -implicitDefEqProofs (maxSteps := 300000) (disch := omega) [filter_bt, (show ∀ i, Nat.testBit 2047 i = decide (i < 11) from fun i => Nat.testBit_two_pow_sub_one 11 i), (show ∀ i, Nat.testBit 65535 i = decide (i < 16) from fun i => Nat.testBit_two_pow_sub_one 16 i), -getElem?_pos, -getElem?_neg, g1, g2, g3, g4, hij', z0]
    try (with_reducible refine Run.ret ?_)
    apply zz
    apply Leave.mk (by first | exact .inl rfl | exact .inr rfl) (by simp only [Fr.marks_put, fr0_marks, hm])
    · conv => lhs; simp -implicitDefEqProofs (disch := omega) [Try.results56, hm]
    exact ⟨rfl, ⟨by (try simp only [pushed_next', upded_next'] at *); omega, fun x hx => by simp -implicitDefEqProofs (disch := omega) [zb, yb, hSk]⟩⟩
end Go.Proofs.Ytnhokodcmeekhaa
namespace Go.Proofs.Ytnhokodcmeekhaa
open Go Kern
/-! The lines across a week -/
set_option maxRecDepth 100000 in
set_option maxHeartbeats 4000000 in
theorem across_ev (n w : Nat) (L H : Nat → Frac) (BC : List Value) (yv : Value) (pw pb : Nat) (s : St) (X : Nat → Prop) (J : St → Prop) (NC : Nat → Nat → Prop) (B : Nat → Nat → St → Prop) (hB : BOk BC n L H) (hn : n ≤ 30) (hw : w < n) (hpw : pw < s.next) (hpb : pb < s.next)
    (hgw : s.heap.get pw = some (.cells [.int .i64 w] none)) (hgb : s.heap.get pb = some (.cells BC none)) (hX : ∀ i, X i → i < s.next) (hXw : ¬ X pw) (hXb : ¬ X pb) (hyv : veq 5 yv yv = true) (hJ0 : J s)
    (hJs : ∀ s1 s2, J s1 → s1.next ≤ s2.next → (∀ i, i < s.next → s2.heap.get i = s1.heap.get i) → J s2)
    (hyield : ∀ i k s1, i < w → w < k → k < n → J s1 → s.next ≤ s1.next → s1.heap.get pb = some (.cells BC none) → Evn TT (fun self => callV self yv [.agg #[.int .i64 (i : Nat), .int .i64 (L i).o, .int .i64 (L i).u, .int .i64 (k : Nat), .int .i64 (L k).o, .int .i64 (L k).u]] s1) fun p => ((p.1 = .bool true ∧ NC i k ∧ J p.2) ∨ (p.1 = .bool false ∧ B i k p.2)) ∧ s1.next ≤ p.2.next ∧ ∀ x, x < s1.next → ¬ X x → p.2.heap.get x = s1.heap.get x) :
    Ev TT 84 [yv, .pointer (some ⟨pw, 0, none⟩), .pointer (some ⟨pb, 0, none⟩)] s fun _ s' => (((∀ i k, i < w → w < k → k < n → NC i k) ∧ J s') ∨ ∃ i k, i < w ∧ w < k ∧ k < n ∧ B i k s') ∧ s.next ≤ s'.next ∧ ∀ x, x < s.next → ¬ X x → s'.heap.get x = s.heap.get x := by
  have h1 := takeL_len hB.len
  have hS := hB.same
  have hwk : BC[0]? = some (.int .i64 n) := hB.wk
  refine Ev.intro (fn := Try.f84) rfl (by kernel_rfl) rfl rfl ?_
  apply zz
  refine Cd.ra (h := ?_)
  apply Run.by_eq
  · intro self
    conv => lhs; simp -implicitDefEqProofs (maxSteps := 300000) (disch := omega) [-getElem?_pos, -getElem?_neg, hgw]
  try (with_reducible refine Run.ret ?_)
  apply zz
  refine Cd.inv (fun z f s' => ∃ i : Nat, i ≤ w ∧ z = w - i ∧ f.marks = [] ∧ f.get 0 = yv ∧ f.get 1 = .pointer (some ⟨pw, 0, none⟩) ∧ f.get 2 = .pointer (some ⟨pb, 0, none⟩) ∧ f.get 6 = .int .i64 w ∧ f.get 7 = .int .i64 i ∧ J s' ∧ s.next ≤ s'.next ∧ (∀ x, x < s.next → ¬ X x → s'.heap.get x = s.heap.get x) ∧ ∀ i' k, i' < i → w < k → k < n → NC i' k) w ?_ ?_
  · exact ⟨0, by omega, rfl, by simp, by simp, by simp, by simp, by simp, by simp, hJ0, Nat.le_refl _, fun x _ _ => rfl, fun i' k h => by omega⟩
  rintro z f s1 ⟨i, hi, rfl, hm, g0, g1, g2, g6, g7, hJ, hnx, hold, hNC⟩
  have hw1 := (hold pw hpw hXw).trans hgw
  by_cases hlt : i < w
  · apply zz
    refine Cd.ra (h := ?_)
    apply Run.by_eq
    · intro self
      conv => lhs; simp -implicitDefEqProofs (maxSteps := 300000) (disch := omega) [-getElem?_pos, -getElem?_neg, g7, g6]
    try (with_reducible refine Run.ret ?_)
    apply zz
    apply Cd.ite rfl
    · conv => lhs; simp -implicitDefEqProofs (maxSteps := 300000) (disch := omega) [-getElem?_pos, -getElem?_neg]
    all_goals intro c0
    all_goals try (cases c0; done)
    all_goals try simp only [Bool.not_eq_true', Bool.not_eq_false', decide_eq_true_eq, decide_eq_false_iff_not] at c0
    all_goals apply zz
    · apply zz
      refine Cd.ra (h := ?_)
      apply Run.by_eq
      · intro self
        conv => lhs; simp -implicitDefEqProofs (maxSteps := 300000) (disch := omega) [-getElem?_pos, -getElem?_neg, g7]
      try (with_reducible refine Run.ret ?_)
      apply zz
      refine Cd.ra (h := ?_)
      apply Run.by_eq
      · intro self
        conv => lhs; simp -implicitDefEqProofs (maxSteps := 300000) (disch := omega) [-getElem?_pos, -getElem?_neg, g1, hw1]
      try (with_reducible refine Run.ret ?_)
      apply zz
      refine Cd.mono (Q := fun x f2 s2 => (x = Ex.exit 2 ∧ f2.marks = [] ∧ f2.get 0 = yv ∧ f2.get 1 = .pointer (some ⟨pw, 0, none⟩) ∧ f2.get 2 = .pointer (some ⟨pb, 0, none⟩) ∧ f2.get 6 = .int .i64 w ∧ f2.get 7 = .int .i64 i ∧ J s2 ∧ s.next ≤ s2.next ∧ (∀ x, x < s.next → ¬ X x → s2.heap.get x = s.heap.get x) ∧ ∀ k, w < k → k < n → NC i k) ∨ (x = Ex.ret ∧ f2.marks = [] ∧ (∃ k, w < k ∧ k < n ∧ B i k s2) ∧ s.next ≤ s2.next ∧ ∀ x, x < s.next → ¬ X x → s2.heap.get x = s.heap.get x)) (Cd.inv (fun z f2 s2 => ∃ k : Nat, w < k ∧ k ≤ n ∧ z = n - k ∧ f2.marks = [] ∧ f2.get 0 = yv ∧ f2.get 1 = .pointer (some ⟨pw, 0, none⟩) ∧ f2.get 2 = .pointer (some ⟨pb, 0, none⟩) ∧ f2.get 4 = .int .i64 i ∧ f2.get 5 = .int .i64 k ∧ f2.get 6 = .int .i64 w ∧ f2.get 7 = .int .i64 i ∧ J s2 ∧ s.next ≤ s2.next ∧ (∀ x, x < s.next → ¬ X x → s2.heap.get x = s.heap.get x) ∧ ∀ k', w < k' → k' < k → NC i k') (n - (w + 1)) ?_ ?_) ?_
      · exact ⟨w + 1, by omega, by omega, rfl, by simp [hm], by simp [g0], by simp [g1], by simp [g2], by simp, by simp, by simp [g6], by simp [g7], hJ, hnx, hold, fun k' h1 h2 => by omega⟩
      · clear hJ hnx hold hm g0 g1 g2 g6 g7 hw1
        rintro z f2 s2 ⟨k, hk1, hk2, rfl, hm, g0, g1, g2, g4, g5, g6, g7, hJ, hnx, hold, hNk⟩
        have hb1 := (hold pb hpb hXb).trans hgb
        by_cases hlk : k < n
        · apply zz
          refine Cd.ra (h := ?_)
          apply Run.by_eq
          · intro self
            conv => lhs; simp -implicitDefEqProofs (maxSteps := 300000) (disch := omega) [-getElem?_pos, -getElem?_neg, g5, g2, hb1, hwk]
          try (with_reducible refine Run.ret ?_)
          apply zz
          apply Cd.ite rfl
          · conv => lhs; simp -implicitDefEqProofs (maxSteps := 300000) (disch := omega) [-getElem?_pos, -getElem?_neg]
          all_goals intro c1
          all_goals try (cases c1; done)
          all_goals try simp only [Bool.not_eq_true', Bool.not_eq_false', decide_eq_true_eq, decide_eq_false_iff_not] at c1
          all_goals apply zz
          · apply zz
            refine Cd.drawn (pl := [(0, 0, false, false), (1, 0, false, false), (2, 0, false, false), (4, 0, false, false), (5, 0, false, false), (3, 6, true, false), (6, 62, true, false), (7, 126, false, false), (8, 255, true, false), (9, 511, false, false)]) (by kernel_rfl) (by conv => lhs; simp only [List.map_cons, List.map_nil]) (by conv => lhs; simp [strip, ordered]) ?_
            apply Run.by_eq
            · intro self
              conv => lhs; simp -implicitDefEqProofs (maxSteps := 300000) (disch := omega) [filter_bt, (show Nat.testBit 6 0 = false from rfl), (show Nat.testBit 6 1 = true from rfl), (show Nat.testBit 6 2 = true from rfl), (show Nat.testBit 6 4 = false from rfl), (show Nat.testBit 6 5 = false from rfl), (show Nat.testBit 62 0 = false from rfl), (show Nat.testBit 62 1 = true from rfl), (show Nat.testBit 62 2 = true from rfl), (show Nat.testBit 62 4 = true from rfl), (show Nat.testBit 62 5 = true from rfl), (show ∀ i, Nat.testBit 255 i = decide (i < 8) from fun i => Nat.testBit_two_pow_sub_one 8 i), -getElem?_pos, -getElem?_neg, g0, g2, g4, g5, hb1, h1, hS, hyv]
            try (with_reducible refine Run.ret ?_)
            apply zz
            refine Run.call ((lowPoint_ev BC n L H i _ hB (by omega)).mono fun v wy hv => ?_)
            obtain ⟨rfl, y⟩ := hv
            have ya := y.1
            have yb := y.2
            try simp only [pushed_next', upded_next'] at ya yb
            have y0 := (yb pb (by omega)).trans hb1
            apply Run.by_eq
            · intro self
              conv => lhs; simp -implicitDefEqProofs (maxSteps := 300000) (disch := omega) [-getElem?_pos, -getElem?_neg, g0, g2, g4, g5, y0, h1, hS, hyv]
            try (with_reducible refine Run.ret ?_)
            apply zz
            refine Run.call ((lowPoint_ev BC n L H k _ hB (by omega)).mono fun v wu hv => ?_)
            obtain ⟨rfl, u⟩ := hv
            have ua := u.1
            have ub := u.2
            try simp only [pushed_next', upded_next'] at ua ub
            have u0 := (ub pb (by omega)).trans y0
            apply Run.by_eq
            · intro self
              conv => lhs; simp -implicitDefEqProofs (maxSteps := 300000) (disch := omega) [-getElem?_pos, -getElem?_neg, g0, g2, g4, g5, u0, h1, hS, hyv]
            try (with_reducible refine Run.ret ?_)
            apply zz
            refine Run.callV ((hyield i k wu hlt hk1 hlk (hJs s2 wu hJ (by omega) fun x hx => (ub x (by omega)).trans (yb x (by omega))) (by omega) u0).mono fun p hp => ?_)
            obtain ⟨hp1, hp2, hp3⟩ := hp
            have hold2 : ∀ x, x < s.next → ¬ X x → p.2.heap.get x = s.heap.get x := fun x hx hxx => (hp3 x (by omega) hxx).trans ((ub x (by omega)).trans ((yb x (by omega)).trans (hold x hx hxx)))
            obtain ⟨pv, ps⟩ := p
            simp only [] at hp1 hp2 hp3 hold2 ⊢
            rcases hp1 with ⟨rfl, hnc, hJ2⟩ | ⟨rfl, hBk⟩
            · apply Run.by_eq
              · intro self
                conv => lhs; simp -implicitDefEqProofs (maxSteps := 300000) (disch := omega) [-getElem?_pos, -getElem?_neg]
              try (with_reducible refine Run.ret ?_)
              apply zz
              apply Cd.ite rfl
              · conv => lhs; simp -implicitDefEqProofs (maxSteps := 300000) (disch := omega) [-getElem?_pos, -getElem?_neg]
              all_goals intro c2
              all_goals try (cases c2; done)
              all_goals try simp only [Bool.not_eq_true', Bool.not_eq_false', decide_eq_true_eq, decide_eq_false_iff_not] at c2
              all_goals apply zz
              apply zz
              refine Cd.ra (h := ?_)
              apply Run.by_eq
              · intro self
                conv => lhs; simp -implicitDefEqProofs (maxSteps := 300000) (disch := omega) [-getElem?_pos, -getElem?_neg, g5]
              try (with_reducible refine Run.ret ?_)
              apply zz
              refine LoopK.nm (n - (k + 1)) (by omega) ⟨k + 1, by omega, by omega, rfl, by simp [hm], by simp [g0], by simp [g1], by simp [g2], by simp [g4], by simp, by simp [g6], by simp [g7], hJ2, by omega, hold2, fun k' h1 h2 => ?_⟩
              by_cases e : k' = k
              · subst e; exact hnc
              · exact hNk k' h1 (by omega)
            · apply Run.by_eq
              · intro self
                conv => lhs; simp -implicitDefEqProofs (maxSteps := 300000) (disch := omega) [-getElem?_pos, -getElem?_neg]
              try (with_reducible refine Run.ret ?_)
              apply zz
              apply Cd.ite rfl
              · conv => lhs; simp -implicitDefEqProofs (maxSteps := 300000) (disch := omega) [-getElem?_pos, -getElem?_neg]
              all_goals intro c2
              all_goals try (cases c2; done)
              all_goals try simp only [Bool.not_eq_true', Bool.not_eq_false', decide_eq_true_eq, decide_eq_false_iff_not] at c2
              all_goals apply zz
              exact .inr ⟨rfl, by simp [hm], ⟨k, hk1, hlk, hBk⟩, by omega, hold2⟩
          · omega
        · obtain rfl : k = n := by omega
          apply zz
          refine Cd.ra (h := ?_)
          apply Run.by_eq
          · intro self
            conv => lhs; simp -implicitDefEqProofs (maxSteps := 300000) (disch := omega) [-getElem?_pos, -getElem?_neg, g5, g2, hb1, hwk]
          try (with_reducible refine Run.ret ?_)
          apply zz
          apply Cd.ite rfl
          · conv => lhs; simp -implicitDefEqProofs (maxSteps := 300000) (disch := omega) [-getElem?_pos, -getElem?_neg]
          all_goals intro c1
          all_goals try (cases c1; done)
          all_goals try simp only [Bool.not_eq_true', Bool.not_eq_false', decide_eq_true_eq, decide_eq_false_iff_not] at c1
          all_goals apply zz
          exact .inl ⟨rfl, by simp [hm], by simp [g0], by simp [g1], by simp [g2], by simp [g6], by simp [g7], hJ, hnx, hold, hNk⟩
      rintro x f2 s2 (⟨rfl, hm, g0, g1, g2, g6, g7, hJ, hnx, hold, hNk⟩ | ⟨rfl, hm, ⟨k, hk1, hk2, hBk⟩, hnx, hold⟩)
      · apply zz
        apply zz
        refine Cd.ra (h := ?_)
        apply Run.by_eq
        · intro self
          conv => lhs; simp -implicitDefEqProofs (maxSteps := 300000) (disch := omega) [-getElem?_pos, -getElem?_neg, g7]
        try (with_reducible refine Run.ret ?_)
        apply zz
        refine LoopK.nm (w - (i + 1)) (by omega) ⟨i + 1, by omega, rfl, by simp [hm], by simp [g0], by simp [g1], by simp [g2], by simp [g6], by simp, hJ, hnx, hold, fun i' k h1 h2 h3 => ?_⟩
        by_cases e : i' = i
        · subst e; exact hNk k h2 h3
        · exact hNC i' k (by omega) h2 h3
      · apply zz
        apply Leave.mk (by first | exact .inl rfl | exact .inr rfl) (by simp only [Fr.marks_put, fr0_marks, hm])
        · conv => lhs; simp -implicitDefEqProofs (disch := omega) [Try.results84, hm]
        exact ⟨.inr ⟨i, k, hlt, hk1, hk2, hBk⟩, hnx, hold⟩
    · omega
  · obtain rfl : i = w := by omega
    apply zz
    refine Cd.ra (h := ?_)
    apply Run.by_eq
    · intro self
      conv => lhs; simp -implicitDefEqProofs (maxSteps := 300000) (disch := omega) [-getElem?_pos, -getElem?_neg, g7, g6]
    try (with_reducible refine Run.ret ?_)
    apply zz
    apply Cd.ite rfl
    · conv => lhs; simp -implicitDefEqProofs (maxSteps := 300000) (disch := omega) [-getElem?_pos, -getElem?_neg]
    all_goals intro c0
    all_goals try (cases c0; done)
    all_goals try simp only [Bool.not_eq_true', Bool.not_eq_false', decide_eq_true_eq, decide_eq_false_iff_not] at c0
    all_goals apply zz
    apply Leave.mk (by first | exact .inl rfl | exact .inr rfl) (by simp only [Fr.marks_put, fr0_marks, hm])
    · conv => lhs; simp -implicitDefEqProofs (disch := omega) [Try.results84, hm]
    exact ⟨.inl ⟨hNC, hJ⟩, hnx, hold⟩
end Go.Proofs.Ytnhokodcmeekhaa
namespace Go.Proofs.Ytnhokodcmeekhaa
open Go Kern
/-! The reference's clash of three weeks -/
def holdsB (L H : Nat → Int) (i j k : Nat) : Bool := if i = j ∧ j = k then decide (H i < L i) else decide (i < j) && (decide (j < k) && decide (H j * ((k : Int) - i) < L i * ((k : Int) - j) + L k * ((j : Int) - i)))
end Go.Proofs.Ytnhokodcmeekhaa
namespace Go.Proofs.Ytnhokodcmeekhaa
open Go Kern
/-! The reference's lows and highs -/
def endS (w : Nat) (p : Int × Int) (x : SampD) : Int × Int := if x.week = w then (max p.1 (x.val - x.off), min p.2 (x.val + x.off)) else p
def endN (lo hi : Int) (ss : List SampD) (w : Nat) : Int × Int := ss.foldl (endS w) (lo, hi)
/-- Two lists of numbers that grow together. -/
def OwnTwo (N : Nat) (s : St) (v1 v2 : Value) (l1 l2 : List Int) : Prop :=
  (l1 = [] ∧ l2 = [] ∧ v1 = .slice none 0 0 ∧ v2 = .slice none 0 0) ∨ ∃ b1 b2, b1 ≠ b2 ∧ v1 = .slice (some ⟨b1, 0, none⟩) l1.length l1.length ∧ v2 = .slice (some ⟨b2, 0, none⟩) l2.length l2.length ∧ l1 ≠ [] ∧ l2 ≠ [] ∧ (N ≤ b1 ∧ b1 < s.next) ∧ (N ≤ b2 ∧ b2 < s.next) ∧ s.heap.get b1 = some (.cells (l1.map (Value.int .i64)) (some 1)) ∧ s.heap.get b2 = some (.cells (l2.map (Value.int .i64)) (some 1))
theorem OwnTwo.keep {N : Nat} {s s' : St} {v1 v2 : Value} {l1 l2 : List Int} (h : OwnTwo N s v1 v2 l1 l2) (k : Keep s s') : OwnTwo N s' v1 v2 l1 l2 := by
  have k1 := k.1
  rcases h with h | ⟨b1, b2, h1, h2, h3, h4, h5, ⟨h6, h7⟩, ⟨h8, h9⟩, h10, h11⟩
  · exact .inl h
  · exact .inr ⟨b1, b2, h1, h2, h3, h4, h5, ⟨h6, by omega⟩, ⟨h8, by omega⟩, (k.2 _ h7).trans h10, (k.2 _ h9).trans h11⟩
theorem OwnTwo.ints {N : Nat} {s : St} {v1 v2 : Value} {l1 l2 : List Int} (h : OwnTwo N s v1 v2 l1 l2) : IntsAt s v1 l1 ∧ IntsAt s v2 l2 := by
  rcases h with ⟨rfl, rfl, rfl, rfl⟩ | ⟨b1, b2, _, rfl, rfl, h4, h5, ⟨h6, h7⟩, ⟨h8, h9⟩, h10, h11⟩
  · exact ⟨.nil 0, .nil 0⟩
  · exact ⟨ints_of_cells h7 h10, ints_of_cells h9 h11⟩
end Go.Proofs.Ytnhokodcmeekhaa
namespace Go.Proofs.Ytnhokodcmeekhaa
open Go Kern
/-! Verify and its reference -/
def verIn (n : Int) (c : Nat → Nat → Nat → Bool) (ws : List Int) : Int :=
  if ws.length = 3 then if (ws.all fun w => weekB n w) = true then if c (ws.getD 0 0).toNat (ws.getD 1 0).toNat (ws.getD 2 0).toNat = true then 0 else 11 else 5 else 3
def verF (n lo hi : Int) (ss : List SampD) (ws : List Int) : Int :=
  if fieldErr n lo hi ss = 0 then verIn n (clashB (bndN n.toNat lo hi ss).1 (bndN n.toNat lo hi ss).2) ws else fieldErr n lo hi ss
theorem weekB_ok {n w : Int} (h : weekB n w = true) : 0 ≤ w ∧ w < n := by
  simpa [weekB] using h
theorem all_at {n : Int} {ws : List Int} (h : ∀ (j : Nat) (x : Int), ws[j]? = some x → weekB n x = true) : (ws.all fun w => weekB n w) = true := by
  rw [List.all_eq_true]
  intro x hx
  obtain ⟨j, hj, rfl⟩ := List.mem_iff_getElem.1 hx
  exact h j _ (by simp [hj])
theorem all_not {n : Int} {ws : List Int} {j : Nat} {x : Int} (h : ws[j]? = some x) (hx : weekB n x = false) : (ws.all fun w => weekB n w) = false := by
  rw [List.all_eq_false]
  exact ⟨x, List.mem_of_getElem? h, by rw [hx]; decide⟩
theorem slAt_veq {n : Nat} {s : St} {a : Option Addr} {m c : Nat} {l : List (List Value)} (h : SlAt n s (.slice a m c) l) (k : Nat) : veq (k + 1) (.slice a m c) (.slice a m c) = true := by
  cases h with
  | nil => exact veq_sliceN _ _ _
  | mk => exact veq_slice _ _ _ _ _
set_option maxRecDepth 100000 in
set_option maxHeartbeats 4000000 in
theorem verify_ev (n lo hi : Int) (v w : Value) (ss : List SampD) (ws : List Int) (s : St) (hs : SmAt s v ss) (hl : ss.length ≤ 1000000) (hw : IntsAt s w ws) (hwl : ws.length ≤ 1000000) : Ev TT 22 [fieldV n lo hi v, w] s fun r s' => r = .int .i64 (verF n lo hi ss ws) ∧ Keep s s' := by
  obtain ⟨aw, cw, rfl⟩ := hw.shape
  rw [List.length_map] at hw ⊢
  have hck := check_ev n lo hi v ss
  have hwk := fun x s => hasWeek_ev n lo hi x v s
  have hbo := fun (m : Nat) (e : n = m) (s : St) (h : SmAt s v ss) hc => boundsOf_ev m lo hi v ss s h hc
  obtain ⟨a, c, rfl⟩ := hs.shape
  rw [List.length_map] at hs hck hwk hbo ⊢
  unfold fieldV at hck hwk hbo ⊢
  refine Ev.intro (fn := Try.f22) rfl (by kernel_rfl) rfl rfl ?_
  apply zz
  refine Cd.ra (h := ?_)
  apply Run.by_eq
  · intro self
    conv => lhs; simp -implicitDefEqProofs (maxSteps := 300000) (disch := omega) [-getElem?_pos, -getElem?_neg]
  try (with_reducible refine Run.ret ?_)
  apply zz
  refine Cd.ra (h := ?_)
  apply Run.by_eq
  · intro self
    conv => lhs; simp -implicitDefEqProofs (maxSteps := 300000) (disch := omega) [-getElem?_pos, -getElem?_neg]
  try (with_reducible refine Run.ret ?_)
  apply zz
  refine Run.call ((hck _ (hs.keep ⟨by (try simp only [pushed_next', upded_next']); omega, fun i hi => by simp -implicitDefEqProofs (disch := omega) []⟩) hl).mono fun v wy hv => ?_)
  obtain ⟨rfl, y⟩ := hv
  have ya := y.1
  have yb := y.2
  try simp only [pushed_next', upded_next'] at ya yb
  apply Run.by_eq
  · intro self
    conv => lhs; simp -implicitDefEqProofs (maxSteps := 300000) (disch := omega) [-getElem?_pos, -getElem?_neg, yb]
  try (with_reducible refine Run.ret ?_)
  apply zz
  by_cases h1 : fieldErr n lo hi ss = 0
  case neg =>
    apply zz
    refine Cd.ra (h := ?_)
    apply Run.by_eq
    · intro self
      conv => lhs; simp -implicitDefEqProofs (maxSteps := 300000) (disch := omega) [-getElem?_pos, -getElem?_neg, h1]
    try (with_reducible refine Run.ret ?_)
    apply zz
    apply Cd.ite rfl
    · conv => lhs; simp -implicitDefEqProofs (maxSteps := 300000) (disch := omega) [-getElem?_pos, -getElem?_neg]
    all_goals intro c0
    all_goals try (cases c0; done)
    all_goals try simp only [Bool.not_eq_true', Bool.not_eq_false', decide_eq_true_eq, decide_eq_false_iff_not] at c0
    all_goals apply zz
    apply zz
    refine Cd.ra (h := ?_)
    apply Run.by_eq
    · intro self
      conv => lhs; simp -implicitDefEqProofs (maxSteps := 300000) (disch := omega) [-getElem?_pos, -getElem?_neg]
    try (with_reducible refine Run.ret ?_)
    apply zz
    apply Leave.mk (by first | exact .inl rfl | exact .inr rfl) (by simp only [Fr.marks_put, fr0_marks])
    · conv => lhs; simp -implicitDefEqProofs (disch := omega) [Try.results22]
    exact ⟨by unfold verF; rw [if_neg h1]; rfl, ⟨by (try simp only [pushed_next', upded_next']); omega, fun i hi => by simp -implicitDefEqProofs (disch := omega) [yb]⟩⟩
  have hF : verF n lo hi ss ws = verIn n (clashB (bndN n.toNat lo hi ss).1 (bndN n.toNat lo hi ss).2) ws := by unfold verF; rw [if_pos h1]
  rw [hF]
  apply zz
  refine Cd.ra (h := ?_)
  apply Run.by_eq
  · intro self
    conv => lhs; simp -implicitDefEqProofs (maxSteps := 300000) (disch := omega) [-getElem?_pos, -getElem?_neg, h1]
  try (with_reducible refine Run.ret ?_)
  apply zz
  apply Cd.ite rfl
  · conv => lhs; simp -implicitDefEqProofs (maxSteps := 300000) (disch := omega) [-getElem?_pos, -getElem?_neg]
  all_goals intro c0
  all_goals try (cases c0; done)
  all_goals try simp only [Bool.not_eq_true', Bool.not_eq_false', decide_eq_true_eq, decide_eq_false_iff_not] at c0
  all_goals apply zz
  by_cases h2 : ws.length = 3
  case neg =>
    have h2' : ¬ (ws.length : Int) = 3 := by omega
    apply zz
    refine Cd.ra (h := ?_)
    apply Run.by_eq
    · intro self
      conv => lhs; simp -implicitDefEqProofs (maxSteps := 300000) (disch := omega) [-getElem?_pos, -getElem?_neg, h2']
    try (with_reducible refine Run.ret ?_)
    apply zz
    apply Cd.ite rfl
    · conv => lhs; simp -implicitDefEqProofs (maxSteps := 300000) (disch := omega) [-getElem?_pos, -getElem?_neg]
    all_goals intro c1
    all_goals try (cases c1; done)
    all_goals try simp only [Bool.not_eq_true', Bool.not_eq_false', decide_eq_true_eq, decide_eq_false_iff_not] at c1
    all_goals apply zz
    apply zz
    refine Cd.ra (h := ?_)
    apply Run.by_eq
    · intro self
      conv => lhs; simp -implicitDefEqProofs (maxSteps := 300000) (disch := omega) [-getElem?_pos, -getElem?_neg]
    try (with_reducible refine Run.ret ?_)
    apply zz
    apply Leave.mk (by first | exact .inl rfl | exact .inr rfl) (by simp only [Fr.marks_put, fr0_marks])
    · conv => lhs; simp -implicitDefEqProofs (disch := omega) [Try.results22]
    exact ⟨by unfold verIn; rw [if_neg h2]; rfl, ⟨by (try simp only [pushed_next', upded_next']); omega, fun i hi => by simp -implicitDefEqProofs (disch := omega) [yb]⟩⟩
  have h2' : (ws.length : Int) = 3 := by omega
  apply zz
  refine Cd.ra (h := ?_)
  apply Run.by_eq
  · intro self
    conv => lhs; simp -implicitDefEqProofs (maxSteps := 300000) (disch := omega) [-getElem?_pos, -getElem?_neg, h2']
  try (with_reducible refine Run.ret ?_)
  apply zz
  apply Cd.ite rfl
  · conv => lhs; simp -implicitDefEqProofs (maxSteps := 300000) (disch := omega) [-getElem?_pos, -getElem?_neg]
  all_goals intro c1
  all_goals try (cases c1; done)
  all_goals try simp only [Bool.not_eq_true', Bool.not_eq_false', decide_eq_true_eq, decide_eq_false_iff_not] at c1
  all_goals apply zz
  apply zz
  refine Cd.ra (h := ?_)
  apply Run.by_eq
  · intro self
    conv => lhs; simp -implicitDefEqProofs (maxSteps := 300000) (disch := omega) [-getElem?_pos, -getElem?_neg]
  try (with_reducible refine Run.ret ?_)
  apply zz
  have y0 := (yb s.next (by omega))
  refine Cd.mono (Q := fun x f1 s1 => (x = Ex.ret ∧ f1.marks = [] ∧ f1.get 4 = .int .i64 5 ∧ (ws.all fun w => weekB n w) = false ∧ Keep s s1) ∨ (x = Ex.exit 0 ∧ f1.marks = [] ∧ f1.get 1 = .slice aw ws.length cw ∧ f1.get 2 = .pointer (some ⟨s.next, 0, none⟩) ∧ (∀ (j : Nat) (x : Int), ws[j]? = some x → weekB n x = true) ∧ Keep s s1 ∧ s.next < s1.next ∧ s1.heap.get s.next = some (.cells [.int .i64 n, .int .i64 lo, .int .i64 hi, .slice a ss.length c] none))) (Cd.inv (fun z f s' => ∃ k : Nat, k ≤ ws.length ∧ z = ws.length - k ∧ f.marks = [] ∧ f.get 1 = .slice aw ws.length cw ∧ f.get 2 = .pointer (some ⟨s.next, 0, none⟩) ∧ f.get 16 = .slice aw ws.length cw ∧ f.get 17 = .int .i64 ws.length ∧ f.get 18 = .int .i64 k ∧ Keep s s' ∧ s.next < s'.next ∧ s'.heap.get s.next = some (.cells [.int .i64 n, .int .i64 lo, .int .i64 hi, .slice a ss.length c] none) ∧ ∀ (j : Nat) (x : Int), j < k → ws[j]? = some x → weekB n x = true) ws.length ?_ ?_) ?_
  · exact ⟨0, by omega, rfl, by simp, by simp, by simp, by simp, by simp, by simp, ⟨by (try simp only [pushed_next', upded_next']); omega, fun i hi => by simp -implicitDefEqProofs (disch := omega) [yb]⟩, by (try simp only [pushed_next', upded_next']); omega, by simp -implicitDefEqProofs (disch := omega) [yb], fun j x h => by omega⟩
  · clear y ya yb y0
    rintro zz0 f s' ⟨k, hk, rfl, hm, g1, g2, g16, g17, g18, hkp, hnx, hg, hz⟩
    have hkpa := hkp.1
    have hkpb := hkp.2
    by_cases hlt : k < ws.length
    · obtain ⟨x, hx⟩ : ∃ x, ws[k]? = some x := ⟨ws[k], by simp [hlt]⟩
      obtain ⟨b, off, o, cs, gg, rfl, hb, ho, hc, ht⟩ := IntsAt.at (hw.keep hkp) hx
      apply zz
      refine Cd.ra (h := ?_)
      apply Run.by_eq
      · intro self
        conv => lhs; simp -implicitDefEqProofs (maxSteps := 300000) (disch := omega) [-getElem?_pos, -getElem?_neg, g18, g17]
      try (with_reducible refine Run.ret ?_)
      apply zz
      apply Cd.ite rfl
      · conv => lhs; simp -implicitDefEqProofs (maxSteps := 300000) (disch := omega) [-getElem?_pos, -getElem?_neg]
      all_goals intro c3
      all_goals try (cases c3; done)
      all_goals try simp only [Bool.not_eq_true', Bool.not_eq_false', decide_eq_true_eq, decide_eq_false_iff_not] at c3
      all_goals apply zz
      · apply zz
        refine Cd.ra (h := ?_)
        apply Run.by_eq
        · intro self
          conv => lhs; simp -implicitDefEqProofs (maxSteps := 300000) (disch := omega) [-getElem?_pos, -getElem?_neg, g18, g16, hlt, ho, hc, ht]
        try (with_reducible refine Run.ret ?_)
        apply zz
        refine Cd.ra (h := ?_)
        apply Run.by_eq
        · intro self
          conv => lhs; simp -implicitDefEqProofs (maxSteps := 300000) (disch := omega) [-getElem?_pos, -getElem?_neg, g2, hg]
        try (with_reducible refine Run.ret ?_)
        apply zz
        refine Run.call ((hwk x _).mono fun v wy hv => ?_)
        obtain ⟨rfl, y⟩ := hv
        have ya := y.1
        have yb := y.2
        try simp only [pushed_next', upded_next'] at ya yb
        cases hwx : weekB n x with
        | false =>
          apply Run.by_eq
          · intro self
            conv => lhs; simp -implicitDefEqProofs (maxSteps := 300000) (disch := omega) [-getElem?_pos, -getElem?_neg]
          try (with_reducible refine Run.ret ?_)
          apply zz
          apply Cd.ite rfl
          · conv => lhs; simp -implicitDefEqProofs (maxSteps := 300000) (disch := omega) [-getElem?_pos, -getElem?_neg]
          all_goals intro c4
          all_goals try (cases c4; done)
          all_goals try simp only [Bool.not_eq_true', Bool.not_eq_false', decide_eq_true_eq, decide_eq_false_iff_not] at c4
          all_goals apply zz
          apply zz
          refine Cd.ra (h := ?_)
          apply Run.by_eq
          · intro self
            conv => lhs; simp -implicitDefEqProofs (maxSteps := 300000) (disch := omega) [-getElem?_pos, -getElem?_neg]
          try (with_reducible refine Run.ret ?_)
          apply zz
          exact .inl ⟨rfl, by simp [hm], by simp, all_not hx hwx, ⟨by (try simp only [pushed_next', upded_next']); omega, fun i hi => by simp -implicitDefEqProofs (disch := omega) [yb, hkpb]⟩⟩
        | true =>
          apply Run.by_eq
          · intro self
            conv => lhs; simp -implicitDefEqProofs (maxSteps := 300000) (disch := omega) [-getElem?_pos, -getElem?_neg]
          try (with_reducible refine Run.ret ?_)
          apply zz
          apply Cd.ite rfl
          · conv => lhs; simp -implicitDefEqProofs (maxSteps := 300000) (disch := omega) [-getElem?_pos, -getElem?_neg]
          all_goals intro c4
          all_goals try (cases c4; done)
          all_goals try simp only [Bool.not_eq_true', Bool.not_eq_false', decide_eq_true_eq, decide_eq_false_iff_not] at c4
          all_goals apply zz
          apply zz
          refine Cd.ra (h := ?_)
          apply Run.by_eq
          · intro self
            conv => lhs; simp -implicitDefEqProofs (maxSteps := 300000) (disch := omega) [-getElem?_pos, -getElem?_neg, g18]
          try (with_reducible refine Run.ret ?_)
          apply zz
          refine LoopK.nm (ws.length - (k + 1)) (by omega) ⟨k + 1, by omega, rfl, by simp [hm], by simp [g1], by simp [g2], by simp [g16], by simp [g17], by simp, ⟨by (try simp only [pushed_next', upded_next']); omega, fun i hi => by simp -implicitDefEqProofs (disch := omega) [yb, hkpb]⟩, by omega, (yb _ (by omega)).trans hg, fun j y hj hy => ?_⟩
          by_cases e : j = k
          · subst e; rw [hx] at hy; cases hy; exact hwx
          · exact hz j y (by omega) hy
      · omega
    · obtain rfl : k = ws.length := by omega
      apply zz
      refine Cd.ra (h := ?_)
      apply Run.by_eq
      · intro self
        conv => lhs; simp -implicitDefEqProofs (maxSteps := 300000) (disch := omega) [-getElem?_pos, -getElem?_neg, g18, g17]
      try (with_reducible refine Run.ret ?_)
      apply zz
      apply Cd.ite rfl
      · conv => lhs; simp -implicitDefEqProofs (maxSteps := 300000) (disch := omega) [-getElem?_pos, -getElem?_neg]
      all_goals intro c3
      all_goals try (cases c3; done)
      all_goals try simp only [Bool.not_eq_true', Bool.not_eq_false', decide_eq_true_eq, decide_eq_false_iff_not] at c3
      all_goals apply zz
      exact .inr ⟨rfl, by simp [hm], by simp [g1], by simp [g2], fun j x hj => hz j x (List.getElem?_eq_some_iff.1 hj).1 hj, hkp, hnx, hg⟩
  clear y ya yb y0
  rintro x f1 s1 (⟨rfl, hm, g4, hall, hkp⟩ | ⟨rfl, hm, g1, g2, hz, hkp, hnx, hg⟩)
  · apply zz
    apply Leave.mk (by first | exact .inl rfl | exact .inr rfl) (by simp only [Fr.marks_put, fr0_marks, hm, g4])
    · conv => lhs; simp -implicitDefEqProofs (disch := omega) [Try.results22, hm, g4]
    exact ⟨by unfold verIn; rw [if_pos h2, if_neg (by rw [hall]; decide)]; rfl, hkp⟩
  have hkpa := hkp.1
  have hkpb := hkp.2
  obtain ⟨⟨hn1, hn30⟩, hr, _, hss⟩ := fieldErr_ok h1
  obtain ⟨m, rfl⟩ : ∃ m : Nat, n = m := ⟨n.toNat, by omega⟩
  have hI : verIn m (clashB (bndN (m : Int).toNat lo hi ss).1 (bndN (m : Int).toNat lo hi ss).2) ws = if clashB (bndN m lo hi ss).1 (bndN m lo hi ss).2 (ws.getD 0 0).toNat (ws.getD 1 0).toNat (ws.getD 2 0).toNat = true then 0 else 11 := by
    unfold verIn; rw [if_pos h2, if_pos (all_at hz), Int.toNat_natCast]
  rw [hI]
  obtain ⟨i, j, k, e0⟩ : ∃ i j k : Int, ws = [i, j, k] := by
    match ws, h2 with
    | [i, j, k], _ => exact ⟨i, j, k, rfl⟩
  subst e0
  have w0 := weekB_ok (hz 0 i rfl)
  have w1 := weekB_ok (hz 1 j rfl)
  have w2 := weekB_ok (hz 2 k rfl)
  obtain ⟨i, rfl⟩ : ∃ q : Nat, i = q := ⟨i.toNat, by omega⟩
  obtain ⟨j, rfl⟩ : ∃ q : Nat, j = q := ⟨j.toNat, by omega⟩
  obtain ⟨k, rfl⟩ : ∃ q : Nat, k = q := ⟨k.toNat, by omega⟩
  obtain ⟨b, off, o, cs, gg, rfl, hb, ho, hc, ht0⟩ := IntsAt.at (hw.keep hkp) (k := 0) (x := i) rfl
  obtain ⟨b', off', o', cs', gg', e', hb', ho', hc', ht1⟩ := IntsAt.at (hw.keep hkp) (k := 1) (x := j) rfl
  cases e'
  rw [ho] at ho'; cases ho'
  rw [hc] at hc'; cases hc'
  obtain ⟨b', off', o', cs', gg', e', hb', ho', hc', ht2⟩ := IntsAt.at (hw.keep hkp) (k := 2) (x := k) rfl
  cases e'
  rw [ho] at ho'; cases ho'
  rw [hc] at hc'; cases hc'
  simp only [List.getD_cons_zero, List.getD_cons_succ, Int.toNat_natCast, List.length_cons, List.length_nil] at g1 ⊢
  have hW := fun w hw => (List.take_length (l := ss) ▸ bnd_all (n := m) h1 ss.length w hw : _)
  rw [Nat.add_zero] at ht0
  have va : veq 4 (Value.slice a ss.length c) (Value.slice a ss.length c) = true := slAt_veq hs 3
  apply zz
  refine Cd.drawn (pl := [(0, 0, false, false), (2, 0, false, false), (3, 4, false, false), (4, 12, false, false), (5, 0, false, false), (6, 32, false, false), (7, 96, false, false), (8, 0, false, false), (9, 256, false, false), (10, 768, false, false), (1, 1, true, false), (11, 2047, true, false), (12, 4095, false, false)]) (by kernel_rfl) (by conv => lhs; simp only [List.map_cons, List.map_nil]) (by conv => lhs; simp [strip, ordered]) ?_
  apply Run.by_eq
  · intro self
    conv => lhs; simp -implicitDefEqProofs (maxSteps := 300000) (disch := omega) [filter_bt, (show ∀ i, Nat.testBit 1 i = decide (i < 1) from fun i => Nat.testBit_two_pow_sub_one 1 i), (show ∀ i, Nat.testBit 2047 i = decide (i < 11) from fun i => Nat.testBit_two_pow_sub_one 11 i), -getElem?_pos, -getElem?_neg, g1, g2, hg, ho, hc, ht0, ht1, ht2, va]
  try (with_reducible refine Run.ret ?_)
  apply zz
  refine Run.call ((hbo m rfl _ (hs.keep ⟨by (try simp only [pushed_next', upded_next']); omega, fun i hi => by simp -implicitDefEqProofs (disch := omega) [hkpb]⟩) h1).mono fun v wy hv => ?_)
  obtain ⟨rfl, y⟩ := hv
  have ya := y.1
  have yb := y.2
  try simp only [pushed_next', upded_next'] at ya yb
  have yo : wy.heap.get b = some o := by rw [yb b (by omega)]; exact ho
  apply Run.by_eq
  · intro self
    conv => lhs; simp -implicitDefEqProofs (maxSteps := 300000) (disch := omega) [-getElem?_pos, -getElem?_neg, yo, hc, ht0, ht1, ht2]
  try (with_reducible refine Run.ret ?_)
  apply zz
  refine Run.call ((clashIn_ev _ m _ _ i j k _ (bOk m (bndN m lo hi ss).1 (bndN m lo hi ss).2) (by omega) (by omega) (by omega) (by omega) hW).mono fun v wz hv => ?_)
  obtain ⟨rfl, z⟩ := hv
  have za := z.1
  have zb := z.2
  try simp only [pushed_next', upded_next'] at za zb
  cases hcl : clashB (bndN m lo hi ss).1 (bndN m lo hi ss).2 i j k with
  | false =>
    apply Run.by_eq
    · intro self
      conv => lhs; simp -implicitDefEqProofs (maxSteps := 300000) (disch := omega) [-getElem?_pos, -getElem?_neg]
    try (with_reducible refine Run.ret ?_)
    apply zz
    apply Cd.ite rfl
    · conv => lhs; simp -implicitDefEqProofs (maxSteps := 300000) (disch := omega) [-getElem?_pos, -getElem?_neg]
    all_goals intro c5
    all_goals try (cases c5; done)
    all_goals try simp only [Bool.not_eq_true', Bool.not_eq_false', decide_eq_true_eq, decide_eq_false_iff_not] at c5
    all_goals apply zz
    apply zz
    refine Cd.ra (h := ?_)
    apply Run.by_eq
    · intro self
      conv => lhs; simp -implicitDefEqProofs (maxSteps := 300000) (disch := omega) [-getElem?_pos, -getElem?_neg]
    try (with_reducible refine Run.ret ?_)
    apply zz
    apply Leave.mk (by first | exact .inl rfl | exact .inr rfl) (by simp only [Fr.marks_put, fr0_marks, hm])
    · conv => lhs; simp -implicitDefEqProofs (disch := omega) [Try.results22, hm]
    exact ⟨by simp, ⟨by (try simp only [pushed_next', upded_next']); omega, fun i hi => by simp -implicitDefEqProofs (disch := omega) [zb, yb, hkpb]⟩⟩
  | true =>
    apply Run.by_eq
    · intro self
      conv => lhs; simp -implicitDefEqProofs (maxSteps := 300000) (disch := omega) [-getElem?_pos, -getElem?_neg]
    try (with_reducible refine Run.ret ?_)
    apply zz
    apply Cd.ite rfl
    · conv => lhs; simp -implicitDefEqProofs (maxSteps := 300000) (disch := omega) [-getElem?_pos, -getElem?_neg]
    all_goals intro c5
    all_goals try (cases c5; done)
    all_goals try simp only [Bool.not_eq_true', Bool.not_eq_false', decide_eq_true_eq, decide_eq_false_iff_not] at c5
    all_goals apply zz
    apply zz
    refine Cd.ra (h := ?_)
    apply Run.by_eq
    · intro self
      conv => lhs; simp -implicitDefEqProofs (maxSteps := 300000) (disch := omega) [-getElem?_pos, -getElem?_neg]
    try (with_reducible refine Run.ret ?_)
    apply zz
    apply Leave.mk (by first | exact .inl rfl | exact .inr rfl) (by simp only [Fr.marks_put, fr0_marks, hm])
    · conv => lhs; simp -implicitDefEqProofs (disch := omega) [Try.results22, hm]
    exact ⟨by simp, ⟨by (try simp only [pushed_next', upded_next']); omega, fun i hi => by simp -implicitDefEqProofs (disch := omega) [zb, yb, hkpb]⟩⟩
end Go.Proofs.Ytnhokodcmeekhaa
namespace Go.Proofs.Ytnhokodcmeekhaa
open Go Kern
/-! The reference's Verify -/
def rverF (n lo hi : Int) (ss : List SampD) (ws : List Int) : Int :=
  if fieldErr n lo hi ss = 0 then verIn n (holdsB (fun w => (endN lo hi ss w).1) (fun w => (endN lo hi ss w).2)) ws else fieldErr n lo hi ss
end Go.Proofs.Ytnhokodcmeekhaa
namespace Go.Proofs.Ytnhokodcmeekhaa
open Go Kern
/-! The lows and highs of the program are those of the reference -/
theorem fore_one {bf : Frac → Frac → Bool} (a f : Frac) : foreF bf a [f] = if bf f a = true then f else a := rfl
theorem above_ones (x y : Int) : aboveB ⟨x, 1⟩ ⟨y, 1⟩ = decide (y < x) := by
  unfold aboveB
  simp only [Int.mul_one]
theorem bndS_end {n : Nat} {p : (Nat → Frac) × (Nat → Frac)} {q : Nat → Int × Int} {x : SampD} (hp : ∀ w, w < n → p.1 w = ⟨(q w).1, 1⟩ ∧ p.2 w = ⟨(q w).2, 1⟩) (hx : 0 ≤ x.week ∧ x.week < n) :
    ∀ w, w < n → (bndS p x).1 w = ⟨(endS w (q w) x).1, 1⟩ ∧ (bndS p x).2 w = ⟨(endS w (q w) x).2, 1⟩ := by
  intro w hw
  unfold bndS endS updF
  by_cases e : x.week = w
  · have e2 : w = x.week.toNat := by omega
    obtain ⟨h1, h2⟩ := hp w hw
    simp only [if_pos e, if_pos e2, ← e2, h1, h2, fore_one, belowB, above_ones]
    constructor
    · rw [if_pos trivial]
      by_cases h : (q w).1 < x.val - x.off
      · rw [if_pos (by simpa using h), Int.max_eq_right (by omega)]
      · rw [if_neg (by simpa using h), Int.max_eq_left (by omega)]
    · rw [if_pos trivial]
      by_cases h : x.val + x.off < (q w).2
      · rw [if_pos (by simpa using h), Int.min_eq_right (by omega)]
      · rw [if_neg (by simpa using h), Int.min_eq_left (by omega)]
  · have e2 : ¬ w = x.week.toNat := by omega
    simp only [if_neg e, if_neg e2]
    exact hp w hw
theorem bnd_end_fold {n : Nat} : ∀ (ss : List SampD) (p : (Nat → Frac) × (Nat → Frac)) (q : Nat → Int × Int), (∀ w, w < n → p.1 w = ⟨(q w).1, 1⟩ ∧ p.2 w = ⟨(q w).2, 1⟩) → (∀ x ∈ ss, sampErr n x = 0) → ∀ w, w < n → (ss.foldl bndS p).1 w = ⟨(ss.foldl (endS w) (q w)).1, 1⟩ ∧ (ss.foldl bndS p).2 w = ⟨(ss.foldl (endS w) (q w)).2, 1⟩
  | [], _, _, h, _ => h
  | x :: r, p, q, h, hx => bnd_end_fold r (bndS p x) (fun w => endS w (q w) x) (bndS_end h (sampErr_ok (hx x (.head _))).1) fun y hy => hx y (.tail _ hy)
theorem bnd_end {n : Nat} {lo hi : Int} {ss : List SampD} (h : fieldErr n lo hi ss = 0) (w : Nat) (hw : w < n) : (bndN n lo hi ss).1 w = ⟨(endN lo hi ss w).1, 1⟩ ∧ (bndN n lo hi ss).2 w = ⟨(endN lo hi ss w).2, 1⟩ := by
  obtain ⟨_, _, _, h2⟩ := fieldErr_ok h
  refine bnd_end_fold ss _ (fun _ => (lo, hi)) (fun w hw => ?_) h2 w hw
  simp [iniF, hw]
theorem clash_holds {n : Nat} {L H : Nat → Frac} {L' H' : Nat → Int} (h : ∀ w, w < n → L w = ⟨L' w, 1⟩ ∧ H w = ⟨H' w, 1⟩) {i j k : Nat} (hi : i < n) (hj : j < n) (hk : k < n) : clashB L H i j k = holdsB L' H' i j k := by
  unfold clashB holdsB
  rw [(h i hi).1, (h j hj).1, (h k hk).1, (h j hj).2]
  split
  · rename_i e
    obtain ⟨rfl, rfl⟩ := e
    exact above_ones _ _
  · by_cases h1 : i < j
    · by_cases h2 : j < k
      · rw [decide_eq_true h1, decide_eq_true h2]
        unfold lineF lineO aboveB
        rw [if_neg (by omega)]
        simp only [Int.mul_one, Int.one_mul]
      · rw [decide_eq_false h2, Bool.false_and, Bool.false_and]
    · rw [decide_eq_false h1, Bool.false_and, Bool.false_and]
theorem verF_eq (n lo hi : Int) (ss : List SampD) (ws : List Int) : verF n lo hi ss ws = rverF n lo hi ss ws := by
  unfold verF rverF
  by_cases h : fieldErr n lo hi ss = 0
  · rw [if_pos h, if_pos h]
    obtain ⟨⟨hn1, _⟩, _⟩ := fieldErr_ok h
    obtain ⟨m, rfl⟩ : ∃ m : Nat, n = m := ⟨n.toNat, by omega⟩
    unfold verIn
    by_cases h2 : ws.length = 3
    · rw [if_pos h2, if_pos h2]
      by_cases h3 : (ws.all fun w => weekB m w) = true
      · rw [if_pos h3, if_pos h3]
        obtain ⟨i, j, k, rfl⟩ : ∃ i j k : Int, ws = [i, j, k] := by
          match ws, h2 with
          | [i, j, k], _ => exact ⟨i, j, k, rfl⟩
        have hz := List.all_eq_true.1 h3
        have w0 := weekB_ok (hz i (by simp))
        have w1 := weekB_ok (hz j (by simp))
        have w2 := weekB_ok (hz k (by simp))
        simp only [List.getD_cons_zero, List.getD_cons_succ]
        rw [Int.toNat_natCast, clash_holds (bnd_end h) (by omega) (by omega) (by omega)]
      · rw [if_neg h3, if_neg h3]
    · rw [if_neg h2, if_neg h2]
  · rw [if_neg h, if_neg h]
end Go.Proofs.Ytnhokodcmeekhaa
namespace Go.Proofs.Ytnhokodcmeekhaa
open Go Kern
/-! The reference's clash -/
@[simp] theorem newObj_41 {f : Fr} {pl0 : Array (Nat × Operand)} : Kern.newObj TT (.buildSlice 41 3 pl0) f = ob (fillL f.eval (placesA 1 pl0.toList) (repeatL [.int .i64 0] 3)) fun c => some (.cells c none) :=
  newObj_buildSlice 41 3 pl0 und_41 size_3 zero_3 rfl
@[simp] theorem three_1 (a : Value) : overL [a] (repeatL [Value.int .i64 0] 3) = some [a, .int .i64 0, .int .i64 0] := rfl
@[simp] theorem three_2 (a b z : Value) : putL 1 [b] [a, z, z] = some [a, b, z] := rfl
@[simp] theorem three_3 (a b c z : Value) : putL 2 [c] [a, b, z] = some [a, b, c] := rfl
/-- Three weeks in a block of their own, of which something is true. -/
def Trip (n : Nat) (C : Nat → Nat → Nat → Bool) (r : Value) (s : St) : Prop :=
  ∃ i j k : Nat, i < n ∧ j < n ∧ k < n ∧ C i j k = true ∧ ∃ b, r = .slice (some ⟨b, 0, none⟩) 3 3 ∧ b < s.next ∧ s.heap.get b = some (.cells [.int .i64 i, .int .i64 j, .int .i64 k] none)
theorem Trip.ints {n : Nat} {C : Nat → Nat → Nat → Bool} {r : Value} {s : St} (h : Trip n C r s) : ∃ i j k : Nat, i < n ∧ j < n ∧ k < n ∧ C i j k = true ∧ IntsAt s r [(i : Int), (j : Int), (k : Int)] ∧ ∃ a, r = .slice (some a) 3 3 := by
  obtain ⟨i, j, k, h1, h2, h3, h4, b, rfl, h5, h6⟩ := h
  exact ⟨i, j, k, h1, h2, h3, h4, ints_of_cells (xs := [(i : Int), (j : Int), (k : Int)]) h5 h6, _, rfl⟩
end Go.Proofs.Ytnhokodcmeekhaa
namespace Go.Proofs.Ytnhokodcmeekhaa
open Go Kern
/-! The reference's Clash -/
/-- What Clash answers: weeks and an error. -/
def ClashA (e0 : Int) (n : Nat) (C : Nat → Nat → Nat → Bool) (w : Value) (e : Int) (s : St) : Prop :=
  (e0 ≠ 0 ∧ e = e0 ∧ w = .slice none 0 0) ∨ (e0 = 0 ∧ e = 5 ∧ w = .slice none 0 0 ∧ ∀ i j k, i < n → j < n → k < n → C i j k = false) ∨ (e0 = 0 ∧ e = 0 ∧ Trip n C w s)
end Go.Proofs.Ytnhokodcmeekhaa
namespace Go.Proofs.Ytnhokodcmeekhaa
open Go Kern
/-! Many marks; the closure of across -/
theorem leave_many : ∀ (ms : List Nat) (s : St), ms.Nodup → (∀ m ∈ ms, s.heap.get m = some (.deferred true)) → ∃ s', leaveF ms s = some s' ∧ s'.next = s.next ∧ ∀ i, i ∉ ms → s'.heap.get i = s.heap.get i
  | [], s, _, _ => ⟨s, rfl, rfl, fun _ _ => rfl⟩
  | m :: ms, s, hn, h => by
    obtain ⟨hn1, hn2⟩ := List.nodup_cons.1 hn
    have hg := h m (.head _)
    obtain ⟨s', h1, h2, h3⟩ := leave_many ms (s.upded m .dead) hn2 fun x hx => by
      have hx2 := h x (.tail _ hx)
      have e : x ≠ m := fun e => hn1 (e ▸ hx)
      simp -implicitDefEqProofs [hx2, e]
    refine ⟨s', ?_, h2, fun i hi => ?_⟩
    · show ob (s.heap.get m) (fun o => gd (isLive o) (ob (s.upd m .dead) fun s => leaveF ms s)) = _
      rw [hg]
      show ob (gd (bt (romAt s.heap m) false true) _) _ = _
      rw [romAt_some hg]
      exact h1
    · have hi1 : i ≠ m := fun e => hi (e ▸ .head _)
      rw [h3 i fun h => hi (.tail _ h)]
      simp -implicitDefEqProofs [hi1]
theorem Leave.many {T : Tab} {rs : List ResultVar} {Q : Value → St → Prop} {e : Ex} {f : Fr} {s : St} (he : e = .normal ∨ e = .ret) (hn : f.marks.Nodup) (hm : ∀ m ∈ f.marks, s.heap.get m = some (.deferred true))
    (h : ∀ s', s'.next = s.next → (∀ i, i ∉ f.marks → s'.heap.get i = s.heap.get i) → ∃ vs, resF T f s' rs = some vs ∧ Q (tupled vs) s') : Leave T rs Q e f s := by
  obtain ⟨s', h1, h2, h3⟩ := leave_many f.marks s hn hm
  exact ⟨he, s', h1, h s' h2 h3⟩
set_option maxRecDepth 100000 in
set_option maxHeartbeats 4000000 in
theorem acrossOf_ev (BC : List Value) (n w : Nat) (L H : Nat → Frac) (s : St) (hB : BOk BC n L H) : Ev TT 69 [.agg BC.toArray, .int .i64 w] s fun r s' => r = .func (.func 84) #[] #[.pointer (some ⟨s.next + 1, 0, none⟩), .pointer (some ⟨s.next, 0, none⟩)] ∧ Keep s s' ∧ s.next + 1 < s'.next ∧ s'.heap.get s.next = some (.cells BC none) ∧ s'.heap.get (s.next + 1) = some (.cells [.int .i64 w] none) := by
  have h2 := hB.len
  have h3 := hB.ones
  refine Ev.intro (fn := Try.f69) rfl (by kernel_rfl) rfl rfl ?_
  apply zz
  refine Cd.ra (h := ?_)
  apply Run.by_eq
  · intro self
    conv => lhs; simp -implicitDefEqProofs (maxSteps := 300000) (disch := omega) [-getElem?_pos, -getElem?_neg, h2, h3]
  try (with_reducible refine Run.ret ?_)
  apply zz
  refine Cd.ra (h := ?_)
  apply Run.by_eq
  · intro self
    conv => lhs; simp -implicitDefEqProofs (maxSteps := 300000) (disch := omega) [-getElem?_pos, -getElem?_neg]
  try (with_reducible refine Run.ret ?_)
  apply zz
  apply Leave.mk (by first | exact .inl rfl | exact .inr rfl) (by simp only [Fr.marks_put, fr0_marks])
  · conv => lhs; simp -implicitDefEqProofs (disch := omega) [Try.results69]
  refine ⟨rfl, ⟨by (try simp only [pushed_next', upded_next']); omega, fun i hi => by simp -implicitDefEqProofs (disch := omega) []⟩, by simp, ?_, ?_⟩
  · simp -implicitDefEqProofs (disch := omega)
  · simp -implicitDefEqProofs (disch := omega)
end Go.Proofs.Ytnhokodcmeekhaa
namespace Go.Proofs.Ytnhokodcmeekhaa
open Go Kern
/-! The program's clash -/
theorem veq_yield (k l : Nat) : veq (k + 1) (.func (.yield l) #[] #[]) (.func (.yield l) #[] #[]) = true := by
  simp [veq]
def NoneIn (n : Nat) (C : Nat → Nat → Nat → Bool) (w : Nat) : Prop := C w w w = false ∧ ∀ i k, i < w → w < k → k < n → C i w k = false
def MarksOk (s : St) (f : Fr) (s1 : St) : Prop := f.marks.Nodup ∧ ∀ m ∈ f.marks, s.next + 1 < m ∧ m < s1.next ∧ s1.heap.get m = some (.deferred true)
def Found (n : Nat) (C : Nat → Nat → Nat → Bool) (s : St) (f : Fr) (s1 : St) : Prop :=
  MarksOk s f s1 ∧ f.get 2 = .pointer (some ⟨s.next + 1, 0, none⟩) ∧ Keep s s1 ∧ s.next + 1 < s1.next ∧ ∃ v, s1.heap.get (s.next + 1) = some (.cells [v] none) ∧ Trip n C v s1
set_option maxRecDepth 100000 in
set_option maxHeartbeats 4000000 in
theorem clash_ev (BC : List Value) (n : Nat) (L H : Nat → Frac) (s : St) (hB : BOk BC n L H) (hn : n ≤ 30) (hW : ∀ w, w < n → Whole (L w) ∧ Whole (H w)) :
    Ev TT 55 [.agg BC.toArray] s fun r s' => Keep s s' ∧ ((r = .slice none 0 0 ∧ ∀ w, w < n → NoneIn n (clashB L H) w) ∨ Trip n (clashB L H) r s') := by
  have h2 := hB.len
  have h3 := hB.ones
  have h1 := takeL_len h2
  have hS := hB.same
  have hwk : BC[0]? = some (.int .i64 n) := hB.wk
  refine Ev.intro (fn := Try.f55) rfl (by kernel_rfl) rfl rfl ?_
  apply zz
  refine Cd.ra (h := ?_)
  apply Run.by_eq
  · intro self
    conv => lhs; simp -implicitDefEqProofs (maxSteps := 300000) (disch := omega) [-getElem?_pos, -getElem?_neg, h2, h3]
  try (with_reducible refine Run.ret ?_)
  apply zz
  refine Cd.ra (h := ?_)
  apply Run.by_eq
  · intro self
    conv => lhs; simp -implicitDefEqProofs (maxSteps := 300000) (disch := omega) [-getElem?_pos, -getElem?_neg, hwk]
  try (with_reducible refine Run.ret ?_)
  apply zz
  refine Cd.mono (Q := fun x f1 s1 => (x = Ex.ret ∧ Found n (clashB L H) s f1 s1) ∨ (x = Ex.exit 0 ∧ MarksOk s f1 s1 ∧ f1.get 2 = .pointer (some ⟨s.next + 1, 0, none⟩) ∧ Keep s s1 ∧ s.next + 1 < s1.next ∧ s1.heap.get (s.next + 1) = some (.cells [.slice none 0 0] none) ∧ ∀ w, w < n → NoneIn n (clashB L H) w)) (Cd.inv (fun z f s' => ∃ w : Nat, w ≤ n ∧ z = n - w ∧ MarksOk s f s' ∧ f.get 1 = .pointer (some ⟨s.next, 0, none⟩) ∧ f.get 2 = .pointer (some ⟨s.next + 1, 0, none⟩) ∧ f.get 6 = .int .i64 n ∧ f.get 7 = .int .i64 w ∧ Keep s s' ∧ s.next + 1 < s'.next ∧ s'.heap.get s.next = some (.cells BC none) ∧ s'.heap.get (s.next + 1) = some (.cells [.slice none 0 0] none) ∧ ∀ x, x < w → NoneIn n (clashB L H) x) n ?_ ?_) ?_
  · refine ⟨0, by omega, rfl, ⟨by simp, fun m h => by simp at h⟩, by simp, by simp, by simp, by simp, ⟨by (try simp only [pushed_next', upded_next']); omega, fun i hi => by simp -implicitDefEqProofs (disch := omega) []⟩, by simp, ?_, ?_, fun x h => by omega⟩
    · simp -implicitDefEqProofs (disch := omega)
    · simp -implicitDefEqProofs (disch := omega)
  · rintro z f s1 ⟨w, hw, rfl, hM, g1, g2, g6, g7, hkp, hnx, hb0, hb1, hz⟩
    have hkpa := hkp.1
    have hkpb := hkp.2
    by_cases hlt : w < n
    · have hlt' : (w : Int) < n := by omega
      apply zz
      refine Cd.ra (h := ?_)
      apply Run.by_eq
      · intro self
        conv => lhs; simp -implicitDefEqProofs (maxSteps := 300000) (disch := omega) [-getElem?_pos, -getElem?_neg, g7, g6, hlt']
      try (with_reducible refine Run.ret ?_)
      apply zz
      apply Cd.ite rfl
      · conv => lhs; simp -implicitDefEqProofs (maxSteps := 300000) (disch := omega) [-getElem?_pos, -getElem?_neg]
      all_goals intro c3
      all_goals try (cases c3; done)
      all_goals try simp only [Bool.not_eq_true', Bool.not_eq_false', decide_eq_true_eq, decide_eq_false_iff_not] at c3
      all_goals apply zz
      apply zz
      refine Cd.ra (h := ?_)
      apply Run.by_eq
      · intro self
        conv => lhs; simp -implicitDefEqProofs (maxSteps := 300000) (disch := omega) [-getElem?_pos, -getElem?_neg, g7]
      try (with_reducible refine Run.ret ?_)
      apply zz
      refine Cd.ra (h := ?_)
      apply Run.by_eq
      · intro self
        conv => lhs; simp -implicitDefEqProofs (maxSteps := 300000) (disch := omega) [-getElem?_pos, -getElem?_neg, g1, hb0, h1, hS]
      try (with_reducible refine Run.ret ?_)
      apply zz
      refine Run.call ((clashIn_ev BC n L H w w w _ hB hn hlt hlt hlt hW).mono fun v wy hv => ?_)
      obtain ⟨rfl, y⟩ := hv
      have ya := y.1
      have yb := y.2
      try simp only [pushed_next', upded_next'] at ya yb
      have y0 : wy.heap.get s.next = some (.cells BC none) := by rw [yb s.next (by (try simp only [pushed_next', upded_next']); omega)]; simp -implicitDefEqProofs (disch := omega) [hb0]
      have y1 : wy.heap.get (s.next + 1) = some (.cells [.slice none 0 0] none) := by rw [yb (s.next + 1) (by (try simp only [pushed_next', upded_next']); omega)]; simp -implicitDefEqProofs (disch := omega) [hb1]
      have y3 : wy.heap.get s1.next = some (.cells [.int .i64 w] none) := by rw [yb s1.next (by (try simp only [pushed_next', upded_next']); omega)]; simp -implicitDefEqProofs (disch := omega)
      have yo : ∀ i, i < s1.next → wy.heap.get i = s1.heap.get i := fun i hi => by rw [yb i (by (try simp only [pushed_next', upded_next']); omega)]; simp -implicitDefEqProofs (disch := omega)
      (try simp only [pushed_next', upded_next'] at ya)
      cases hc : clashB L H w w w with
      | true =>
        apply Run.by_eq
        · intro self
          conv => lhs; simp -implicitDefEqProofs (maxSteps := 300000) (disch := omega) [-getElem?_pos, -getElem?_neg, y3]
        try (with_reducible refine Run.ret ?_)
        apply zz
        apply Cd.ite rfl
        · conv => lhs; simp -implicitDefEqProofs (maxSteps := 300000) (disch := omega) [-getElem?_pos, -getElem?_neg]
        all_goals intro c4
        all_goals try (cases c4; done)
        all_goals try simp only [Bool.not_eq_true', Bool.not_eq_false', decide_eq_true_eq, decide_eq_false_iff_not] at c4
        all_goals apply zz
        apply zz
        refine Cd.ra (h := ?_)
        apply Run.by_eq
        · intro self
          conv => lhs; simp -implicitDefEqProofs (maxSteps := 300000) (disch := omega) [-getElem?_pos, -getElem?_neg, y3, g2, y1]
        try (with_reducible refine Run.ret ?_)
        apply zz
        refine .inl ⟨rfl, ⟨by simpa using hM.1, fun m hm => ?_⟩, by simp [g2], ⟨by (try simp only [pushed_next', upded_next']); omega, fun i hi => by simp -implicitDefEqProofs (disch := omega) [yb, hkpb]⟩, by (try simp only [pushed_next', upded_next']); omega, .slice (some ⟨wy.next, 0, none⟩) 3 3, by simp -implicitDefEqProofs (disch := omega), w, w, w, hlt, hlt, hlt, hc, wy.next, rfl, by simp, by simp -implicitDefEqProofs (disch := omega)⟩
        obtain ⟨a1, a2, a3⟩ := hM.2 m (by simpa using hm)
        refine ⟨a1, by (try simp only [pushed_next', upded_next']); omega, ?_⟩
        simp -implicitDefEqProofs (disch := omega) [yo m a2, a3]
      | false =>
        apply Run.by_eq
        · intro self
          conv => lhs; simp -implicitDefEqProofs (maxSteps := 300000) (disch := omega) [-getElem?_pos, -getElem?_neg, y3]
        try (with_reducible refine Run.ret ?_)
        apply zz
        apply Cd.ite rfl
        · conv => lhs; simp -implicitDefEqProofs (maxSteps := 300000) (disch := omega) [-getElem?_pos, -getElem?_neg]
        all_goals intro c4
        all_goals try (cases c4; done)
        all_goals try simp only [Bool.not_eq_true', Bool.not_eq_false', decide_eq_true_eq, decide_eq_false_iff_not] at c4
        all_goals apply zz
        apply zz
        refine Cd.ra (h := ?_)
        apply Run.by_eq
        · intro self
          conv => lhs; simp -implicitDefEqProofs (maxSteps := 300000) (disch := omega) [-getElem?_pos, -getElem?_neg, g1, y0, h1, hS, y3]
        try (with_reducible refine Run.ret ?_)
        apply zz
        refine Run.call ((acrossOf_ev BC n w L H _ hB).mono fun v wu hv => ?_)
        obtain ⟨rfl, u, un, u0, u1⟩ := hv
        have ub := u.2
        have ua := u.1
        apply Run.by_eq
        · intro self
          conv => lhs; simp -implicitDefEqProofs (maxSteps := 300000) (disch := omega) [-getElem?_pos, -getElem?_neg]
        try (with_reducible refine Run.ret ?_)
        apply zz
        refine Cd.rangeJ (gi := 84) (first := #[]) (captured := #[.pointer (some ⟨wy.next + 1, 0, none⟩), .pointer (some ⟨wy.next, 0, none⟩)]) rfl (by simp) ?_
        generalize hR : ALoop.mk true none _ _ _ _ _ = R0
        show Ev TT 84 [.func (.yield (wu.next + 1)) #[] #[], .pointer (some ⟨wy.next + 1, 0, none⟩), .pointer (some ⟨wy.next, 0, none⟩)] _ _
        have x0 := (ub s.next (by omega)).trans y0
        have x1 := (ub (s.next + 1) (by omega)).trans y1
        have x3 := (ub s1.next (by omega)).trans y3
        refine (across_ev n w L H BC (.func (.yield (wu.next + 1)) #[] #[]) (wy.next + 1) wy.next _ (fun i => i = s.next + 1 ∨ i = wu.next + 1)
          (fun s2 => s2.heap.get (wu.next + 1) = some (.loop R0) ∧ s2.heap.get s.next = some (.cells BC none) ∧ s2.heap.get (s.next + 1) = some (.cells [.slice none 0 0] none) ∧ s2.heap.get s1.next = some (.cells [.int .i64 w] none) ∧ wu.next + 1 < s2.next)
          (fun i k => clashB L H i w k = false)
          (fun i k s2 => s2.heap.get (wu.next + 1) = some (.loop ⟨false, some .ret, R0.n, R0.tmps, R0.params, R0.assign, R0.body⟩) ∧ clashB L H i w k = true ∧ wu.next + 1 < s2.next ∧ ∃ b, s2.heap.get (s.next + 1) = some (.cells [.slice (some ⟨b, 0, none⟩) 3 3] none) ∧ b < s2.next ∧ s2.heap.get b = some (.cells [.int .i64 i, .int .i64 w, .int .i64 k] none) ∧ b ≠ wu.next + 1)
          hB hn hlt ?_ ?_ ?_ ?_ ?_ ?_ ?_ ?_ ?_ ?_ ?_).mono fun _ s2 hres => ?_
        · simp only [pushed_next']; omega
        · simp only [pushed_next']; omega
        · simp -implicitDefEqProofs (disch := omega) [u1]
        · simp -implicitDefEqProofs (disch := omega) [u0]
        · rintro i (rfl | rfl) <;> simp only [pushed_next'] <;> omega
        · rintro (h | h) <;> omega
        · rintro (h | h) <;> omega
        · exact veq_yield _ _
        · refine ⟨?_, ?_, ?_, ?_, ?_⟩
          · simp -implicitDefEqProofs (disch := omega)
          · simp -implicitDefEqProofs (disch := omega) [x0]
          · simp -implicitDefEqProofs (disch := omega) [x1]
          · simp -implicitDefEqProofs (disch := omega) [x3]
          · simp
        · rintro sa sb ⟨j0, j1, j2, j3, j4⟩ hn1 hsame
          simp only [pushed_next'] at hsame
          exact ⟨(hsame _ (by omega)).trans j0, (hsame _ (by omega)).trans j1, (hsame _ (by omega)).trans j2, (hsame _ (by omega)).trans j3, by omega⟩
        · rintro i k sa hi hk hkn ⟨j0, j1, j2, j3, j4⟩ hsn hbx
          simp only [pushed_next'] at hsn
          show Evn TT (fun self => exRound self (wu.next + 1) _ sa) _
          subst hR
          refine Evn.roundJ j0 rfl ?_
          show Cd TT true _ _ ((Fr.mk _ []).put (some 22) _) _ _
          dsimp only
          apply zz
          refine Cd.ra (h := ?_)
          apply Run.by_eq
          · intro self
            conv => lhs; simp -implicitDefEqProofs (maxSteps := 300000) (disch := omega) [-getElem?_pos, -getElem?_neg, Fr.get_mk]
          try (with_reducible refine Run.ret ?_)
          apply zz
          have jl : ∀ (c d : AObj), ((sa.pushed c).upded sa.next d).heap.get (wu.next + 1) = sa.heap.get (wu.next + 1) := fun c d => by simp -implicitDefEqProofs (disch := omega)
          refine ⟨rfl, _, (jl _ _).trans j0, rfl, rfl, ?_⟩
          dsimp only
          generalize hLf : ALoop.mk false none _ _ _ _ _ = Lf
          apply zz
          refine Cd.ra (h := ?_)
          apply Run.by_eq
          · intro self
            conv => lhs; simp -implicitDefEqProofs (maxSteps := 300000) (disch := omega) [-getElem?_pos, -getElem?_neg, Fr.get_mk, g1, j1, j3, h1, hS]
          try (with_reducible refine Run.ret ?_)
          apply zz
          refine Run.call ((clashIn_ev BC n L H i w k _ hB hn (by omega) hlt hkn hW).mono fun v wp hv => ?_)
          obtain ⟨rfl, p⟩ := hv
          have pa := p.1
          have pb := p.2
          try simp only [pushed_next', upded_next'] at pa pb
          (try simp only [pushed_next', upded_next'] at pa)
          have hlp : wp.heap.get (wu.next + 1) = some (.loop Lf) := by rw [pb _ (by (try simp only [pushed_next', upded_next']); omega)]; simp -implicitDefEqProofs (disch := omega)
          have p0 : wp.heap.get s.next = some (.cells BC none) := by rw [pb _ (by (try simp only [pushed_next', upded_next']); omega)]; simp -implicitDefEqProofs (disch := omega) [j1]
          have p1 : wp.heap.get (s.next + 1) = some (.cells [.slice none 0 0] none) := by rw [pb _ (by (try simp only [pushed_next', upded_next']); omega)]; simp -implicitDefEqProofs (disch := omega) [j2]
          have p3 : wp.heap.get s1.next = some (.cells [.int .i64 w] none) := by rw [pb _ (by (try simp only [pushed_next', upded_next']); omega)]; simp -implicitDefEqProofs (disch := omega) [j3]
          have p4 : wp.heap.get sa.next = some (.cells [.int .i64 i, .int .i64 (L i).o, .int .i64 (L i).u, .int .i64 k, .int .i64 (L k).o, .int .i64 (L k).u] none) := by rw [pb _ (by (try simp only [pushed_next', upded_next']); omega)]; simp -implicitDefEqProofs (disch := omega)
          have po : ∀ z, z < sa.next → z ≠ wu.next + 1 → wp.heap.get z = sa.heap.get z := fun z h1 h2 => by rw [pb _ (by (try simp only [pushed_next', upded_next']); omega)]; simp -implicitDefEqProofs (disch := omega)
          cases hck : clashB L H i w k with
          | false =>
            apply Run.by_eq
            · intro self
              conv => lhs; simp -implicitDefEqProofs (maxSteps := 300000) (disch := omega) [-getElem?_pos, -getElem?_neg, p0, p3, p4, h1, hS]
            try (with_reducible refine Run.ret ?_)
            apply zz
            apply Cd.ite rfl
            · conv => lhs; simp -implicitDefEqProofs (maxSteps := 300000) (disch := omega) [-getElem?_pos, -getElem?_neg]
            all_goals intro d0
            all_goals try (cases d0; done)
            all_goals try simp only [Bool.not_eq_true', Bool.not_eq_false', decide_eq_true_eq, decide_eq_false_iff_not] at d0
            all_goals apply zz
            refine ⟨Lf, hlp, .inl ⟨rfl, rfl, ?_, ?_, ?_, ?_, ?_⟩, ?_, fun z hz hX => ?_⟩
            · rw [get_upded_same]; subst hLf; rfl
            · simp -implicitDefEqProofs (disch := omega) [p0]
            · simp -implicitDefEqProofs (disch := omega) [p1]
            · simp -implicitDefEqProofs (disch := omega) [p3]
            · simp only [upded_next']; omega
            · simp only [upded_next']; omega
            · have x4 : z ≠ wu.next + 1 := fun e => hX (.inr e)
              simp -implicitDefEqProofs (disch := omega) [po]
          | true =>
            apply Run.by_eq
            · intro self
              conv => lhs; simp -implicitDefEqProofs (maxSteps := 300000) (disch := omega) [-getElem?_pos, -getElem?_neg, p0, p3, p4, h1, hS]
            try (with_reducible refine Run.ret ?_)
            apply zz
            apply Cd.ite rfl
            · conv => lhs; simp -implicitDefEqProofs (maxSteps := 300000) (disch := omega) [-getElem?_pos, -getElem?_neg]
            all_goals intro d0
            all_goals try (cases d0; done)
            all_goals try simp only [Bool.not_eq_true', Bool.not_eq_false', decide_eq_true_eq, decide_eq_false_iff_not] at d0
            all_goals apply zz
            apply zz
            refine Cd.ra (h := ?_)
            apply Run.by_eq
            · intro self
              conv => lhs; simp -implicitDefEqProofs (maxSteps := 300000) (disch := omega) [-getElem?_pos, -getElem?_neg, Fr.get_mk, p3, p4, p1, g2]
            try (with_reducible refine Run.ret ?_)
            apply zz
            refine ⟨Lf, ?_, .inr ⟨rfl, ?_, rfl, ?_, wp.next, ?_, ?_, ?_, ?_⟩, ?_, fun z hz hX => ?_⟩
            · simp -implicitDefEqProofs (disch := omega) [hlp]
            · rw [get_upded_same]; subst hLf; rfl
            · (try simp only [pushed_next', upded_next']); omega
            · simp -implicitDefEqProofs (disch := omega)
            · (try simp only [pushed_next', upded_next']); omega
            · simp -implicitDefEqProofs (disch := omega)
            · omega
            · (try simp only [pushed_next', upded_next']); omega
            · have x4 : z ≠ wu.next + 1 := fun e => hX (.inr e)
              have x5 : z ≠ s.next + 1 := fun e => hX (.inl e)
              simp -implicitDefEqProofs (disch := omega) [po]
        obtain ⟨hJB, r2, r3⟩ := hres
        simp only [pushed_next'] at r2 r3
        have hold : ∀ i, i < wu.next → i ≠ s.next + 1 → s2.heap.get i = wu.heap.get i := fun i hi hi2 => by
          rw [r3 i (by omega) (by omega)]
          simp -implicitDefEqProofs (disch := omega)
        have hdef : s2.heap.get wu.next = some (.deferred true) := by
          rw [r3 _ (by omega) (by omega)]
          simp -implicitDefEqProofs (disch := omega)
        have hmk : ∀ m ∈ f.marks, s.next + 1 < m ∧ m < s1.next ∧ s2.heap.get m = some (.deferred true) := fun m hm => by
          obtain ⟨a1, a2, a3⟩ := hM.2 m hm
          exact ⟨a1, a2, by rw [hold m (by omega) (by omega), ub m (by omega), yo m a2]; exact a3⟩
        have hks : Keep s s2 := ⟨by omega, fun i hi => by rw [hold i (by omega) (by omega), ub i (by omega), yo i (by omega)]; exact hkpb i hi⟩
        have hnd : (wu.next :: f.marks).Nodup := List.nodup_cons.2 ⟨fun h => by have := (hmk _ h).2.1; omega, hM.1⟩
        have hmk2 : ∀ m ∈ wu.next :: f.marks, s.next + 1 < m ∧ m < wu.next + 1 ∧ s2.heap.get m = some (.deferred true) := fun m hm => by
          cases hm with
          | head => exact ⟨by omega, by omega, hdef⟩
          | tail _ hm => obtain ⟨a1, a2, a3⟩ := hmk m hm; exact ⟨a1, by omega, a3⟩
        rcases hJB with ⟨hnc, j0, j1, j2, j3, j4⟩ | ⟨i, k, hi, hk, hkn, b0, hc2, b1, b, b2, b3, b4, b5⟩
        · refine ⟨R0, j0, .inl ⟨by rw [← hR], by rw [← hR], ?_⟩⟩
          apply zz
          refine Cd.ra (h := ?_)
          apply Run.by_eq
          · intro self
            conv => lhs; simp -implicitDefEqProofs (maxSteps := 300000) (disch := omega) [-getElem?_pos, -getElem?_neg, Fr.get_mk, g7]
          try (with_reducible refine Run.ret ?_)
          apply zz
          refine LoopK.nm (n - (w + 1)) (by omega) ⟨w + 1, by omega, rfl, ⟨by simpa [Fr.marks_put] using hnd, fun m hm => ?_⟩, by simp [Fr.get_mk, g1], by simp [Fr.get_mk, g2], by simp [Fr.get_mk, g6], by simp, ⟨by (try simp only [upded_next']); omega, fun i hi => by simp -implicitDefEqProofs (disch := omega) [hks.2]⟩, by (try simp only [upded_next']); omega, by simp -implicitDefEqProofs (disch := omega) [j1], by simp -implicitDefEqProofs (disch := omega) [j2], fun x hx => ?_⟩
          · obtain ⟨a1, a2, a3⟩ := hmk2 m (by simpa [Fr.marks_put] using hm)
            exact ⟨a1, by (try simp only [upded_next']); omega, by simp -implicitDefEqProofs (disch := omega) [a3]⟩
          · by_cases e : x = w
            · subst e; exact ⟨hc, hnc⟩
            · exact hz x (by omega)
        · refine ⟨_, b0, .inr (.inl ⟨rfl, ?_⟩)⟩
          refine .inl ⟨rfl, ⟨by simpa [Fr.marks_put] using hnd, fun m hm => ?_⟩, by simp [Fr.get_mk, g2], ⟨by (try simp only [upded_next']); omega, fun i hi => by simp -implicitDefEqProofs (disch := omega) [hks.2]⟩, by (try simp only [upded_next']); omega, _, by simp -implicitDefEqProofs (disch := omega) [b2], i, w, k, by omega, hlt, hkn, hc2, b, rfl, by (try simp only [upded_next']); omega, by simp -implicitDefEqProofs (disch := omega) [b4]⟩
          obtain ⟨a1, a2, a3⟩ := hmk2 m (by simpa [Fr.marks_put] using hm)
          exact ⟨a1, by (try simp only [upded_next']); omega, by simp -implicitDefEqProofs (disch := omega) [a3]⟩
    · obtain rfl : w = n := by omega
      apply zz
      refine Cd.ra (h := ?_)
      apply Run.by_eq
      · intro self
        conv => lhs; simp -implicitDefEqProofs (maxSteps := 300000) (disch := omega) [-getElem?_pos, -getElem?_neg, g7, g6]
      try (with_reducible refine Run.ret ?_)
      apply zz
      apply Cd.ite rfl
      · conv => lhs; simp -implicitDefEqProofs (maxSteps := 300000) (disch := omega) [-getElem?_pos, -getElem?_neg]
      all_goals intro c3
      all_goals try (cases c3; done)
      all_goals try simp only [Bool.not_eq_true', Bool.not_eq_false', decide_eq_true_eq, decide_eq_false_iff_not] at c3
      all_goals apply zz
      exact .inr ⟨rfl, hM, by simp [g2], hkp, hnx, hb1, hz⟩
  rintro x f s1 (⟨rfl, hM, g2, hkp, hnx, v, hv, hT⟩ | ⟨rfl, hM, g2, hkp, hnx, hv, hz⟩)
  · apply zz
    refine Leave.many (.inr rfl) hM.1 (fun m hm => (hM.2 m hm).2.2) fun s' e1 e2 => ?_
    have hr : s'.heap.get (s.next + 1) = _ := (e2 _ fun h => by have := (hM.2 _ h).1; omega).trans hv
    refine ⟨[v], ?_, ⟨by omega, fun i hi => (e2 i fun h => by have := (hM.2 _ h).1; omega).trans (hkp.2 i hi)⟩, .inr ?_⟩
    · conv => lhs; simp -implicitDefEqProofs (disch := omega) [Try.results55, g2, hr]
    · obtain ⟨i, j, k, t1, t2, t3, t4, b, rfl, t5, t6⟩ := hT
      refine ⟨i, j, k, t1, t2, t3, t4, b, rfl, by omega, (e2 b fun h => ?_).trans t6⟩
      have := (hM.2 _ h).2.2
      rw [t6] at this; cases this
  apply zz
  refine Cd.ra (h := ?_)
  apply Run.by_eq
  · intro self
    conv => lhs; simp -implicitDefEqProofs (maxSteps := 300000) (disch := omega) [-getElem?_pos, -getElem?_neg, g2, hv]
  try (with_reducible refine Run.ret ?_)
  apply zz
  refine Leave.many (.inr rfl) (by simpa [Fr.marks_put] using hM.1) (fun m hm => ?_) fun s' e1 e2 => ?_
  · obtain ⟨a1, a2, a3⟩ := hM.2 m (by simpa [Fr.marks_put] using hm)
    simp -implicitDefEqProofs (disch := omega) [a3]
  have hnm : ∀ i, i ≤ s.next + 1 → i ∉ (f.marks) := fun i hi h => by have := (hM.2 _ h).1; omega
  have hr : s'.heap.get (s.next + 1) = some (.cells [.slice none 0 0] none) := by
    rw [e2 _ (by simpa [Fr.marks_put] using hnm _ (by omega))]
    simp -implicitDefEqProofs (disch := omega)
  refine ⟨[.slice none 0 0], ?_, ⟨by (try simp only [upded_next'] at e1); omega, fun i hi => ?_⟩, .inl ⟨rfl, hz⟩⟩
  · conv => lhs; simp -implicitDefEqProofs (disch := omega) [Try.results55, g2, hr]
  · rw [e2 i (by simpa [Fr.marks_put] using hnm i (by omega))]
    simp -implicitDefEqProofs (disch := omega) [hkp.2]
end Go.Proofs.Ytnhokodcmeekhaa
namespace Go.Proofs.Ytnhokodcmeekhaa
open Go Kern
/-! The program's Clash; both answers -/
theorem Trip.eq {n : Nat} {C D : Nat → Nat → Nat → Bool} {v : Value} {s : St} (h : Trip n C v s) (e : ∀ i j k, i < n → j < n → k < n → C i j k = D i j k) : Trip n D v s := by
  obtain ⟨i, j, k, h1, h2, h3, h4, h5⟩ := h
  exact ⟨i, j, k, h1, h2, h3, (e i j k h1 h2 h3) ▸ h4, h5⟩
theorem none_all {n : Nat} {L H : Nat → Frac} (h : ∀ w, w < n → NoneIn n (clashB L H) w) (i j k : Nat) (hi : i < n) (hj : j < n) (hk : k < n) : clashB L H i j k = false := by
  by_cases e : i = j ∧ j = k
  · obtain ⟨rfl, rfl⟩ := e
    exact (h i hi).1
  · by_cases h1 : i < j
    · by_cases h2 : j < k
      · exact (h j hj).2 i k h1 h2 hk
      · unfold clashB; rw [if_neg e, decide_eq_false h2, Bool.false_and, Bool.and_false]
    · unfold clashB; rw [if_neg e, decide_eq_false h1, Bool.false_and]
set_option maxRecDepth 100000 in
set_option maxHeartbeats 4000000 in
theorem clashTop_ev (n lo hi : Int) (v : Value) (ss : List SampD) (s : St) (hs : SmAt s v ss) (hl : ss.length ≤ 1000000) : Ev TT 20 [fieldV n lo hi v] s fun r s' => Keep s s' ∧ ∃ w e, r = .tuple #[w, .int .i64 e] ∧ ClashA (fieldErr n lo hi ss) n.toNat (holdsB (fun w => (endN lo hi ss w).1) (fun w => (endN lo hi ss w).2)) w e s' := by
  have hck := check_ev n lo hi v ss
  have hbo := fun (m : Nat) (e : n = m) (s : St) (h : SmAt s v ss) hc => boundsOf_ev m lo hi v ss s h hc
  obtain ⟨a, c, rfl⟩ := hs.shape
  rw [List.length_map] at hs hck hbo ⊢
  unfold fieldV at hck hbo ⊢
  refine Ev.intro (fn := Try.f20) rfl (by kernel_rfl) rfl rfl ?_
  apply zz
  refine Cd.ra (h := ?_)
  apply Run.by_eq
  · intro self
    conv => lhs; simp -implicitDefEqProofs (maxSteps := 300000) (disch := omega) [-getElem?_pos, -getElem?_neg]
  try (with_reducible refine Run.ret ?_)
  apply zz
  refine Cd.ra (h := ?_)
  apply Run.by_eq
  · intro self
    conv => lhs; simp -implicitDefEqProofs (maxSteps := 300000) (disch := omega) [-getElem?_pos, -getElem?_neg]
  try (with_reducible refine Run.ret ?_)
  apply zz
  refine Run.call ((hck _ (hs.keep ⟨by (try simp only [pushed_next', upded_next']); omega, fun i hi => by simp -implicitDefEqProofs (disch := omega) []⟩) hl).mono fun v wy hv => ?_)
  obtain ⟨rfl, y⟩ := hv
  have ya := y.1
  have yb := y.2
  try simp only [pushed_next', upded_next'] at ya yb
  apply Run.by_eq
  · intro self
    conv => lhs; simp -implicitDefEqProofs (maxSteps := 300000) (disch := omega) [-getElem?_pos, -getElem?_neg, yb]
  try (with_reducible refine Run.ret ?_)
  apply zz
  by_cases h1 : fieldErr n lo hi ss = 0
  case neg =>
    apply zz
    refine Cd.ra (h := ?_)
    apply Run.by_eq
    · intro self
      conv => lhs; simp -implicitDefEqProofs (maxSteps := 300000) (disch := omega) [-getElem?_pos, -getElem?_neg, h1]
    try (with_reducible refine Run.ret ?_)
    apply zz
    apply Cd.ite rfl
    · conv => lhs; simp -implicitDefEqProofs (maxSteps := 300000) (disch := omega) [-getElem?_pos, -getElem?_neg]
    all_goals intro c0
    all_goals try (cases c0; done)
    all_goals try simp only [Bool.not_eq_true', Bool.not_eq_false', decide_eq_true_eq, decide_eq_false_iff_not] at c0
    all_goals apply zz
    apply zz
    refine Cd.ra (h := ?_)
    apply Run.by_eq
    · intro self
      conv => lhs; simp -implicitDefEqProofs (maxSteps := 300000) (disch := omega) [-getElem?_pos, -getElem?_neg]
    try (with_reducible refine Run.ret ?_)
    apply zz
    apply Leave.mk (by first | exact .inl rfl | exact .inr rfl) (by simp only [Fr.marks_put, fr0_marks])
    · conv => lhs; simp -implicitDefEqProofs (disch := omega) [Try.results20]
    exact ⟨⟨by (try simp only [pushed_next', upded_next']); omega, fun i hi => by simp -implicitDefEqProofs (disch := omega) [yb]⟩, _, _, rfl, .inl ⟨h1, rfl, rfl⟩⟩
  apply zz
  refine Cd.ra (h := ?_)
  apply Run.by_eq
  · intro self
    conv => lhs; simp -implicitDefEqProofs (maxSteps := 300000) (disch := omega) [-getElem?_pos, -getElem?_neg, h1]
  try (with_reducible refine Run.ret ?_)
  apply zz
  apply Cd.ite rfl
  · conv => lhs; simp -implicitDefEqProofs (maxSteps := 300000) (disch := omega) [-getElem?_pos, -getElem?_neg]
  all_goals intro c0
  all_goals try (cases c0; done)
  all_goals try simp only [Bool.not_eq_true', Bool.not_eq_false', decide_eq_true_eq, decide_eq_false_iff_not] at c0
  all_goals apply zz
  obtain ⟨⟨hn1, hn30⟩, hr, _, hss⟩ := fieldErr_ok h1
  obtain ⟨m, rfl⟩ : ∃ m : Nat, n = m := ⟨n.toNat, by omega⟩
  have va : veq 4 (Value.slice a ss.length c) (Value.slice a ss.length c) = true := slAt_veq hs 3
  have hW := fun w hw => (List.take_length (l := ss) ▸ bnd_all (n := m) h1 ss.length w hw : _)
  have hEq : ∀ i j k, i < m → j < m → k < m → clashB (bndN m lo hi ss).1 (bndN m lo hi ss).2 i j k = holdsB (fun w => (endN lo hi ss w).1) (fun w => (endN lo hi ss w).2) i j k := fun i j k => clash_holds (bnd_end h1)
  apply zz
  refine Cd.ra (h := ?_)
  apply Run.by_eq
  · intro self
    conv => lhs; simp -implicitDefEqProofs (maxSteps := 300000) (disch := omega) [-getElem?_pos, -getElem?_neg, yb, va]
  try (with_reducible refine Run.ret ?_)
  apply zz
  refine Run.call ((hbo m rfl _ (hs.keep ⟨by (try simp only [pushed_next', upded_next']); omega, fun i hi => by simp -implicitDefEqProofs (disch := omega) [yb]⟩) h1).mono fun v wz hv => ?_)
  obtain ⟨rfl, z⟩ := hv
  have za := z.1
  have zb := z.2
  try simp only [pushed_next', upded_next'] at za zb
  apply Run.by_eq
  · intro self
    conv => lhs; simp -implicitDefEqProofs (maxSteps := 300000) (disch := omega) [-getElem?_pos, -getElem?_neg, zb, yb]
  try (with_reducible refine Run.ret ?_)
  apply zz
  refine Run.call ((clash_ev _ m _ _ _ (bOk m (bndN m lo hi ss).1 (bndN m lo hi ss).2) (by omega) hW).mono fun v wu hv => ?_)
  obtain ⟨u, hu⟩ := hv
  have ua := u.1
  have ub := u.2
  rcases hu with ⟨rfl, hu⟩ | hT
  · apply Run.by_eq
    · intro self
      conv => lhs; simp -implicitDefEqProofs (maxSteps := 300000) (disch := omega) [-getElem?_pos, -getElem?_neg]
    try (with_reducible refine Run.ret ?_)
    apply zz
    refine Cd.ra (h := ?_)
    apply Run.by_eq
    · intro self
      conv => lhs; simp -implicitDefEqProofs (maxSteps := 300000) (disch := omega) [-getElem?_pos, -getElem?_neg]
    try (with_reducible refine Run.ret ?_)
    apply zz
    apply Cd.ite rfl
    · conv => lhs; simp -implicitDefEqProofs (maxSteps := 300000) (disch := omega) [-getElem?_pos, -getElem?_neg]
    all_goals intro c5
    all_goals try (cases c5; done)
    all_goals try simp only [Bool.not_eq_true', Bool.not_eq_false', decide_eq_true_eq, decide_eq_false_iff_not] at c5
    all_goals apply zz
    apply zz
    refine Cd.ra (h := ?_)
    apply Run.by_eq
    · intro self
      conv => lhs; simp -implicitDefEqProofs (maxSteps := 300000) (disch := omega) [-getElem?_pos, -getElem?_neg]
    try (with_reducible refine Run.ret ?_)
    apply zz
    apply Leave.mk (by first | exact .inl rfl | exact .inr rfl) (by simp only [Fr.marks_put, fr0_marks])
    · conv => lhs; simp -implicitDefEqProofs (disch := omega) [Try.results20]
    exact ⟨⟨by (try simp only [pushed_next', upded_next']); omega, fun i hi => by simp -implicitDefEqProofs (disch := omega) [ub, zb, yb]⟩, _, _, rfl, .inr (.inl ⟨h1, rfl, rfl, fun i j k hi hj hk => by rw [Int.toNat_natCast] at hi hj hk; rw [← hEq i j k hi hj hk]; exact none_all hu i j k hi hj hk⟩)⟩
  · have hT0 := hT
    obtain ⟨i, j, k, _, _, _, _, b, rfl, _⟩ := hT0
    apply Run.by_eq
    · intro self
      conv => lhs; simp -implicitDefEqProofs (maxSteps := 300000) (disch := omega) [-getElem?_pos, -getElem?_neg]
    try (with_reducible refine Run.ret ?_)
    apply zz
    refine Cd.ra (h := ?_)
    apply Run.by_eq
    · intro self
      conv => lhs; simp -implicitDefEqProofs (maxSteps := 300000) (disch := omega) [-getElem?_pos, -getElem?_neg]
    try (with_reducible refine Run.ret ?_)
    apply zz
    apply Cd.ite rfl
    · conv => lhs; simp -implicitDefEqProofs (maxSteps := 300000) (disch := omega) [-getElem?_pos, -getElem?_neg]
    all_goals intro c5
    all_goals try (cases c5; done)
    all_goals try simp only [Bool.not_eq_true', Bool.not_eq_false', decide_eq_true_eq, decide_eq_false_iff_not] at c5
    all_goals apply zz
    apply zz
    refine Cd.ra (h := ?_)
    apply Run.by_eq
    · intro self
      conv => lhs; simp -implicitDefEqProofs (maxSteps := 300000) (disch := omega) [-getElem?_pos, -getElem?_neg]
    try (with_reducible refine Run.ret ?_)
    apply zz
    apply Leave.mk (by first | exact .inl rfl | exact .inr rfl) (by simp only [Fr.marks_put, fr0_marks])
    · conv => lhs; simp -implicitDefEqProofs (disch := omega) [Try.results20]
    exact ⟨⟨by (try simp only [pushed_next', upded_next']); omega, fun i hi => by simp -implicitDefEqProofs (disch := omega) [ub, zb, yb]⟩, _, _, rfl, .inr (.inr ⟨h1, rfl, by rw [Int.toNat_natCast]; exact hT.eq hEq⟩)⟩
end Go.Proofs.Ytnhokodcmeekhaa
namespace Go.Proofs.Ytnhokodcmeekhaa
open Go Kern
/-! Lists of lines, and what the first of many fractions is -/
def LeF (x y : Frac) : Prop := x.o * y.u ≤ y.o * x.u
theorem above_iff (f g : Frac) : aboveB f g = true ↔ g.o * f.u < f.o * g.u := by simp [aboveB]
theorem above_not (f g : Frac) : aboveB f g = false ↔ f.o * g.u ≤ g.o * f.u := by simp [aboveB]
theorem LeF.refl (x : Frac) : LeF x x := Int.le_refl _
theorem LeF.trans {x y z : Frac} (hx : 0 < x.u) (hy : 0 < y.u) (hz : 0 < z.u) (h1 : LeF x y) (h2 : LeF y z) : LeF x z := by
  unfold LeF at *
  have a := Int.mul_le_mul_of_nonneg_right h1 (Int.le_of_lt hz)
  have b := Int.mul_le_mul_of_nonneg_right h2 (Int.le_of_lt hx)
  have c : x.o * z.u * y.u ≤ z.o * x.u * y.u := by
    rw [show x.o * z.u * y.u = x.o * y.u * z.u by rw [Int.mul_right_comm], show z.o * x.u * y.u = z.o * y.u * x.u by rw [Int.mul_right_comm]]
    rw [show y.o * x.u * z.u = y.o * z.u * x.u by rw [Int.mul_right_comm]] at a
    exact Int.le_trans a b
  exact Int.le_of_mul_le_mul_right c hy
/-- The first one of many is one of them, and none is beyond it. -/
theorem fore_max : ∀ (fs : List Frac) (a : Frac), 0 < a.u → (∀ x ∈ fs, 0 < x.u) → 0 < (foreF aboveB a fs).u ∧ LeF a (foreF aboveB a fs) ∧ ∀ x ∈ fs, LeF x (foreF aboveB a fs)
  | [], a, ha, _ => ⟨ha, LeF.refl a, fun x hx => by cases hx⟩
  | y :: r, a, ha, h => by
    have hy := h y (.head _)
    show 0 < (foreF aboveB (if aboveB y a = true then y else a) r).u ∧ LeF a (foreF aboveB (if aboveB y a = true then y else a) r) ∧ ∀ x ∈ y :: r, LeF x (foreF aboveB (if aboveB y a = true then y else a) r)
    by_cases hb : aboveB y a = true
    · rw [if_pos hb]
      obtain ⟨h1, h2, h3⟩ := fore_max r y hy fun x hx => h x (.tail _ hx)
      have hl : LeF a y := by rw [above_iff] at hb; unfold LeF; omega
      refine ⟨h1, hl.trans ha hy h1 h2, fun x hx => ?_⟩
      cases hx with
      | head => exact h2
      | tail _ hx => exact h3 x hx
    · rw [if_neg hb]
      obtain ⟨h1, h2, h3⟩ := fore_max r a ha fun x hx => h x (.tail _ hx)
      have hl : LeF y a := by simp only [Bool.not_eq_true] at hb; rw [above_not] at hb; exact hb
      refine ⟨h1, h2, fun x hx => ?_⟩
      cases hx with
      | head => exact hl.trans hy ha h1 h2
      | tail _ hx => exact h3 x hx
theorem fore_min : ∀ (fs : List Frac) (a : Frac), 0 < a.u → (∀ x ∈ fs, 0 < x.u) → 0 < (foreF belowB a fs).u ∧ LeF (foreF belowB a fs) a ∧ ∀ x ∈ fs, LeF (foreF belowB a fs) x
  | [], a, ha, _ => ⟨ha, LeF.refl a, fun x hx => by cases hx⟩
  | y :: r, a, ha, h => by
    have hy := h y (.head _)
    show 0 < (foreF belowB (if belowB y a = true then y else a) r).u ∧ LeF (foreF belowB (if belowB y a = true then y else a) r) a ∧ ∀ x ∈ y :: r, LeF (foreF belowB (if belowB y a = true then y else a) r) x
    by_cases hb : belowB y a = true
    · rw [if_pos hb]
      obtain ⟨h1, h2, h3⟩ := fore_min r y hy fun x hx => h x (.tail _ hx)
      have hl : LeF y a := by unfold belowB at hb; rw [above_iff] at hb; unfold LeF; omega
      refine ⟨h1, h2.trans h1 hy ha hl, fun x hx => ?_⟩
      cases hx with
      | head => exact h2
      | tail _ hx => exact h3 x hx
    · rw [if_neg hb]
      obtain ⟨h1, h2, h3⟩ := fore_min r a ha fun x hx => h x (.tail _ hx)
      have hl : LeF a y := by simp only [Bool.not_eq_true] at hb; unfold belowB at hb; rw [above_not] at hb; exact hb
      refine ⟨h1, h2, fun x hx => ?_⟩
      cases hx with
      | head => exact h2.trans h1 ha hy hl
      | tail _ hx => exact h3 x hx
theorem fore_pos {bf : Frac → Frac → Bool} {fs : List Frac} {a : Frac} (ha : 0 < a.u) (h : ∀ x ∈ fs, 0 < x.u) : 0 < (foreF bf a fs).u := by
  rcases foreF_mem (bf := bf) a fs with e | e
  · rw [e]; exact ha
  · exact h _ e
/-- The pairs of weeks across a week. -/
def acrossL (n w : Nat) : List (Nat × Nat) := (List.range w).flatMap fun i => (List.range (n - (w + 1))).map fun d => (i, w + 1 + d)
theorem across_mem {n w : Nat} {p : Nat × Nat} : p ∈ acrossL n w ↔ p.1 < w ∧ w < p.2 ∧ p.2 < n := by
  obtain ⟨i, k⟩ := p
  unfold acrossL
  simp only [List.mem_flatMap, List.mem_range, List.mem_map, Prod.mk.injEq]
  constructor
  · rintro ⟨a, ha, d, hd, rfl, rfl⟩; omega
  · rintro ⟨h1, h2, h3⟩; exact ⟨i, h1, k - (w + 1), by omega, rfl, by omega⟩
def towardF (n w far : Nat) : List (Nat × Nat) := if far < w then (List.range (w - (far + 1))).map fun d => (far, far + 1 + d) else (List.range (far - (w + 1))).map fun d => (far, far - 1 - d)
/-- The pairs of weeks toward a week: far and near. -/
def towardL (n w : Nat) : List (Nat × Nat) := (List.range n).flatMap fun far => towardF n w far
def rtowardL (n w : Nat) : List (Nat × Nat) := (List.range n).flatMap fun i => (List.range (max i w - (min i w + 1))).map fun d => (i, min i w + 1 + d)
theorem toward_mem {n w : Nat} {p : Nat × Nat} : p ∈ towardL n w ↔ p.1 < n ∧ ((p.1 < p.2 ∧ p.2 < w) ∨ (w < p.2 ∧ p.2 < p.1)) := by
  obtain ⟨i, k⟩ := p
  unfold towardL towardF
  simp only [List.mem_flatMap, List.mem_range]
  constructor
  · rintro ⟨a, ha, h⟩
    split at h
    · simp only [List.mem_range, List.mem_map, Prod.mk.injEq] at h
      obtain ⟨d, hd, rfl, rfl⟩ := h; omega
    · simp only [List.mem_range, List.mem_map, Prod.mk.injEq] at h
      obtain ⟨d, hd, rfl, rfl⟩ := h; omega
  · rintro ⟨h1, h2⟩
    refine ⟨i, h1, ?_⟩
    split
    · simp only [List.mem_range, List.mem_map, Prod.mk.injEq]
      exact ⟨k - (i + 1), by omega, trivial, by omega⟩
    · simp only [List.mem_range, List.mem_map, Prod.mk.injEq]
      exact ⟨i - 1 - k, by omega, trivial, by omega⟩
/-- The least sweetness of a week. -/
def lowF (n : Nat) (L : Nat → Frac) (w : Nat) : Frac := foreF aboveB (L w) ((acrossL n w).map fun p => lineF p.1 (L p.1) p.2 (L p.2) w)
/-- The greatest one. -/
def upF (n : Nat) (L H : Nat → Frac) (w : Nat) : Frac := foreF belowB (H w) ((towardL n w).map fun p => lineF p.1 (L p.1) p.2 (H p.2) w)
def rupF (n : Nat) (L H : Nat → Frac) (w : Nat) : Frac := foreF belowB (H w) ((rtowardL n w).map fun p => lineF p.1 (L p.1) p.2 (H p.2) w)
theorem line_pos {a b w : Int} {x y : Frac} (hx : 0 < x.u) (hy : 0 < y.u) (h : a ≠ b) : 0 < (lineF a x b y w).u := by
  unfold lineF lineO
  split
  · exact Int.mul_pos (Int.mul_pos hy hx) (by omega)
  · exact Int.mul_pos (Int.mul_pos hx hy) (by omega)
theorem low_pos {n w : Nat} {L : Nat → Frac} (hL : ∀ w, w < n → 0 < (L w).u) (hw : w < n) : 0 < (lowF n L w).u := by
  refine fore_pos (hL w hw) fun x hx => ?_
  obtain ⟨p, hp, rfl⟩ := List.mem_map.1 hx
  have := across_mem.1 hp
  exact line_pos (hL _ (by omega)) (hL _ (by omega)) (by omega)
theorem up_lines_pos {n w : Nat} {L H : Nat → Frac} (hL : ∀ w, w < n → 0 < (L w).u) (hH : ∀ w, w < n → 0 < (H w).u) (hw : w < n) : ∀ x ∈ (towardL n w).map (fun p => lineF p.1 (L p.1) p.2 (H p.2) w), 0 < x.u := fun x hx => by
  obtain ⟨p, hp, rfl⟩ := List.mem_map.1 hx
  have := toward_mem.1 hp
  exact line_pos (hL _ (by omega)) (hH _ (by omega)) (by omega)
theorem up_pos {n w : Nat} {L H : Nat → Frac} (hL : ∀ w, w < n → 0 < (L w).u) (hH : ∀ w, w < n → 0 < (H w).u) (hw : w < n) : 0 < (upF n L H w).u := fore_pos (hH w hw) (up_lines_pos hL hH hw)
/-- Rounded down, and up. -/
def flF (x : Frac) : Int := x.o / x.u
def ceF (x : Frac) : Int := -((-x.o) / x.u)
theorem ce_up {x : Frac} (hx : 0 < x.u) : (x.o + x.u - 1) / x.u = ceF x := by
  unfold ceF
  apply Int.le_antisymm
  · have h1 : (-x.o) / x.u * x.u ≤ -x.o := Int.ediv_mul_le _ (by omega)
    have h2 : (x.o + x.u - 1) / x.u < -((-x.o) / x.u) + 1 := by
      rw [Int.ediv_lt_iff_lt_mul hx, Int.add_mul, Int.neg_mul]; omega
    omega
  · rw [Int.le_ediv_iff_mul_le hx, Int.neg_mul]
    have h1 : -x.o < ((-x.o) / x.u + 1) * x.u := Int.lt_ediv_add_one_mul_self _ hx
    rw [Int.add_mul] at h1
    omega
theorem flat_prefix {α : Type} {n i d : Nat} {x : α} (F : Nat → List α) (hi : i < n) (hd : (F i)[d]? = some x) : ((List.range i).flatMap F ++ (F i).take d) ++ [x] <+: (List.range n).flatMap F := by
  obtain ⟨m, rfl⟩ : ∃ m, n = i + 1 + m := ⟨n - (i + 1), by omega⟩
  have h1 : List.range (i + 1 + m) = List.range (i + 1) ++ (List.range m).map (i + 1 + ·) := List.range_add
  rw [h1, List.flatMap_append, List.range_succ, List.flatMap_append]
  have h2 : (F i) = (F i).take d ++ (x :: (F i).drop (d + 1)) := by
    have hd' := (List.getElem?_eq_some_iff.1 hd)
    obtain ⟨hlt, he⟩ := hd'
    conv => lhs; rw [← List.take_append_drop d (F i), List.drop_eq_getElem_cons hlt, he]
  refine ⟨(F i).drop (d + 1) ++ ((List.range m).map (i + 1 + ·)).flatMap F, ?_⟩
  simp only [List.flatMap_cons, List.flatMap_nil, List.append_nil, List.append_assoc]
  congr 1
  conv => rhs; rw [h2]
  simp
/-- Without a clash the greatest sweetness is no less than the low. -/
theorem up_ge {n w : Nat} {L H : Nat → Frac} (hW : ∀ w, w < n → (L w).u = 1 ∧ (H w).u = 1) (hw : w < n) (hc : ∀ w, w < n → NoneIn n (clashB L H) w) : LeF (L w) (upF n L H w) := by
  have hall := none_all hc
  unfold upF
  rcases foreF_mem (bf := belowB) (H w) ((towardL n w).map fun p => lineF p.1 (L p.1) p.2 (H p.2) w) with e | e
  · rw [e]
    have := (hc w hw).1
    unfold clashB at this
    rw [if_pos ⟨rfl, rfl⟩, above_not] at this
    exact this
  · obtain ⟨⟨i, k⟩, hp, hx⟩ := List.mem_map.1 e
    rw [← hx]
    have hm := toward_mem.1 hp
    simp only [] at hm ⊢
    obtain ⟨hi, hm | hm⟩ := hm
    · have h0 := hall i k w (by omega) (by omega) (by omega)
      unfold clashB at h0
      rw [if_neg (by omega), decide_eq_true hm.1, decide_eq_true hm.2, Bool.true_and, Bool.true_and, above_not] at h0
      unfold lineF lineO at h0 ⊢
      rw [if_neg (by omega)] at h0
      rw [if_neg (by omega)]
      unfold LeF
      simp only [(hW i hi).1, (hW w hw).1, (hW k (by omega)).2, Int.mul_one, Int.one_mul] at h0 ⊢
      have e1 : (L i).o * ((w : Int) - k) = -((L i).o * ((k : Int) - w)) := by rw [← Int.mul_neg]; congr 1; omega
      omega
    · have h0 := hall w k i (by omega) (by omega) (by omega)
      unfold clashB at h0
      rw [if_neg (by omega), decide_eq_true hm.1, decide_eq_true hm.2, Bool.true_and, Bool.true_and, above_not] at h0
      unfold lineF lineO at h0 ⊢
      rw [if_neg (by omega)] at h0
      rw [if_pos (by omega)]
      unfold LeF
      simp only [(hW i hi).1, (hW w hw).1, (hW k (by omega)).2, Int.mul_one, Int.one_mul] at h0 ⊢
      have e1 : (L i).o * ((w : Int) - k) = -((L i).o * ((k : Int) - w)) := by rw [← Int.mul_neg]; congr 1; omega
      omega
theorem low_ge {n w : Nat} {L : Nat → Frac} (hL : ∀ w, w < n → 0 < (L w).u) (hw : w < n) : LeF (L w) (lowF n L w) := by
  refine (fore_max _ _ (hL w hw) fun x hx => ?_).2.1
  obtain ⟨p, hp, rfl⟩ := List.mem_map.1 hx
  have := across_mem.1 hp
  exact line_pos (hL _ (by omega)) (hL _ (by omega)) (by omega)
theorem le_nonneg {x y : Frac} (hx : 0 ≤ x.o) (hxu : 0 < x.u) (hy : 0 < y.u) (h : LeF x y) : 0 ≤ y.o := by
  unfold LeF at h
  have h1 : 0 ≤ x.o * y.u := Int.mul_nonneg hx (by omega)
  exact Int.nonneg_of_mul_nonneg_left (by omega) hxu
/-! Bounds for numbers -/
/-- A fraction whose products with its like fit. -/
def Mid (A B : Int) (x : Frac) : Prop := (-A ≤ x.o ∧ x.o ≤ A) ∧ 0 < x.u ∧ x.u ≤ B
theorem Mid.fits {A B : Int} {x y : Frac} (hx : Mid A B x) (hy : Mid A B y) (h : A * B ≤ 4611686018427387904) : Fits x y := by
  have h1 := mul_bd A B hx.1 (b := y.u) (by have := hy.2; omega)
  have h2 := mul_bd A B hy.1 (b := x.u) (by have := hx.2; omega)
  unfold Fits; omega
theorem Mid.mono {A B A' B' : Int} {x : Frac} (h : Mid A B x) (h1 : A ≤ A') (h2 : B ≤ B') : Mid A' B' x := by
  unfold Mid at *; omega
theorem Mid.small {A B : Int} {x : Frac} (h : Mid A B x) (h1 : A ≤ 30000000000) (h2 : B ≤ 30000) : Small x := by
  unfold Mid at h; unfold Small; omega
theorem Whole.mid {x : Frac} (h : Whole x) : Mid 60000 1 x := by
  obtain ⟨h1, h2, h3⟩ := h; unfold Mid; omega
theorem lineO_mid {A B : Int} {a b w : Int} {x y : Frac} (hx : Mid A B x) (hy : Mid A B y) (ha : 0 ≤ a ∧ a < 30) (hb : 0 ≤ b ∧ b < 30) (hw : 0 ≤ w ∧ w < 30) (hab : a < b) : Mid (60 * (A * B)) (30 * (B * B)) (lineO a x b y w) := by
  have p1 := mul_bd A B hx.1 (b := y.u) (by have := hy.2; omega)
  have p2 := mul_bd A B hy.1 (b := x.u) (by have := hx.2; omega)
  have p3 := mul_bd B B (a := x.u) (b := y.u) (by have := hx.2; omega) (by have := hy.2; omega)
  have q1 := mul_bd (A * B) 30 p1 (b := b - w) (by omega)
  have q2 := mul_bd (A * B) 30 p2 (b := w - a) (by omega)
  have q3 := mul_bd (B * B) 30 p3 (b := b - a) (by omega)
  have hp : 0 < x.u * y.u * (b - a) := Int.mul_pos (Int.mul_pos hx.2.1 hy.2.1) (by omega)
  unfold Mid lineO
  simp only []
  generalize x.o * y.u * (b - w) = t1 at *
  generalize y.o * x.u * (w - a) = t2 at *
  generalize x.u * y.u * (b - a) = t3 at *
  omega
theorem lineF_mid {A B : Int} {a b w : Int} {x y : Frac} (hx : Mid A B x) (hy : Mid A B y) (ha : 0 ≤ a ∧ a < 30) (hb : 0 ≤ b ∧ b < 30) (hw : 0 ≤ w ∧ w < 30) (hab : a ≠ b) : Mid (60 * (A * B)) (30 * (B * B)) (lineF a x b y w) := by
  unfold lineF
  split
  · exact lineO_mid hy hx hb ha hw (by omega)
  · exact lineO_mid hx hy ha hb hw (by omega)
theorem fore_mid {A B : Int} {bf : Frac → Frac → Bool} {a : Frac} {fs : List Frac} (ha : Mid A B a) (h : ∀ x ∈ fs, Mid A B x) : Mid A B (foreF bf a fs) := by
  rcases foreF_mem (bf := bf) a fs with e | e
  · rw [e]; exact ha
  · exact h _ e
end Go.Proofs.Ytnhokodcmeekhaa
namespace Go.Proofs.Ytnhokodcmeekhaa
open Go Kern
/-! Lines that are yielded to their end -/
abbrev lnV (L R : Nat → Frac) (p : Nat × Nat) : Value := .agg #[.int .i64 (p.1 : Nat), .int .i64 (L p.1).o, .int .i64 (L p.1).u, .int .i64 (p.2 : Nat), .int .i64 (R p.2).o, .int .i64 (R p.2).u]
/-- A function yields these lines, in order. -/
def Iter (gi : FuncId) (cap : List Value) (b0 : Nat) (K : St → Prop) (items : List (Nat × Nat)) (L R : Nat → Frac) : Prop :=
  ∀ (yv : Value) (s : St) (X : Nat → Prop) (J : List (Nat × Nat) → St → Prop), b0 ≤ s.next → K s → veq 5 yv yv = true → (∀ i, X i → b0 ≤ i) → J [] s → (∀ l s1 s2, J l s1 → Keep s1 s2 → J l s2) →
    (∀ l p s1, (l ++ [p]) <+: items → J l s1 → s.next ≤ s1.next → Evn TT (fun self => callV self yv [lnV L R p] s1) fun q => q.1 = .bool true ∧ J (l ++ [p]) q.2 ∧ s1.next ≤ q.2.next ∧ ∀ x, x < s.next → ¬ X x → q.2.heap.get x = s1.heap.get x) →
    Ev TT gi (yv :: cap) s fun _ s' => J items s' ∧ s.next ≤ s'.next ∧ ∀ x, x < s.next → ¬ X x → s'.heap.get x = s.heap.get x
set_option maxRecDepth 100000 in
set_option maxHeartbeats 4000000 in
theorem across_iter (n w : Nat) (L H : Nat → Frac) (BC : List Value) (pw pb b0 : Nat) (hB : BOk BC n L H) (hn : n ≤ 30) (hw : w < n) (hpw : pw < b0) (hpb : pb < b0) :
    Iter 84 [.pointer (some ⟨pw, 0, none⟩), .pointer (some ⟨pb, 0, none⟩)] b0 (fun s => s.heap.get pw = some (.cells [.int .i64 w] none) ∧ s.heap.get pb = some (.cells BC none)) (acrossL n w) L L := by
  rintro yv s X J hb0 ⟨hgw, hgb⟩ hyv hX hJ0 hJs hyield
  have hXw : ¬ X pw := fun h => by have := hX _ h; omega
  have hXb : ¬ X pb := fun h => by have := hX _ h; omega
  have h1 := takeL_len hB.len
  have hS := hB.same
  have hwk : BC[0]? = some (.int .i64 n) := hB.wk
  obtain ⟨F, hG⟩ : ∃ F : Nat → List (Nat × Nat), F = fun i => (List.range (n - (w + 1))).map fun d => (i, w + 1 + d) := ⟨_, rfl⟩
  have hF : ∀ i, F i = (List.range (n - (w + 1))).map fun d => (i, w + 1 + d) := fun _ => by rw [hG]
  unfold acrossL at hyield ⊢
  rw [← hG] at hyield ⊢
  refine Ev.intro (fn := Try.f84) rfl (by kernel_rfl) rfl rfl ?_
  apply zz
  refine Cd.ra (h := ?_)
  apply Run.by_eq
  · intro self
    conv => lhs; simp -implicitDefEqProofs (maxSteps := 300000) (disch := omega) [-getElem?_pos, -getElem?_neg, hgw]
  try (with_reducible refine Run.ret ?_)
  apply zz
  refine Cd.inv (fun z f s' => ∃ i : Nat, i ≤ w ∧ z = w - i ∧ f.marks = [] ∧ f.get 0 = yv ∧ f.get 1 = .pointer (some ⟨pw, 0, none⟩) ∧ f.get 2 = .pointer (some ⟨pb, 0, none⟩) ∧ f.get 6 = .int .i64 w ∧ f.get 7 = .int .i64 i ∧ J ((List.range i).flatMap F) s' ∧ s.next ≤ s'.next ∧ (∀ x, x < s.next → ¬ X x → s'.heap.get x = s.heap.get x)) w ?_ ?_
  · exact ⟨0, by omega, rfl, by simp, by simp, by simp, by simp, by simp, by simp, by simpa using hJ0, Nat.le_refl _, fun x _ _ => rfl⟩
  rintro z f s1 ⟨i, hi, rfl, hm, g0, g1, g2, g6, g7, hJ, hnx, hold⟩
  have hw1 := (hold pw (by omega) hXw).trans hgw
  by_cases hlt : i < w
  · apply zz
    refine Cd.ra (h := ?_)
    apply Run.by_eq
    · intro self
      conv => lhs; simp -implicitDefEqProofs (maxSteps := 300000) (disch := omega) [-getElem?_pos, -getElem?_neg, g7, g6]
    try (with_reducible refine Run.ret ?_)
    apply zz
    apply Cd.ite rfl
    · conv => lhs; simp -implicitDefEqProofs (maxSteps := 300000) (disch := omega) [-getElem?_pos, -getElem?_neg]
    all_goals intro c0
    all_goals try (cases c0; done)
    all_goals try simp only [Bool.not_eq_true', Bool.not_eq_false', decide_eq_true_eq, decide_eq_false_iff_not] at c0
    all_goals apply zz
    · apply zz
      refine Cd.ra (h := ?_)
      apply Run.by_eq
      · intro self
        conv => lhs; simp -implicitDefEqProofs (maxSteps := 300000) (disch := omega) [-getElem?_pos, -getElem?_neg, g7]
      try (with_reducible refine Run.ret ?_)
      apply zz
      refine Cd.ra (h := ?_)
      apply Run.by_eq
      · intro self
        conv => lhs; simp -implicitDefEqProofs (maxSteps := 300000) (disch := omega) [-getElem?_pos, -getElem?_neg, g1, hw1]
      try (with_reducible refine Run.ret ?_)
      apply zz
      refine Cd.mono (Q := fun x f2 s2 => x = Ex.exit 2 ∧ f2.marks = [] ∧ f2.get 0 = yv ∧ f2.get 1 = .pointer (some ⟨pw, 0, none⟩) ∧ f2.get 2 = .pointer (some ⟨pb, 0, none⟩) ∧ f2.get 6 = .int .i64 w ∧ f2.get 7 = .int .i64 i ∧ J ((List.range i).flatMap F ++ F i) s2 ∧ s.next ≤ s2.next ∧ (∀ x, x < s.next → ¬ X x → s2.heap.get x = s.heap.get x)) (Cd.inv (fun z f2 s2 => ∃ d : Nat, w + 1 + d ≤ n ∧ z = n - (w + 1 + d) ∧ f2.marks = [] ∧ f2.get 0 = yv ∧ f2.get 1 = .pointer (some ⟨pw, 0, none⟩) ∧ f2.get 2 = .pointer (some ⟨pb, 0, none⟩) ∧ f2.get 4 = .int .i64 i ∧ f2.get 5 = .int .i64 (w + 1 + d : Nat) ∧ f2.get 6 = .int .i64 w ∧ f2.get 7 = .int .i64 i ∧ J ((List.range i).flatMap F ++ (F i).take d) s2 ∧ s.next ≤ s2.next ∧ (∀ x, x < s.next → ¬ X x → s2.heap.get x = s.heap.get x)) (n - (w + 1)) ?_ ?_) ?_
      · exact ⟨0, by omega, rfl, by simp [hm], by simp [g0], by simp [g1], by simp [g2], by simp, by simp, by simp [g6], by simp [g7], by simpa using hJ, hnx, hold⟩
      · clear hJ hnx hold hm g0 g1 g2 g6 g7 hw1
        rintro z f2 s2 ⟨d, hk2, rfl, hm, g0, g1, g2, g4, g5, g6, g7, hJ, hnx, hold⟩
        have hb1 := (hold pb (by omega) hXb).trans hgb
        by_cases hlk : w + 1 + d < n
        · have hd : (F i)[d]? = some (i, w + 1 + d) := by rw [hF, List.getElem?_map, List.getElem?_range (by omega)]; rfl
          have hpre := flat_prefix F hlt hd
          have htk : (F i).take (d + 1) = (F i).take d ++ [(i, w + 1 + d)] := by rw [List.take_add_one, hd]; rfl
          apply zz
          refine Cd.ra (h := ?_)
          apply Run.by_eq
          · intro self
            conv => lhs; simp -implicitDefEqProofs (maxSteps := 300000) (disch := omega) [-getElem?_pos, -getElem?_neg, g5, g2, hb1, hwk]
          try (with_reducible refine Run.ret ?_)
          apply zz
          apply Cd.ite rfl
          · conv => lhs; simp -implicitDefEqProofs (maxSteps := 300000) (disch := omega) [-getElem?_pos, -getElem?_neg]
          all_goals intro c1
          all_goals try (cases c1; done)
          all_goals try simp only [Bool.not_eq_true', Bool.not_eq_false', decide_eq_true_eq, decide_eq_false_iff_not] at c1
          all_goals apply zz
          · apply zz
            refine Cd.drawn (pl := [(0, 0, false, false), (1, 0, false, false), (2, 0, false, false), (4, 0, false, false), (5, 0, false, false), (3, 6, true, false), (6, 62, true, false), (7, 126, false, false), (8, 255, true, false), (9, 511, false, false)]) (by kernel_rfl) (by conv => lhs; simp only [List.map_cons, List.map_nil]) (by conv => lhs; simp [strip, ordered]) ?_
            apply Run.by_eq
            · intro self
              conv => lhs; simp -implicitDefEqProofs (maxSteps := 300000) (disch := omega) [filter_bt, (show Nat.testBit 6 0 = false from rfl), (show Nat.testBit 6 1 = true from rfl), (show Nat.testBit 6 2 = true from rfl), (show Nat.testBit 6 4 = false from rfl), (show Nat.testBit 6 5 = false from rfl), (show Nat.testBit 62 0 = false from rfl), (show Nat.testBit 62 1 = true from rfl), (show Nat.testBit 62 2 = true from rfl), (show Nat.testBit 62 4 = true from rfl), (show Nat.testBit 62 5 = true from rfl), (show ∀ i, Nat.testBit 255 i = decide (i < 8) from fun i => Nat.testBit_two_pow_sub_one 8 i), -getElem?_pos, -getElem?_neg, g0, g2, g4, g5, hb1, h1, hS, hyv]
            try (with_reducible refine Run.ret ?_)
            apply zz
            refine Run.call ((lowPoint_ev BC n L H i _ hB (by omega)).mono fun v wy hv => ?_)
            obtain ⟨rfl, y⟩ := hv
            have ya := y.1
            have yb := y.2
            try simp only [pushed_next', upded_next'] at ya yb
            have y0 := (yb pb (by omega)).trans hb1
            apply Run.by_eq
            · intro self
              conv => lhs; simp -implicitDefEqProofs (maxSteps := 300000) (disch := omega) [-getElem?_pos, -getElem?_neg, g0, g2, g4, g5, y0, h1, hS, hyv]
            try (with_reducible refine Run.ret ?_)
            apply zz
            refine Run.call ((lowPoint_ev BC n L H (w + 1 + d) _ hB (by omega)).mono fun v wu hv => ?_)
            obtain ⟨rfl, u⟩ := hv
            have ua := u.1
            have ub := u.2
            try simp only [pushed_next', upded_next'] at ua ub
            have u0 := (ub pb (by omega)).trans y0
            apply Run.by_eq
            · intro self
              conv => lhs; simp -implicitDefEqProofs (maxSteps := 300000) (disch := omega) [-getElem?_pos, -getElem?_neg, g0, g2, g4, g5, u0, h1, hS, hyv]
            try (with_reducible refine Run.ret ?_)
            apply zz
            refine Run.callV ((hyield _ (i, w + 1 + d) wu hpre (hJs _ s2 wu hJ ⟨by omega, fun x hx => (ub x (by omega)).trans (yb x (by omega))⟩) (by omega)).mono fun p hp => ?_)
            obtain ⟨hp1, hp2, hp3, hp4⟩ := hp
            have hold2 : ∀ x, x < s.next → ¬ X x → p.2.heap.get x = s.heap.get x := fun x hx hxx => (hp4 x hx hxx).trans ((ub x (by omega)).trans ((yb x (by omega)).trans (hold x hx hxx)))
            obtain ⟨pv, ps⟩ := p
            simp only [] at hp1 hp2 hp3 hold2 ⊢
            subst hp1
            apply Run.by_eq
            · intro self
              conv => lhs; simp -implicitDefEqProofs (maxSteps := 300000) (disch := omega) [-getElem?_pos, -getElem?_neg]
            try (with_reducible refine Run.ret ?_)
            apply zz
            apply Cd.ite rfl
            · conv => lhs; simp -implicitDefEqProofs (maxSteps := 300000) (disch := omega) [-getElem?_pos, -getElem?_neg]
            all_goals intro c2
            all_goals try (cases c2; done)
            all_goals try simp only [Bool.not_eq_true', Bool.not_eq_false', decide_eq_true_eq, decide_eq_false_iff_not] at c2
            all_goals apply zz
            apply zz
            refine Cd.ra (h := ?_)
            apply Run.by_eq
            · intro self
              conv => lhs; simp -implicitDefEqProofs (maxSteps := 300000) (disch := omega) [-getElem?_pos, -getElem?_neg, g5]
            try (with_reducible refine Run.ret ?_)
            apply zz
            refine LoopK.nm (n - (w + 1 + (d + 1))) (by omega) ⟨d + 1, by omega, rfl, by simp [hm], by simp [g0], by simp [g1], by simp [g2], by simp [g4], by simp; omega, by simp [g6], by simp [g7], ?_, by omega, hold2⟩
            rw [htk, ← List.append_assoc]; exact hp2
          · omega
        · obtain rfl : n = w + 1 + d := by omega
          have hall : (F i).take d = F i := by rw [hF]; apply List.take_of_length_le; simp
          rw [hall] at hJ
          apply zz
          refine Cd.ra (h := ?_)
          apply Run.by_eq
          · intro self
            conv => lhs; simp -implicitDefEqProofs (maxSteps := 300000) (disch := omega) [-getElem?_pos, -getElem?_neg, g5, g2, hb1, hwk]
          try (with_reducible refine Run.ret ?_)
          apply zz
          apply Cd.ite rfl
          · conv => lhs; simp -implicitDefEqProofs (maxSteps := 300000) (disch := omega) [-getElem?_pos, -getElem?_neg]
          all_goals intro c1
          all_goals try (cases c1; done)
          all_goals try simp only [Bool.not_eq_true', Bool.not_eq_false', decide_eq_true_eq, decide_eq_false_iff_not] at c1
          all_goals apply zz
          exact ⟨rfl, by simp [hm], by simp [g0], by simp [g1], by simp [g2], by simp [g6], by simp [g7], hJ, hnx, hold⟩
      rintro x f2 s2 ⟨rfl, hm, g0, g1, g2, g6, g7, hJ, hnx, hold⟩
      apply zz
      refine Cd.ra (h := ?_)
      apply Run.by_eq
      · intro self
        conv => lhs; simp -implicitDefEqProofs (maxSteps := 300000) (disch := omega) [-getElem?_pos, -getElem?_neg, g7]
      try (with_reducible refine Run.ret ?_)
      apply zz
      refine LoopK.nm (w - (i + 1)) (by omega) ⟨i + 1, by omega, rfl, by simp [hm], by simp [g0], by simp [g1], by simp [g2], by simp [g6], by simp, ?_, hnx, hold⟩
      rw [List.range_succ, List.flatMap_append]; simpa using hJ
    · omega
  · obtain rfl : i = w := by omega
    apply zz
    refine Cd.ra (h := ?_)
    apply Run.by_eq
    · intro self
      conv => lhs; simp -implicitDefEqProofs (maxSteps := 300000) (disch := omega) [-getElem?_pos, -getElem?_neg, g7, g6]
    try (with_reducible refine Run.ret ?_)
    apply zz
    apply Cd.ite rfl
    · conv => lhs; simp -implicitDefEqProofs (maxSteps := 300000) (disch := omega) [-getElem?_pos, -getElem?_neg]
    all_goals intro c0
    all_goals try (cases c0; done)
    all_goals try simp only [Bool.not_eq_true', Bool.not_eq_false', decide_eq_true_eq, decide_eq_false_iff_not] at c0
    all_goals apply zz
    apply Leave.mk (by first | exact .inl rfl | exact .inr rfl) (by simp only [Fr.marks_put, fr0_marks, hm])
    · conv => lhs; simp -implicitDefEqProofs (disch := omega) [Try.results84, hm]
    exact ⟨hJ, hnx, hold⟩
end Go.Proofs.Ytnhokodcmeekhaa
