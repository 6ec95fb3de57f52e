/-
  Values, memory and numbers of a calculated run, as equations. It holds of every program whose table of types and functions fits (TabOk).
-/
import Derived.Test.YtifkpaomhnlahaaKernW
namespace Go.Proofs.Ytifkpaomhnlahaa.Kern
open Go

/-! ## Values, memory and numbers, as equations -/
@[congr] theorem ob_congr {α β : Type} {x y : Option α} {k : α → Option β} (h : x = y) : ob x k = ob y k := by rw [h]
@[congr] theorem gd_congr {α : Type} {b c : Bool} {x : Option α} (h : b = c) : gd b x = gd c x := by rw [h]
@[congr] theorem bt_congr {α : Type} {b c : Bool} {x y : α} (h : b = c) : bt b x y = bt c x y := by rw [h]
attribute [simp] steps_nil steps_plain steps_guard guardO_some guardV_true guardV_false List.getElem?_cons_zero eval_tmp eval_const eval_func ob_some ob_none gd_true bt_true bt_false pureR_some ob_pureR act_move act_assign act_pick act_box act_un act_extract act_nilCheck act_makeFunc act_makeMap act_call callV_func Fr.get_put' Fr.put_none Fr.marks_put ob_assoc ob_gd
section
variable {ρ : Env} {H : Tree AObj} {self : Self} {s : St}
@[simp] theorem fr0_get' {args : List Value} {t : Nat} : (fr0 args).get t = (args[t]?).getD undef := by
  show Option.rec (motive := fun _ => Value) undef (fun v => v) ((Tree.ofList args 0 .leaf).get t) = _
  rw [Tree.get_ofList args 0 .leaf t]
  by_cases hi : t < args.length
  · rw [if_pos (by omega)]; simp [hi]
  · rw [if_neg (by omega), Tree.get_leaf, List.getElem?_eq_none (by omega)]; rfl
@[simp] theorem ptrTo_def (i : Nat) : ptrTo i = .pointer (some ⟨i, 0, none⟩) := rfl
@[simp] theorem cells_agg (a : Array Value) : (Value.agg a).cells = a := rfl
@[simp] theorem cells_int (k : IntKind) (a : Int) : (Value.int k a).cells = #[.int k a] := rfl
@[simp] theorem cells_bool (a : Bool) : (Value.bool a).cells = #[.bool a] := rfl
@[simp] theorem cells_string (a : ByteArray) : (Value.string a).cells = #[.string a] := rfl
@[simp] theorem cells_slice (a : Option Addr) (l c : Nat) : (Value.slice a l c).cells = #[.slice a l c] := rfl
@[simp] theorem cells_map (a : Option Nat) : (Value.map a).cells = #[.map a] := rfl
@[simp] theorem cells_pointer (a : Option Addr) : (Value.pointer a).cells = #[.pointer a] := rfl
@[simp] theorem cells_func (fn : Fn) (p q : Array Value) : (Value.func fn p q).cells = #[.func fn p q] := rfl
@[simp] theorem oneV_int (k : IntKind) (a : Int) : oneV (.int k a) = true := rfl
@[simp] theorem oneV_bool (a : Bool) : oneV (.bool a) = true := rfl
@[simp] theorem oneV_string (a : ByteArray) : oneV (.string a) = true := rfl
@[simp] theorem oneV_slice (a : Option Addr) (l c : Nat) : oneV (.slice a l c) = true := rfl
@[simp] theorem oneV_map (a : Option Nat) : oneV (.map a) = true := rfl
@[simp] theorem oneV_pointer (a : Option Addr) : oneV (.pointer a) = true := rfl
@[simp] theorem oneV_func (fn : Fn) (p q : Array Value) : oneV (.func fn p q) = true := rfl
@[simp] theorem fr0_marks (args : List Value) : (fr0 args).marks = [] := rfl
@[simp] theorem addrOf_ptr (i o : Nat) : addrOf (.pointer (some ⟨i, o, none⟩)) = some (i, o) := rfl
@[simp] theorem cellsAt_def (i : Nat) : cellsAt H i = ob (H.get i) cellsOf := rfl
@[simp] theorem cellsOf_cells (c : List Value) (g : Option Nat) : cellsOf (.cells c g) = some (c, g) := rfl
@[simp] theorem cellsOf_rom (c : List Value) : cellsOf (.rom c) = some (c, none) := rfl
@[simp] theorem pushed_next' (s : St) (o : AObj) : (s.pushed o).next = s.next + 1 := rfl
@[simp] theorem upded_next' (s : St) (i : Nat) (o : AObj) : (s.upded i o).next = s.next := rfl
@[simp] theorem get_pushed' (s : St) (o : AObj) (i : Nat) : (s.pushed o).heap.get i = if i = s.next then some o else s.heap.get i := get_pushed s o i
@[simp] theorem get_upded' (s : St) (i j : Nat) (o : AObj) : (s.upded i o).heap.get j = if j = i then some o else s.heap.get j := by
  rw [St.upded, Tree.get_setN]
@[simp] theorem if_ne_old {α : Type} {i j : Nat} {x y : α} (h : i ≠ j) : (if i = j then x else y) = y := if_neg h
@[simp] theorem exNew_cells (c : List Value) (g : Option Nat) (m : Nat → Value) : exNew s (.cells c g) m = some (m s.next, s.pushed (.cells c g)) := rfl
@[simp] theorem exNew_map (c : List (Value × Value × Nat)) (g : Nat) (m : Nat → Value) : exNew s (.map c g) m = some (m s.next, s.pushed (.map c g)) := rfl
noncomputable def romO : Option AObj → Bool
  | some o => isRom o
  | none => false
theorem romAt_romO (i : Nat) : romAt H i = romO (H.get i) := by unfold romAt; cases H.get i <;> rfl
@[simp] theorem romO_cells (c : List Value) (g : Option Nat) : romO (some (.cells c g)) = false := rfl
@[simp] theorem romO_map (c : List (Value × Value × Nat)) (g : Nat) : romO (some (.map c g)) = false := rfl
@[simp] theorem exUpd_cells (i : Nat) (c : List Value) (g : Option Nat) : exUpd s i (.cells c g) = gd (!romO (s.heap.get i)) (some (undef, s.upded i (.cells c g))) := by
  show ob (gd (bt (romAt s.heap i) false true) _) _ = _
  rw [romAt_romO]
  cases romO (s.heap.get i) <;> rfl
@[simp] theorem exUpd_map (i : Nat) (c : List (Value × Value × Nat)) (g : Nat) : exUpd s i (.map c g) = gd (!romO (s.heap.get i)) (some (undef, s.upded i (.map c g))) := by
  show ob (gd (bt (romAt s.heap i) false true) _) _ = _
  rw [romAt_romO]
  cases romO (s.heap.get i) <;> rfl
@[simp] theorem upd_cells' (i : Nat) (c : List Value) (g : Option Nat) : s.upd i (.cells c g) = gd (!romO (s.heap.get i)) (some (s.upded i (.cells c g))) := by
  show gd (bt (romAt s.heap i) false true) _ = _
  rw [romAt_romO]
  cases romO (s.heap.get i) <;> rfl
@[simp] theorem partN_one (cs : List Value) (off : Nat) : partN cs off none = cs[off]? := nthL_eq cs off
@[simp] theorem partN_agg (cs : List Value) (off n : Nat) : partN cs off (some n) = aggV (takeL n (cs.drop off)) := by show aggV (takeL n (dropL off cs)) = _; rw [dropL_eq]
@[simp] theorem takeL_zero {α : Type} (l : List α) : takeL 0 l = some [] := rfl
@[simp] theorem takeL_succ {α : Type} (n : Nat) (x : α) (l : List α) : takeL (n + 1) (x :: l) = ob (takeL n l) fun l => some (x :: l) := rfl
@[simp] theorem aggV_some (c : List Value) : aggV (some c) = some (.agg c.toArray) := rfl
@[simp] theorem overL_nil {α : Type} (l : List α) : overL [] l = some l := rfl
@[simp] theorem overL_cons {α : Type} (v x : α) (vs l : List α) : overL (v :: vs) (x :: l) = ob (overL vs l) fun l => some (v :: l) := rfl
@[simp] theorem putL_zero {α : Type} (vs l : List α) : putL 0 vs l = overL vs l := rfl
@[simp] theorem putL_succ {α : Type} (n : Nat) (vs : List α) (x : α) (l : List α) : putL (n + 1) vs (x :: l) = ob (putL n vs l) fun l => some (x :: l) := rfl
@[simp] theorem vLoad_def (m : Option Nat) (a : Operand) : vLoad m a ρ H = ob (addrOf (ρ a)) fun p => ob (cellsAt H p.1) fun c => partN c.1 p.2 m := rfl
@[simp] theorem vFieldAddr_def (d : Nat) (x : Operand) : vFieldAddr d x ρ H = ob (addrOf (ρ x)) fun p => some (.pointer (some ⟨p.1, p.2 + d, none⟩)) := rfl
noncomputable def fieldV (off : Nat) (m : Option Nat) : Value → Option Value
  | .agg cs => partN cs.toList off m
  | _ => none
@[simp] theorem vField_def (off : Nat) (m : Option Nat) (x : Operand) : vField off m x ρ H = fieldV off m (ρ x) := by
  unfold vField fieldV; cases ρ x <;> rfl
@[simp] theorem fieldV_agg (off : Nat) (m : Option Nat) (cs : Array Value) : fieldV off m (.agg cs) = partN cs.toList off m := rfl
@[simp] theorem natOf_cast (k : IntKind) (n : Nat) : natOf (.int k (n : Int)) = some n := rfl
@[simp] theorem natOf_lit (k : IntKind) (n : Nat) : natOf (.int k (no_index (OfNat.ofNat n))) = some (OfNat.ofNat n) := rfl
theorem natOf_pos (k : IntKind) {x : Int} (h : 0 ≤ x) : natOf (.int k x) = some x.toNat := by
  obtain ⟨n, rfl⟩ := Int.eq_ofNat_of_zero_le h; rfl
@[simp] theorem gd_blt {α : Type} {a b : Nat} (h : a < b) (x : Option α) : gd (Nat.blt a b) x = x := gd_iff (by rw [Nat.blt_eq]; exact h) x
@[simp] theorem gd_ble {α : Type} {a b : Nat} (h : a ≤ b) (x : Option α) : gd (Nat.ble a b) x = x := gd_iff (by simpa using h) x
@[simp] theorem gd_beq {α : Type} {a b : Nat} (h : a = b) (x : Option α) : gd (Nat.beq a b) x = x := gd_iff (by subst h; simp) x
@[simp] theorem gd_and {α : Type} (a b : Bool) (x : Option α) : gd (a && b) x = gd a (gd b x) := by cases a <;> rfl
@[simp] theorem sliceOf_slice (a : Option Addr) (l c : Nat) : sliceOf (.slice a l c) = some (a, l, c) := rfl
@[simp] theorem vIndexAddrA_def (len n : Nat) (x i : Operand) : vIndexAddrA len n x i ρ H = ob (natOf (ρ i)) fun j => gd (Nat.blt j len) (ob (addrOf (ρ x)) fun p => some (.pointer (some ⟨p.1, p.2 + j * n, none⟩))) := rfl
@[simp] theorem vIndexAddrS_def (n : Nat) (x i : Operand) : vIndexAddrS n x i ρ H = ob (natOf (ρ i)) fun j => ob (sliceOf (ρ x)) fun q => gd (Nat.blt j q.2.1) (ob (addrOf (.pointer q.1)) fun p => some (.pointer (some ⟨p.1, p.2 + j * n, none⟩))) := rfl
@[simp] theorem vIndexA_def (len n : Nat) (m : Option Nat) (x i : Operand) : vIndexA len n m x i ρ H = ob (natOf (ρ i)) fun j => gd (Nat.blt j len) (fieldV (j * n) m (ρ x)) := by
  unfold vIndexA fieldV; cases ρ x <;> rfl
noncomputable def strAt (j : Nat) : Value → Option Value
  | .string s => ob (nthL j s.data.toList) fun b => some (.int .u8 (.ofNat b.toNat))
  | _ => none
@[simp] theorem vIndexStr_def (x i : Operand) : vIndexStr x i ρ H = ob (natOf (ρ i)) fun j => strAt j (ρ x) := by
  unfold vIndexStr strAt; cases ρ x <;> rfl
@[simp] theorem strAt_string (j : Nat) (b : ByteArray) : strAt j (.string b) = ob b.data.toList[j]? fun b => some (.int .u8 (b.toNat : Int)) := by
  show ob (nthL j b.data.toList) (fun b => some (Value.int .u8 (.ofNat b.toNat))) = _
  rw [nthL_eq]; rfl
noncomputable def lenV : Value → Option Value
  | .string s => some (.int .i64 (s.data.toList.length : Int))
  | _ => none
@[simp] theorem vLenStr_def (x : Operand) : vLenStr x ρ H = lenV (ρ x) := by
  unfold vLenStr lenV; cases ρ x <;> first | rfl | (simp only [lenL_eq]; rfl)
@[simp] theorem lenV_string (b : ByteArray) : lenV (.string b) = some (.int .i64 (b.data.toList.length : Int)) := rfl
@[simp] theorem vLenSl_def (x : Operand) : vLenSl x ρ H = ob (sliceOf (ρ x)) fun q => some (.int .i64 (q.2.1 : Int)) := rfl
noncomputable def pickV (a b : Value) : Value → Option Value
  | .bool x => some (bt x a b)
  | _ => none
@[simp] theorem vPick_def (c a b : Operand) : vPick c a b ρ H = pickV (ρ a) (ρ b) (ρ c) := by
  unfold vPick pickV; cases ρ c <;> rfl
@[simp] theorem pickV_bool (a b : Value) (x : Bool) : pickV a b (.bool x) = some (bt x a b) := rfl
noncomputable def tupV (i : Nat) : Value → Option Value
  | .tuple vs => nthL i vs.toList
  | _ => none
@[simp] theorem vExtract_def (t : Operand) (i : Nat) : vExtract t i ρ H = tupV i (ρ t) := by
  unfold vExtract tupV; cases ρ t <;> rfl
@[simp] theorem tupV_tuple (i : Nat) (vs : Array Value) : tupV i (.tuple vs) = vs.toList[i]? := nthL_eq _ _
@[simp] theorem vConv_def (k : IntKind) (x : Operand) : vConv k x ρ H = ob (intOfV (ρ x)) fun p => some (.int k (wrapF k p.2)) := rfl
@[simp] theorem intOfV_int (k : IntKind) (n : Int) : intOfV (.int k n) = some (k, n) := rfl
noncomputable def onesL : List Value → Bool
  | [] => true
  | v :: l => oneV v && onesL l
theorem onesL_eq : ∀ l : List Value, l.all oneV = onesL l
  | [] => rfl
  | v :: l => by rw [List.all_cons, onesL_eq l]; rfl
@[simp] theorem onesL_nil : onesL [] = true := rfl
@[simp] theorem onesL_cons (v : Value) (l : List Value) : onesL (v :: l) = (oneV v && onesL l) := rfl
@[simp] theorem eStore_def (n : Nat) (a x : Operand) : eStore n a x self ρ s = ob (addrOf (ρ a)) fun p => gd (Nat.beq (ρ x).cells.toList.length n && onesL (ρ x).cells.toList) (ob (cellsAt s.heap p.1) fun c => ob (putL p.2 (ρ x).cells.toList c.1) fun c' => exUpd s p.1 (.cells c' c.2)) := by
  unfold eStore; simp only [lenL_eq, onesL_eq]
@[simp] theorem boolOf_bool (b : Bool) : boolOf (.bool b) = some b := rfl
/-! Numbers -/
noncomputable def binVal (T : Tab) (d : TypeDesc) (t : TypeId) (fl : Bool) (op : BinOp) (x y : Value) : Option Value :=
  Option.rec (motive := fun _ => Option Value) (binV2 T d t fl op x y) (fun p => binI op p.1 p.2 y) (intOfV x)
@[simp] theorem binV_def (T : Tab) (d : TypeDesc) (t : TypeId) (fl : Bool) (op : BinOp) (x y : Operand) : binV T d t fl op x y ρ H = binVal T d t fl op (ρ x) (ρ y) := rfl
@[simp] theorem binVal_int (T : Tab) (d : TypeDesc) (t : TypeId) (fl : Bool) (op : BinOp) (k k' : IntKind) (a b : Int) : binVal T d t fl op (.int k a) (.int k' b) = intOp op k a (k', b) := rfl
@[simp] theorem kindEq_refl (k : IntKind) : kindEq k k = true := by cases k <;> rfl
@[simp] theorem intOp_add (k : IntKind) (a b : Int) : intOp .add k a (k, b) = some (.int k (wrapF k (a + b))) := by show gd (kindEq k k) _ = _; rw [kindEq_refl]; rfl
@[simp] theorem intOp_sub (k : IntKind) (a b : Int) : intOp .sub k a (k, b) = some (.int k (wrapF k (a - b))) := by show gd (kindEq k k) _ = _; rw [kindEq_refl]; rfl
@[simp] theorem intOp_mul (k : IntKind) (a b : Int) : intOp .mul k a (k, b) = some (.int k (wrapF k (a * b))) := by show gd (kindEq k k) _ = _; rw [kindEq_refl]; rfl
@[simp] theorem intOp_eql (k : IntKind) (a b : Int) : intOp .eql k a (k, b) = some (.bool (decide (a = b))) := by
  show gd (kindEq k k) (some (Value.bool (intEq a b))) = _
  rw [kindEq_refl, intEq_eq]
  by_cases h : a = b <;> simp [h]
@[simp] theorem intOp_neq (k : IntKind) (a b : Int) : intOp .neq k a (k, b) = some (.bool (!decide (a = b))) := by
  show gd (kindEq k k) (some (Value.bool (bt (intEq a b) false true))) = _
  rw [kindEq_refl, intEq_eq]; cases h : (a == b) <;> simp_all
@[simp] theorem intOp_lss (k : IntKind) (a b : Int) : intOp .lss k a (k, b) = some (.bool (decide (a < b))) := by
  show gd (kindEq k k) (some (Value.bool (intLt a b))) = _
  rw [kindEq_refl, intLt_eq]; rfl
@[simp] theorem intOp_gtr (k : IntKind) (a b : Int) : intOp .gtr k a (k, b) = some (.bool (decide (b < a))) := by
  show gd (kindEq k k) (some (Value.bool (intLt b a))) = _
  rw [kindEq_refl, intLt_eq]; rfl
@[simp] theorem intOp_leq (k : IntKind) (a b : Int) : intOp .leq k a (k, b) = some (.bool (decide (a ≤ b))) := by
  show gd (kindEq k k) (some (Value.bool (bt (intLt b a) false true))) = _
  rw [kindEq_refl, intLt_eq]
  by_cases h : b < a
  · rw [decide_eq_true h, decide_eq_false (by omega)]; rfl
  · rw [decide_eq_false h, decide_eq_true (by omega)]; rfl
@[simp] theorem intOp_geq (k : IntKind) (a b : Int) : intOp .geq k a (k, b) = some (.bool (decide (b ≤ a))) := by
  show gd (kindEq k k) (some (Value.bool (bt (intLt a b) false true))) = _
  rw [kindEq_refl, intLt_eq]
  by_cases h : a < b
  · rw [decide_eq_true h, decide_eq_false (by omega)]; rfl
  · rw [decide_eq_false h, decide_eq_true (by omega)]; rfl
@[simp] theorem wrapF_i64 {n : Int} (h : -9223372036854775808 ≤ n ∧ n ≤ 9223372036854775807) : wrapF .i64 n = n := by
  rw [wrapF_eq]
  exact IntWalk.i64_in _ h
@[simp] theorem unV_not (b : Bool) : unV .not (.bool b) = some (.bool (!b)) := by cases b <;> rfl
@[simp] theorem unV_neg (k : IntKind) (n : Int) : unV .neg (.int k n) = some (.int k (wrapF k (0 - n))) := rfl
/-! Appending one element, to nothing or to what an append made -/
noncomputable def appV (size : Nat) (x y : Value) (s : St) : Option (Value × St) :=
  ob (sliceOf x) fun q => ob (sliceOf y) fun p => ob (newCells s.heap size p) fun new => gd (Nat.ble (q.2.1 + p.2.1) 1048576)
    (bt (Nat.ble (q.2.1 + p.2.1) q.2.2) (bt (Nat.beq p.2.1 0) (some (x, s)) (appRoom s size q p.2.1 new)) (appGrow s size q.1 q.2.1 (q.2.1 + p.2.1) new))
@[simp] theorem eAppend_def (size : Nat) (x y : Operand) : eAppend size x y self ρ s = appV size (ρ x) (ρ y) s := rfl
theorem takeL_all {α : Type} : ∀ l : List α, takeL l.length l = some l
  | [] => rfl
  | x :: l => by show ob (takeL l.length l) (fun r => some (x :: r)) = _; rw [takeL_all l]; rfl
theorem appV_nil {size b : Nat} {new : List Value} {g : Option Nat} (hb : s.heap.get b = some (.cells new g)) (hn : new.length = size) (ho : new.all oneV = true) :
    appV size (.slice none 0 0) (.slice (some ⟨b, 0, none⟩) 1 1) s = some (.slice (some ⟨s.next, 0, none⟩) 1 1, s.pushed (.cells new (some size))) := by
  subst hn
  show ob (ob (ob (s.heap.get b) cellsOf) fun c => ob (takeL (1 * new.length) (dropL 0 c.1)) fun l => gd (l.all oneV) (some l)) _ = _
  rw [hb]
  show ob (ob (takeL (1 * new.length) new) fun l => gd (l.all oneV) (some l)) _ = _
  rw [Nat.one_mul, takeL_all]
  show ob (gd (new.all oneV) (some new)) _ = _
  rw [ho]; rfl
theorem upd_dead {i : Nat} {c : List Value} {g : Option Nat} (h : s.heap.get i = some (.cells c g)) : s.upd i .dead = some (s.upded i .dead) := by
  unfold St.upd; rw [romAt_some h]; rfl
theorem appV_more {size b b2 n : Nat} {old new : List Value} {g : Option Nat} (h1 : s.heap.get b = some (.cells old (some size))) (hb : s.heap.get b2 = some (.cells new g)) (hn : new.length = size) (ho : new.all oneV = true) (hl : old.length = n * size) (hm : n + 1 ≤ 1048576) :
    appV size (.slice (some ⟨b, 0, none⟩) n n) (.slice (some ⟨b2, 0, none⟩) 1 1) s = some (.slice (some ⟨s.next, 0, none⟩) (n + 1) (n + 1), (s.upded b .dead).pushed (.cells (old ++ new) (some size))) := by
  subst hn
  show ob (ob (ob (s.heap.get b2) cellsOf) fun c => ob (takeL (1 * new.length) (dropL 0 c.1)) fun l => gd (l.all oneV) (some l)) _ = _
  rw [hb]
  show ob (ob (takeL (1 * new.length) new) fun l => gd (l.all oneV) (some l)) _ = _
  rw [Nat.one_mul, takeL_all]
  show ob (gd (new.all oneV) (some new)) _ = _
  rw [ho]
  show gd (Nat.ble (n + 1) 1048576) (bt (Nat.ble (n + 1) n) _ (ob (ob (s.heap.get b) cellsOf) fun c => ob (takeL (n * new.length) (dropL 0 c.1)) fun old => ob (killF s new.length c.2 b) fun s =>
      exNew s (.cells (old ++ new) (some new.length)) fun i => .slice (some ⟨i, 0, none⟩) (n + 1) (n + 1))) = _
  have e1 : Nat.ble (n + 1) 1048576 = true := by simpa using hm
  have e2 : Nat.ble (n + 1) n = false := by
    cases h : Nat.ble (n + 1) n with
    | false => rfl
    | true => have := Nat.le_of_ble_eq_true h; omega
  rw [e1, e2, h1]
  show ob (takeL (n * new.length) old) (fun old => ob (gd (Nat.beq new.length new.length) (s.upd b .dead)) fun s => exNew s (.cells (old ++ new) (some new.length)) fun i => .slice (some ⟨i, 0, none⟩) (n + 1) (n + 1)) = _
  rw [← hl, takeL_all, show Nat.beq new.length new.length = true by simp]
  show ob (s.upd b .dead) _ = _
  rw [upd_dead h1]; rfl
noncomputable def growV (size n b : Nat) (new : List Value) (s : St) : AObj → Option (Value × St)
  | .cells old (some z) => gd (Nat.beq z size && Nat.beq old.length (n * size) && Nat.ble (n + 1) 1048576) (some (.slice (some ⟨s.next, 0, none⟩) (n + 1) (n + 1), (s.upded b .dead).pushed (.cells (old ++ new) (some size))))
  | _ => none
theorem growV_cells {size n b : Nat} {new old : List Value} (h : old.length = n * size) (hm : n + 1 ≤ 1048576) : growV size n b new s (.cells old (some size)) = some (.slice (some ⟨s.next, 0, none⟩) (n + 1) (n + 1), (s.upded b .dead).pushed (.cells (old ++ new) (some size))) := by
  show gd (Nat.beq size size && Nat.beq old.length (n * size) && Nat.ble (n + 1) 1048576) _ = _
  rw [show Nat.beq size size = true by simp, h, show Nat.beq (n * size) (n * size) = true by simp, show Nat.ble (n + 1) 1048576 = true by simpa using hm]; rfl
@[simp] theorem appV_nilE (size b : Nat) : appV size (.slice none 0 0) (.slice (some ⟨b, 0, none⟩) 1 1) s = ob (s.heap.get b) fun o => ob (cellsOf o) fun c => ob (takeL size c.1) fun l => gd (onesL l) (some (.slice (some ⟨s.next, 0, none⟩) 1 1, s.pushed (.cells l (some size)))) := by
  show ob (ob (ob (s.heap.get b) cellsOf) fun c => ob (takeL (1 * size) (dropL 0 c.1)) fun l => gd (l.all oneV) (some l)) _ = _
  rw [Nat.one_mul]
  cases s.heap.get b with
  | none => rfl
  | some o =>
    show ob (ob (cellsOf o) fun c => ob (takeL size c.1) fun l => gd (l.all oneV) (some l)) _ = ob (cellsOf o) _
    cases cellsOf o with
    | none => rfl
    | some c =>
      show ob (ob (takeL size c.1) fun l => gd (l.all oneV) (some l)) _ = ob (takeL size c.1) _
      cases takeL size c.1 with
      | none => rfl
      | some l =>
        show ob (gd (l.all oneV) (some l)) _ = gd (onesL l) _
        rw [onesL_eq]
        cases onesL l <;> rfl
theorem appV_moreE {size b b2 n : Nat} {old : List Value} (h1 : s.heap.get b = some (.cells old (some size))) (hl : old.length = n * size) (hm : n + 1 ≤ 1048576) : appV size (.slice (some ⟨b, 0, none⟩) n n) (.slice (some ⟨b2, 0, none⟩) 1 1) s = ob (s.heap.get b2) fun o => ob (cellsOf o) fun c => ob (takeL size c.1) fun new => gd (onesL new) (some (.slice (some ⟨s.next, 0, none⟩) (n + 1) (n + 1), (s.upded b .dead).pushed (.cells (old ++ new) (some size)))) := by
  show ob (ob (ob (s.heap.get b2) cellsOf) fun c => ob (takeL (1 * size) (dropL 0 c.1)) fun l => gd (l.all oneV) (some l)) _ = _
  rw [Nat.one_mul]
  cases s.heap.get b2 with
  | none => rfl
  | some o =>
    show ob (ob (cellsOf o) fun c => ob (takeL size c.1) fun l => gd (l.all oneV) (some l)) _ = ob (cellsOf o) _
    cases cellsOf o with
    | none => rfl
    | some c =>
      show ob (ob (takeL size c.1) fun l => gd (l.all oneV) (some l)) _ = ob (takeL size c.1) _
      cases takeL size c.1 with
      | none => rfl
      | some new =>
        show ob (gd (new.all oneV) (some new)) _ = gd (onesL new) _
        rw [onesL_eq]
        cases onesL new with
        | false => rfl
        | true =>
          show gd (Nat.ble (n + 1) 1048576) (bt (Nat.ble (n + 1) n) _ (ob (ob (s.heap.get b) cellsOf) fun c => ob (takeL (n * size) (dropL 0 c.1)) fun old => ob (killF s size c.2 b) fun s =>
            exNew s (.cells (old ++ new) (some size)) fun i => .slice (some ⟨i, 0, none⟩) (n + 1) (n + 1))) = _
          have e1 : Nat.ble (n + 1) 1048576 = true := by simpa using hm
          have e2 : Nat.ble (n + 1) n = false := by
            cases h : Nat.ble (n + 1) n with
            | false => rfl
            | true => have := Nat.le_of_ble_eq_true h; omega
          rw [e1, e2, h1]
          show ob (takeL (n * size) old) (fun old => ob (gd (Nat.beq size size) (s.upd b .dead)) fun s => exNew s (.cells (old ++ new) (some size)) fun i => .slice (some ⟨i, 0, none⟩) (n + 1) (n + 1)) = _
          rw [← hl, takeL_all, show Nat.beq size size = true by simp]
          show ob (s.upd b .dead) _ = _
          rw [upd_dead h1]; rfl
/-! Maps -/
@[simp] theorem mapOf_map (es : List (Value × Value × Nat)) (c : Nat) : mapOf (.map es c) = some (es, c) := rfl
@[simp] theorem mapAt_nil : mapAt H (.map none) = some [] := rfl
@[simp] theorem mapAt_some (r : Nat) : mapAt H (.map (some r)) = ob (ob (H.get r) mapOf) fun p => some p.1 := rfl
@[simp] theorem vLookup_def (kd : TypeDesc) (z : Value) (x k : Operand) (ok : Bool) : vLookup kd z x k ok ρ H = gd (keyKind kd (ρ k)) (ob (mapAt H (ρ x)) fun es => ob (findK (ρ k) es 0) fun r => some (foundV z ok r)) := rfl
@[simp] theorem keyKind_int (k q : IntKind) (n : Int) : keyKind (.int k) (.int q n) = true := rfl
@[simp] theorem keyKind_string (b : ByteArray) : keyKind .string (.string b) = true := rfl
noncomputable def updV (kd : TypeDesc) (key val : Value) (s : St) : Value → Option (Value × St)
  | .map (some r) => gd (keyKind kd key) (ob (ob (s.heap.get r) mapOf) fun p => ob (findK key p.1 0) fun f =>
      exUpd s r (Option.rec (motive := fun _ => AObj) (.map (p.1 ++ [(key, val, p.2)]) (p.2 + 1)) (fun q => .map (setK key val q.1 p.1) p.2) f))
  | _ => none
@[simp] theorem eMapUpd_def (kd : TypeDesc) (m k x : Operand) : eMapUpd kd m k x self ρ s = updV kd (ρ k) (ρ x) s (ρ m) := by
  unfold eMapUpd updV; cases ρ m with
  | map r => cases r <;> rfl
  | _ => rfl
@[simp] theorem updV_some (kd : TypeDesc) (key val : Value) (r : Nat) : updV kd key val s (.map (some r)) = gd (keyKind kd key) (ob (ob (s.heap.get r) mapOf) fun p => ob (findK key p.1 0) fun f =>
      exUpd s r (Option.rec (motive := fun _ => AObj) (.map (p.1 ++ [(key, val, p.2)]) (p.2 + 1)) (fun q => .map (setK key val q.1 p.1) p.2) f)) := rfl
/-! Results -/
@[simp] theorem resF_nil (T : Tab) (f : Fr) : resF T f s [] = some [] := rfl
@[simp] theorem resF_cons (T : Tab) (f : Fr) (r : ResultVar) (l : List ResultVar) : resF T f s (r :: l) = ob (resV T f s r) fun v => ob (resF T f s l) fun vs => some (v :: vs) := rfl
@[simp] theorem resV_tmp (T : Tab) (f : Fr) (t : Tmp) : resV T f s (.tmp t) = some (f.get t) := rfl
@[simp] theorem resV_cell (T : Tab) (f : Fr) (t : Tmp) (ty : TypeId) : resV T f s (.cell t ty) = ob (aggN T ty) fun m => ob (addrOf (f.get t)) fun p => ob (cellsAt s.heap p.1) fun c => partN c.1 p.2 m := rfl
@[simp] theorem tupled_one (v : Value) : tupled [v] = v := rfl
@[simp] theorem tupled_two (v w : Value) : tupled [v, w] = .tuple #[v, w] := rfl
@[simp] theorem tupled_three (u v w : Value) : tupled [u, v, w] = .tuple #[u, v, w] := rfl
end
/-! Small loops over lists of operands -/
@[simp] theorem mapL_nil {α β : Type} (f : α → β) : mapL f [] = [] := rfl
@[simp] theorem mapL_cons {α β : Type} (f : α → β) (x : α) (l : List α) : mapL f (x :: l) = f x :: mapL f l := rfl
@[simp] theorem fillL_nil (ρ : Env) (c : List Value) : fillL ρ [] c = some c := rfl
@[simp] theorem fillL_cons' (ρ : Env) (a n : Nat) (o : Operand) (l : List (Nat × Nat × Operand)) (c : List Value) : fillL ρ ((a, n, o) :: l) c = gd (Nat.beq (ρ o).cells.toList.length n) (ob (putL a (ρ o).cells.toList c) fun c => fillL ρ l c) := by
  show gd (Nat.beq (lenL (ρ o).cells.toList) n) _ = _
  rw [lenL_eq]; rfl
@[simp] theorem placesA_nil (n : Nat) : placesA n [] = [] := rfl
@[simp] theorem placesA_cons (n i : Nat) (o : Operand) (l : List (Nat × Operand)) : placesA n ((i, o) :: l) = (i * n, n, o) :: placesA n l := rfl
@[simp] theorem placesS_nil (pl : List (Nat × Nat)) : placesS pl [] = some [] := rfl
@[simp] theorem placesS_cons (pl : List (Nat × Nat)) (i : Nat) (o : Operand) (l : List (Nat × Operand)) : placesS pl ((i, o) :: l) = ob pl[i]? fun q => ob (placesS pl l) fun l => some ((q.1, q.2, o) :: l) := by
  show ob (nthL i pl) _ = _
  rw [nthL_eq]; rfl
@[simp] theorem repeatL_one {α : Type} (z : List α) : repeatL z 1 = z := by show z ++ [] = z; simp
@[simp] theorem repeatL_zero' {α : Type} (z : List α) : repeatL z 0 = [] := rfl
@[simp] theorem foundV_none (z : Value) : foundV z true none = .tuple #[z, .bool false] := rfl
@[simp] theorem foundV_some (z : Value) (i : Nat) (v : Value) : foundV z true (some (i, v)) = .tuple #[v, .bool true] := rfl
@[simp] theorem foundV_none1 (z : Value) : foundV z false none = z := rfl
@[simp] theorem foundV_some1 (z : Value) (i : Nat) (v : Value) : foundV z false (some (i, v)) = v := rfl
theorem repeatL_single {α : Type} (x : α) : ∀ n : Nat, repeatL [x] n = List.replicate n x
  | 0 => rfl
  | n + 1 => by show [x] ++ repeatL [x] n = _; rw [repeatL_single x n]; rfl
theorem putL_set {α : Type} (v : α) : ∀ (n : Nat) (l : List α), n < l.length → putL n [v] l = some (l.set n v)
  | 0, [], h => by simp at h
  | 0, x :: l, _ => rfl
  | n + 1, [], h => by simp at h
  | n + 1, x :: l, h => by
    show ob (putL n [v] l) (fun l => some (x :: l)) = _
    rw [putL_set v n l (by simpa using h)]; rfl
@[simp] theorem eMakeSl_def {ρ : Env} (z : List Value) (n : Nat) (l c : Operand) : eMakeSl z n l c ρ = ob (natOf (ρ l)) fun l => ob (natOf (ρ c)) fun c => gd (Nat.ble l c && Nat.ble c 65536 && Nat.ble n 65536) (some (.cells (repeatL z c) none, fun i => .slice (some ⟨i, 0, none⟩) l c)) := rfl
/-! A map from integers to integers, as a list of pairs. -/
def mapL2 (es : List (Int × Int)) : Nat → List (Value × Value × Nat)
  | c => match es with
    | [] => []
    | (a, b) :: r => (.int .i64 a, .int .i64 b, c) :: mapL2 r (c + 1)
def lookI (es : List (Int × Int)) (x : Int) : Option Int := (es.find? fun p => p.1 == x).map (·.2)
theorem findK_ints (x : Int) : ∀ (es : List (Int × Int)) (c i : Nat), ∃ r, findK (.int .i64 x) (mapL2 es c) i = some r ∧ (r.map (·.2) = (lookI es x).map (Value.int .i64)) ∧ (r = none ↔ lookI es x = none)
  | [], c, i => ⟨none, rfl, rfl, by simp [lookI]⟩
  | (a, b) :: r, c, i => by
    show ∃ q, ob (sameScalar (.int .i64 x) (.int .i64 a)) (fun t => bt t (some (some (i, .int .i64 b))) (findK (.int .i64 x) (mapL2 r (c + 1)) (i + 1))) = some q ∧ _
    have e : sameScalar (.int .i64 x) (.int .i64 a) = some (decide (a = x)) := by
      show gd (kindEq .i64 .i64) (some (intEq x a)) = _
      rw [intEq_eq]
      by_cases h : a = x
      · subst h; simp [kindEq, kindNo]
      · have h' : ¬ x = a := fun e => h e.symm
        simp [kindEq, kindNo, h, h']
    rw [e]
    by_cases h : a = x
    · subst h
      exact ⟨some (i, .int .i64 b), by simp, by simp [lookI], by simp [lookI]⟩
    · obtain ⟨q, h1, h2, h3⟩ := findK_ints x r (c + 1) (i + 1)
      refine ⟨q, by simp [h, h1], ?_, ?_⟩
      · rw [h2]; simp [lookI, h]
      · rw [h3]; simp [lookI, h]
end Go.Proofs.Ytifkpaomhnlahaa.Kern
