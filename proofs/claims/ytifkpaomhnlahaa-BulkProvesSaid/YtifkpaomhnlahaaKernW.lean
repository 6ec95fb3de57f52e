/-
  What single operations of a calculated run do. It holds of every program whose table of types and functions fits (TabOk).
-/
import Derived.Test.YtifkpaomhnlahaaKernV
namespace Go.Proofs.Ytifkpaomhnlahaa.Kern
open Go

/-! ## What single operations do, as equations -/
section
variable {T : Tab} {self : Self} {f : Fr} {s : St}
theorem gd_iff {α : Type} {b : Bool} (h : b = true) (x : Option α) : gd b x = x := by subst h; rfl
theorem ob_assoc {α β γ : Type} (x : Option α) (k : α → Option β) (l : β → Option γ) : ob (ob x k) l = ob x fun a => ob (k a) l := by cases x <;> rfl
theorem ob_gd {α β : Type} (b : Bool) (x : Option α) (k : α → Option β) : ob (gd b x) k = gd b (ob x k) := by cases b <;> rfl
theorem steps_nil (ds : List (Option Tmp)) : stepsF T self ds [] f s = some (f, s) := rfl
theorem steps_plain (ds : List (Option Tmp)) (l : List SOp) (d : Option Tmp) (op : Op) : stepsF T self ds (⟨d, op, none⟩ :: l) f s = ob (actO T self op f s) fun p => stepsF T self ds l (f.put d p.1) p.2 := rfl
theorem steps_guard (ds : List (Option Tmp)) (l : List SOp) (d : Option Tmp) (op : Op) (j : Nat) (b : Bool) : stepsF T self ds (⟨d, op, some (j, b)⟩ :: l) f s =
    ob (bt (guardO b f ds[j]?) (actO T self op f s) (some (undef, s))) fun p => stepsF T self ds l (f.put d p.1) p.2 := rfl
theorem guardO_some (b : Bool) (t : Tmp) : guardO b f (some (some t)) = guardV b (f.get t) := rfl
@[simp] theorem guardV_undef (b : Bool) : guardV b undef = false := rfl
theorem guardV_true (x : Bool) : guardV true (.bool x) = x := by cases x <;> rfl
theorem guardV_false (x : Bool) : guardV false (.bool x) = !x := by cases x <;> rfl
theorem eval_tmp (t : Tmp) : f.eval (.tmp t) = f.get t := rfl
theorem eval_const (v : Value) : f.eval (.const v) = v := rfl
theorem eval_func (g : FuncId) : f.eval (.func g) = .func (.func g) #[] #[] := rfl
noncomputable def pureR (x : Option Value) (s : St) : Option (Value × St) := ob x fun v => some (v, s)
theorem pureR_some (v : Value) : pureR (some v) s = some (v, s) := rfl
theorem ob_pureR {β : Type} (x : Option Value) (k : Value × St → Option β) : ob (pureR x s) k = ob x fun v => k (v, s) := by cases x <;> rfl
theorem act_move (x : Operand) : actO T self (.move x) f s = some (f.eval x, s) := rfl
theorem act_assign (x : Operand) : actO T self (.assign x) f s = some (f.eval x, s) := rfl
theorem act_pick (c a b : Operand) : actO T self (.pick c a b) f s = pureR (vPick c a b f.eval s.heap) s := rfl
theorem act_alloc (t : TypeId) : actO T self (.alloc t) f s = ob (T.zero t) fun z => exNew s (.cells z.cells.toList none) ptrTo := by
  show ob (ob (T.zero t) _) _ = _; cases T.zero t <;> rfl
theorem act_box (t : TypeId) (x : Operand) : actO T self (.box t x) f s = exNew s (.cells (f.eval x).cells.toList none) ptrTo := rfl
theorem act_load (t : TypeId) (a : Operand) : actO T self (.load t a) f s = ob (aggN T t) fun m => pureR (vLoad m a f.eval s.heap) s := by
  show ob (ob (aggN T t) _) _ = _; cases aggN T t <;> rfl
theorem act_store (t : TypeId) (a x : Operand) : actO T self (.store t a x) f s = ob (T.size t) fun n => eStore n a x self f.eval s := by
  show ob (ob (T.size t) _) _ = _; cases T.size t <;> rfl
theorem act_bin (op : BinOp) (t u : TypeId) (x y : Operand) : actO T self (.binOp op t x y u) f s = ob (T.und t) fun dd => pureR (binV T dd t (T.prog.keyTypeAt 20 t && !T.prog.eqGuardType T.prog.depth t) op x y f.eval s.heap) s := by
  show ob (ob (T.und t) _) _ = _; cases T.und t <;> rfl
theorem act_un (op : UnOp) (t : TypeId) (x : Operand) : actO T self (.unOp op t x) f s = pureR (unV op (f.eval x)) s := rfl
theorem act_convert (a b : TypeId) (x : Operand) {k : IntKind} (h1 : (T.und a).isSome = true) (h2 : T.und b = some (.int k)) : actO T self (.convert a b x) f s = pureR (vConv k x f.eval s.heap) s := by
  obtain ⟨u, hu⟩ := Option.isSome_iff_exists.1 h1
  show ob (ob (T.und a) fun _ => ob (T.und b) _) _ = _
  rw [hu, h2]; rfl
theorem act_fieldAddr (t : TypeId) (x : Operand) (i : Nat) {fs : Array Field} {fd : Field} {m : Nat} (h1 : T.und t = some (.struct fs)) (h2 : nthL i fs.toList = some fd) (h3 : T.size fd.type = some m) (h4 : Nat.blt 0 m = true) :
    actO T self (.fieldAddr t x i) f s = pureR (vFieldAddr fd.offset x f.eval s.heap) s := by
  show ob (ob (T.und t) _) _ = _
  rw [h1]
  show ob (ob (nthL i fs.toList) _) _ = _
  rw [h2]
  show ob (ob (T.size fd.type) _) _ = _
  rw [h3]
  show ob (gd (Nat.blt 0 m) _) _ = _
  rw [h4]; rfl
theorem act_field (t : TypeId) (x : Operand) (i : Nat) {fs : Array Field} {fd : Field} {m : Option Nat} (h1 : T.und t = some (.struct fs)) (h2 : nthL i fs.toList = some fd) (h3 : aggN T fd.type = some m) :
    actO T self (.field t x i) f s = pureR (vField fd.offset m x f.eval s.heap) s := by
  show ob (ob (T.und t) _) _ = _
  rw [h1]
  show ob (ob (nthL i fs.toList) _) _ = _
  rw [h2]
  show ob (ob (aggN T fd.type) _) _ = _
  rw [h3]; rfl
theorem act_indexAddrS (t : TypeId) (x i : Operand) {e : TypeId} {n : Nat} (h1 : T.und t = some (.slice e)) (h2 : T.size e = some n) :
    actO T self (.indexAddr t x i) f s = pureR (vIndexAddrS n x i f.eval s.heap) s := by
  show ob (ob (T.und t) _) _ = _
  rw [h1]
  show ob (ob (T.size e) _) _ = _
  rw [h2]; rfl
theorem act_indexAddrA (t : TypeId) (x i : Operand) {e : TypeId} {n len : Nat} (h1 : T.und t = some (.array len e)) (h2 : T.size e = some n) :
    actO T self (.indexAddr t x i) f s = pureR (vIndexAddrA len n x i f.eval s.heap) s := by
  show ob (ob (T.und t) _) _ = _
  rw [h1]
  show ob (ob (T.size e) _) _ = _
  rw [h2]; rfl
theorem act_indexA (t : TypeId) (x i : Operand) {e : TypeId} {n len : Nat} {m : Option Nat} (h1 : T.und t = some (.array len e)) (h2 : T.size e = some n) (h3 : aggN T e = some m) :
    actO T self (.index t x i) f s = pureR (vIndexA len n m x i f.eval s.heap) s := by
  show ob (ob (T.und t) _) _ = _
  rw [h1]
  show ob (ob (T.size e) _) _ = _
  rw [h2]
  show ob (ob (aggN T e) _) _ = _
  rw [h3]; rfl
theorem act_indexStr (t : TypeId) (x i : Operand) (h1 : T.und t = some .string) : actO T self (.index t x i) f s = pureR (vIndexStr x i f.eval s.heap) s := by
  show ob (ob (T.und t) _) _ = _
  rw [h1]; rfl
theorem act_lookup (t : TypeId) (x k : Operand) (ok : Bool) {kt e : TypeId} {kd : TypeDesc} {z : Value} (h1 : T.und t = some (.map kt e)) (h2 : T.und kt = some kd) (h3 : T.zero e = some z) :
    actO T self (.lookup t x k ok) f s = pureR (vLookup kd z x k ok f.eval s.heap) s := by
  show ob (ob (T.und t) _) _ = _
  rw [h1]
  show ob (ob (T.und kt) _) _ = _
  rw [h2]
  show ob (ob (T.zero e) _) _ = _
  rw [h3]; rfl
theorem act_mapUpdate (t : TypeId) (m k x : Operand) {kt e : TypeId} {kd : TypeDesc} (h1 : T.und t = some (.map kt e)) (h2 : T.und kt = some kd) :
    actO T self (.mapUpdate t m k x) f s = eMapUpd kd m k x self f.eval s := by
  show ob (ob (T.und t) _) _ = _
  rw [h1]
  show ob (ob (T.und kt) _) _ = _
  rw [h2]; rfl
theorem act_insert (t : TypeId) (m k x : Operand) {kt e : TypeId} {kd : TypeDesc} (h1 : T.und t = some (.map kt e)) (h2 : T.und kt = some kd) :
    actO T self (.insert t m k x) f s = eMapUpd kd m k x self f.eval s := by
  show ob (ob (T.und t) _) _ = _
  rw [h1]
  show ob (ob (T.und kt) _) _ = _
  rw [h2]; rfl
theorem act_extract (t : Operand) (i : Nat) : actO T self (.extract t i) f s = pureR (vExtract t i f.eval s.heap) s := rfl
theorem act_nilCheck (x : Operand) : actO T self (.nilCheck x) f s = pureR (vNil x f.eval s.heap) s := rfl
theorem act_makeFunc (fn : FuncId) (first captured : Array Operand) : actO T self (.makeFunc (.func fn) first captured) f s = some (.func (.func fn) ⟨mapL f.eval first.toList⟩ ⟨mapL f.eval captured.toList⟩, s) := rfl
theorem act_makeMap (t : TypeId) : actO T self (.makeMap t none) f s = exNew s (.map [] 0) fun i => .map (some i) := rfl
theorem act_makeMapN (t : TypeId) (r : Operand) {kt e : TypeId} {n : IntKind × Int} (h1 : T.und t = some (.map kt e)) (h2 : intOfV (f.eval r) = some n) : actO T self (.makeMap t (some r)) f s = exNew s (.map [] 0) fun i => .map (some i) := by
  show ob (ob (T.und t) _) _ = _
  rw [h1]
  show ob (ob (intOfV (f.eval r)) fun _ => some (AObj.map [] 0, fun i => Value.map (some i))) (fun p => exNew s p.1 p.2) = _
  rw [h2]; rfl
theorem act_call (fo : Operand) (args : Array Operand) (tys : Array TypeId) : actO T self (.call ⟨.value fo, args, tys⟩) f s = callV self (f.eval fo) (mapL f.eval args.toList) s := rfl
theorem callV_func (g : FuncId) (first captured : Array Value) (args : List Value) : callV self (.func (.func g) first captured) args s = self.call g (first.toList ++ args ++ captured.toList) s := rfl
theorem act_lenStr (x : Operand) {t : TypeId} (h : T.und t = some .string) : actO T self (.call ⟨.builtin .len, #[x], #[t]⟩) f s = pureR (vLenStr x f.eval s.heap) s := by
  show ob (ob (T.und t) _) _ = _
  rw [h]; rfl
theorem act_lenSl (x : Operand) {t e : TypeId} (h : T.und t = some (.slice e)) : actO T self (.call ⟨.builtin .len, #[x], #[t]⟩) f s = pureR (vLenSl x f.eval s.heap) s := by
  show ob (ob (T.und t) _) _ = _
  rw [h]; rfl
theorem act_lenArr (x : Operand) {t e : TypeId} {n : Nat} (h : T.und t = some (.array n e)) : actO T self (.call ⟨.builtin .len, #[x], #[t]⟩) f s = some (.int .i64 (.ofNat n), s) := by
  show ob (ob (T.und t) _) _ = _
  rw [h]; rfl
theorem act_min (x : Operand) (xs : List Operand) (tys : Array TypeId) : actO T self (.call ⟨.builtin .min, ⟨x :: xs⟩, tys⟩) f s = pureR (vExt false x xs f.eval s.heap) s := rfl
theorem act_max (x : Operand) (xs : List Operand) (tys : Array TypeId) : actO T self (.call ⟨.builtin .max, ⟨x :: xs⟩, tys⟩) f s = pureR (vExt true x xs f.eval s.heap) s := rfl
theorem act_append (x y : Operand) {t t1 e e1 : TypeId} {n b : Nat} {z : Value} (h1 : T.und t = some (.slice e)) (h2 : T.und t1 = some (.slice e1)) (h3 : T.size e = some n) (h4 : T.bytes e = some b) (h5 : T.zero e = some z)
    (h6 : (Nat.ble b 1048576 && Nat.beq (lenL z.cells.toList) n) = true) : actO T self (.call ⟨.builtin .append, #[x, y], #[t, t1]⟩) f s = eAppend n x y self f.eval s := by
  show ob (ob (T.und t) fun d => ob (T.und t1) _) _ = _
  rw [h1, h2]
  show ob (ob (T.size e) fun n => ob (T.bytes e) fun by' => ob (T.zero e) _) _ = _
  rw [h3, h4, h5]
  show ob (gd _ _) _ = _
  rw [h6]; rfl
theorem act_makeSlice (t : TypeId) (l c : Operand) {e : TypeId} {n b : Nat} {z : Value} (h1 : T.und t = some (.slice e)) (h3 : T.size e = some n) (h4 : T.bytes e = some b) (h5 : T.zero e = some z)
    (h6 : (Nat.beq (lenL z.cells.toList) n && Nat.ble b 1048576) = true) : actO T self (.makeSlice t l c) f s = ob (eMakeSl z.cells.toList n l c f.eval) fun p => exNew s p.1 p.2 := by
  show ob (ob (T.und t) _) _ = _
  rw [h1]
  show ob (ob (T.size e) fun n => ob (T.zero e) fun z => ob (T.bytes e) _) _ = _
  rw [h3, h4, h5]
  show ob (gd _ _) _ = _
  rw [h6]; rfl
theorem act_buildS (t : TypeId) (pl0 : Array (Nat × Operand)) {z : Value} {fs : Array Field} {pl : List (Nat × Nat)} (h1 : T.zero t = some z) (h2 : T.und t = some (.struct fs)) (h3 : fieldPlaces T fs.toList = some pl) :
    actO T self (.build t pl0) f s = ob (placesS pl pl0.toList) fun l => pureR (aggV (fillL f.eval l z.cells.toList)) s := by
  show ob (ob (T.zero t) fun z => ob (T.und t) _) _ = _
  rw [h1, h2]
  show ob (ob (fieldPlaces T fs.toList) _) _ = _
  rw [h3]
  show ob (ob (placesS pl pl0.toList) _) _ = _
  cases placesS pl pl0.toList <;> rfl
theorem act_buildA (t : TypeId) (pl0 : Array (Nat × Operand)) {z : Value} {e : TypeId} {len n : Nat} (h1 : T.zero t = some z) (h2 : T.und t = some (.array len e)) (h3 : T.size e = some n) :
    actO T self (.build t pl0) f s = pureR (aggV (fillL f.eval (placesA n pl0.toList) z.cells.toList)) s := by
  show ob (ob (T.zero t) fun z => ob (T.und t) _) _ = _
  rw [h1, h2]
  show ob (ob (T.size e) _) _ = _
  rw [h3]; rfl
theorem act_buildSlice (t : TypeId) (len : Nat) (pl0 : Array (Nat × Operand)) {z : Value} {e : TypeId} {n : Nat} (h1 : T.und t = some (.slice e)) (h2 : T.size e = some n) (h3 : T.zero e = some z) (h4 : (Nat.beq (lenL z.cells.toList) n && Nat.ble (len * n) 16777216) = true) :
    actO T self (.buildSlice t len pl0) f s = ob (fillL f.eval (placesA n pl0.toList) (repeatL z.cells.toList len)) fun c => exNew s (.cells c none) fun i => .slice (some ⟨i, 0, none⟩) len len := by
  show ob (ob (T.und t) _) _ = _
  rw [h1]
  show ob (ob (T.size e) fun n => ob (T.zero e) _) _ = _
  rw [h2, h3]
  show ob (gd _ _) _ = _
  rw [h4]
  show ob (ob (fillL f.eval (placesA n pl0.toList) (repeatL z.cells.toList len)) fun c => some (AObj.cells c none, fun i => Value.slice (some ⟨i, 0, none⟩) len len)) (fun p => exNew s p.1 p.2) = _
  cases fillL f.eval (placesA n pl0.toList) (repeatL z.cells.toList len) <;> rfl
end
end Go.Proofs.Ytifkpaomhnlahaa.Kern
