/-
  Rules by which a calculated run is followed on unknown data. It holds of every program whose table of types and functions fits (TabOk).
-/
import Derived.Test.YtifkpaomhnlahaaKernQ
namespace Go.Proofs.Ytifkpaomhnlahaa.Kern
open Go

/-! ## The calculated run on unknown data -/
section
variable {T : Tab}
/-- From some fuel on the calculation yields one answer, and that is as wanted. -/
def Evn (T : Tab) {α : Type} (F : Self → Option α) (Q : α → Prop) : Prop := ∃ m a, (∀ k, m ≤ k → F (run T k) = some a) ∧ Q a
def Cd (T : Tab) (rd : Bool) (n : Nat) (c : Code) (f : Fr) (s : St) (Q : Ex → Fr → St → Prop) : Prop := Evn T (fun self => self.code rd n c f s) fun p => Q p.1 p.2.1 p.2.2
def Ev (T : Tab) (g : FuncId) (args : List Value) (s : St) (Q : Value → St → Prop) : Prop := Evn T (fun self => self.call g args s) fun p => Q p.1 p.2

theorem Evn.bind {α β : Type} {F : Self → Option α} {G : α → Self → Option β} {Q : β → Prop} (h : Evn T F fun a => Evn T (G a) Q) : Evn T (fun self => ob (F self) fun a => G a self) Q := by
  obtain ⟨m, a, h1, m2, b, h2, h3⟩ := h
  refine ⟨max m m2, b, fun k hk => ?_, h3⟩
  show ob (F (run T k)) (fun a => G a (run T k)) = some b
  rw [h1 k (by omega)]
  exact h2 k (by omega)
theorem Evn.ret {α : Type} {a : α} {Q : α → Prop} (h : Q a) : Evn T (fun _ => some a) Q := ⟨0, a, fun _ _ => rfl, h⟩
theorem Evn.mono {α : Type} {F : Self → Option α} {Q R : α → Prop} (h : Evn T F Q) (k : ∀ a, Q a → R a) : Evn T F R := by
  obtain ⟨m, a, h1, h2⟩ := h; exact ⟨m, a, h1, k a h2⟩
theorem Evn.congr {α : Type} {F G : Self → Option α} {Q : α → Prop} (h : Evn T F Q) (e : ∀ self, G self = F self) : Evn T G Q := by
  obtain ⟨m, a, h1, h2⟩ := h; exact ⟨m, a, fun k hk => (e _).trans (h1 k hk), h2⟩
theorem Evn.by_eq {α : Type} {F G : Self → Option α} {Q : α → Prop} (e : ∀ self, G self = F self) (h : Evn T F Q) : Evn T G Q := h.congr e
theorem Evn.code {rd : Bool} {n : Nat} {c : Code} {f : Fr} {s : St} {Q : Ex × Fr × St → Prop} (h : Evn T (fun self => codeF T self rd n c f s) Q) : Evn T (fun self => self.code rd n c f s) Q := by
  obtain ⟨m, a, h1, h2⟩ := h
  refine ⟨m + 1, a, fun k hk => ?_, h2⟩
  obtain ⟨j, rfl⟩ : ∃ j, k = j + 1 := ⟨k - 1, by omega⟩
  exact h1 j (by omega)
theorem Evn.call {g : FuncId} {args : List Value} {s : St} {Q : Value × St → Prop} (hg : stubHit T g args = false) (h : Evn T (fun self => callF T self g args s) Q) : Evn T (fun self => self.call g args s) Q := by
  obtain ⟨m, a, h1, h2⟩ := h
  refine ⟨m + 1, a, fun k hk => ?_, h2⟩
  obtain ⟨j, rfl⟩ : ∃ j, k = j + 1 := ⟨k - 1, by omega⟩
  show bt (stubHit T g args) _ (callF T (run T j) g args s) = _
  rw [hg]
  exact h1 j (by omega)
theorem Ev.stub {g : FuncId} {s : St} {Q : Value → St → Prop} (hg : stubHit T g [] = true) (h : Q (.bool true) s) : Ev T g [] s Q := by
  refine ⟨1, (.bool true, s), fun k hk => ?_, h⟩
  obtain ⟨j, rfl⟩ : ∃ j, k = j + 1 := ⟨k - 1, by omega⟩
  show bt (stubHit T g []) _ (callF T (run T j) g [] s) = _
  rw [hg]; rfl
theorem Cd.mono {rd : Bool} {n : Nat} {c : Code} {f : Fr} {s : St} {Q R : Ex → Fr → St → Prop} (h : Cd T rd n c f s Q) (k : ∀ e f s, Q e f s → R e f s) : Cd T rd n c f s R := Evn.mono h fun _ => k _ _ _
theorem Ev.mono {g : FuncId} {args : List Value} {s : St} {Q R : Value → St → Prop} (h : Ev T g args s Q) (k : ∀ v s, Q v s → R v s) : Ev T g args s R := Evn.mono h fun _ => k _ _

/-! ### Code -/
def SeqK (T : Tab) (rd : Bool) (n : Nat) (b : Code) (Q : Ex → Fr → St → Prop) : Ex → Fr → St → Prop
  | .normal, f, s => Cd T rd n b f s Q
  | .exit i, f, s => Q (.exit i) f s
  | .goto l, f, s => Q (.goto l) f s
  | .ret, f, s => Q .ret f s
def BlockK (id : Nat) (Q : Ex → Fr → St → Prop) : Ex → Fr → St → Prop
  | .normal, f, s => Q .normal f s
  | .exit j, f, s => if j = id then Q .normal f s else Q (.exit j) f s
  | .goto l, f, s => Q (.goto l) f s
  | .ret, f, s => Q .ret f s
variable {rd : Bool} {n : Nat} {f : Fr} {s : St} {Q : Ex → Fr → St → Prop}
theorem cSeq_k {b : Code} {F : Self → Option (Ex × Fr × St)} (h : Evn T F fun p => SeqK T rd n b Q p.1 p.2.1 p.2.2) : Evn T (fun self => cSeq self rd n b (F self)) fun p => Q p.1 p.2.1 p.2.2 := by
  refine Evn.bind (G := fun p self => Ex.rec (motive := fun _ => Option (Ex × Fr × St)) (self.code rd n b p.2.1 p.2.2) (fun _ => some p) (fun _ => some p) (some p) p.1) (h.mono fun p hp => ?_)
  obtain ⟨e, f, s⟩ := p
  cases e with
  | normal => exact hp
  | exit i => exact Evn.ret hp
  | goto i => exact Evn.ret hp
  | ret => exact Evn.ret hp
theorem Cd.seq {a b : Code} (h : Cd T rd n a f s (SeqK T rd n b Q)) : Cd T rd n (.seq a b) f s Q := Evn.code (cSeq_k h)
theorem Cd.loop {c : Code} (h : Cd T rd n c f s (SeqK T rd n (.loop c) Q)) : Cd T rd n (.loop c) f s Q := Evn.code (cSeq_k h)
theorem Cd.skip (h : Q .normal f s) : Cd T rd n .skip f s Q := Evn.code (Evn.ret (a := (Ex.normal, f, s)) h)
theorem Cd.label {l : Nat} (h : Q .normal f s) : Cd T rd n (.label l) f s Q := Evn.code (Evn.ret (a := (Ex.normal, f, s)) h)
theorem Cd.exit {id : Nat} (h : Q (.exit id) f s) : Cd T rd n (.exit id) f s Q := Evn.code (Evn.ret (a := (Ex.exit id, f, s)) h)
theorem Cd.goto {id : Nat} (h : Q (.goto id) f s) : Cd T rd n (.goto id) f s Q := Evn.code (Evn.ret (a := (Ex.goto id, f, s)) h)
theorem Cd.ret (h : Q .ret f s) : Cd T rd n .ret f s Q := Evn.code (Evn.ret (a := (Ex.ret, f, s)) h)
theorem Cd.cond {o : Operand} {a b : Code} (x : Bool) (hc : constOk o = true) (hx : f.eval o = .bool x) (h1 : x = true → Cd T rd n a f s Q) (h2 : x = false → Cd T rd n b f s Q) : Cd T rd n (.cond o a b) f s Q := by
  refine Evn.code (Evn.congr (F := fun self => self.code rd n (bt x a b) f s) ?_ fun self => ?_)
  · cases x with
    | true => exact h1 rfl
    | false => exact h2 rfl
  · show gd (constOk o) (cCond self rd n (f.eval o) a b f s) = _
    rw [hc, hx]; rfl
theorem Cd.block {id : Nat} {c : Code} (h : Cd T rd n c f s (BlockK id Q)) : Cd T rd n (.block id c) f s Q := by
  refine Evn.code ?_
  show Evn T (fun self => cBlock id (self.code rd n c f s)) _
  refine Evn.bind (G := fun p _ => Ex.rec (motive := fun _ => Option (Ex × Fr × St)) (some p) (fun j => bt (Nat.beq j id) (some (.normal, p.2)) (some p)) (fun _ => some p) (some p) p.1) (Evn.mono h fun p hp => ?_)
  obtain ⟨e, f, s⟩ := p
  cases e with
  | normal => exact Evn.ret (a := (Ex.normal, f, s)) hp
  | exit j =>
    change (if j = id then Q .normal f s else Q (.exit j) f s) at hp
    by_cases e : j = id
    · rw [if_pos e] at hp; subst e
      refine Evn.congr (Evn.ret (a := (Ex.normal, f, s)) hp) fun _ => ?_
      show bt (Nat.beq j j) _ _ = _
      simp [bt]
    · rw [if_neg e] at hp
      refine Evn.congr (Evn.ret (a := (Ex.exit j, f, s)) hp) fun _ => ?_
      show bt (Nat.beq j id) _ _ = _
      rw [show Nat.beq j id = false by cases hb : Nat.beq j id with | false => rfl | true => exact absurd (Nat.eq_of_beq_eq_true hb) e]; rfl
  | goto l => exact Evn.ret (a := (Ex.goto l, f, s)) hp
  | ret => exact Evn.ret (a := (Ex.ret, f, s)) hp
theorem Cd.scope {c : Code} (h : Cd T rd n c f s fun e f s => (∀ l, e ≠ .goto l) ∧ Q e f s) : Cd T rd n (.scope c) f s Q := by
  refine Evn.code ?_
  show Evn T (fun self => cScope (self.code rd n c f s)) _
  refine Evn.bind (G := fun p _ => Ex.rec (motive := fun _ => Option (Ex × Fr × St)) (some p) (fun _ => some p) (fun _ => none) (some p) p.1) (Evn.mono h fun p hp => ?_)
  obtain ⟨e, f, s⟩ := p
  cases e with
  | normal => exact Evn.ret (a := (Ex.normal, f, s)) hp.2
  | exit j => exact Evn.ret (a := (Ex.exit j, f, s)) hp.2
  | goto l => exact absurd rfl (hp.1 l)
  | ret => exact Evn.ret (a := (Ex.ret, f, s)) hp.2

/-! ### Straight code -/
/-- An operation without what only orders and places say of it. -/
structure SOp where
  d : Option Tmp
  op : Op
  g : Option (Nat × Bool)
def strip (o : Oper) : SOp := ⟨o.dst, o.op, o.guard⟩
noncomputable def compOp (T : Tab) (op : Op) : Option CAct := comp T ⟨none, op, 0, "", #[], none⟩
theorem compOp_eq (o : Oper) : comp T o = compOp T o.op := rfl
/-- An operation, done. -/
noncomputable def actO (T : Tab) (self : Self) (op : Op) (f : Fr) (s : St) : Option (Value × St) := ob (compOp T op) fun a => actF self a f s
noncomputable def guardV (b : Bool) (v : Value) : Bool := Option.rec (motive := fun _ => Bool) false (fun x => bt x b (bt b false true)) (boolOf v)
noncomputable def guardO (b : Bool) (f : Fr) : Option (Option Tmp) → Bool
  | some (some t) => guardV b (f.get t)
  | _ => false
noncomputable def wantS (ds : List (Option Tmp)) (f : Fr) : Option (Nat × Bool) → Bool
  | none => true
  | some (j, b) => guardO b f ds[j]?
noncomputable def stepsF (T : Tab) (self : Self) (ds : List (Option Tmp)) : List SOp → Fr → St → Option (Fr × St)
  | [], f, s => some (f, s)
  | ⟨d, op, g⟩ :: l, f, s => ob (bt (wantS ds f g) (actO T self op f s) (some (undef, s))) fun p => stepsF T self ds l (f.put d p.1) p.2
theorem wantS_eq {all : List Oper} {o : Oper} {g : Option (Tmp × Bool)} (h : guardOf all o = some g) (f : Fr) : wantS (all.map (·.dst)) f o.guard = wantedF g f := by
  unfold guardOf at h
  cases hg : o.guard with
  | none => rw [hg] at h; cases h; rfl
  | some p =>
    rw [hg] at h
    obtain ⟨oj, h1, h2⟩ := ob_eq h
    obtain ⟨t, h3, h4⟩ := ob_eq h2
    cases h4
    rw [nthL_eq] at h1
    show guardO p.2 f (all.map (·.dst))[p.1]? = _
    rw [List.getElem?_map, h1]
    show guardO p.2 f (some oj.dst) = _
    rw [h3]; rfl
theorem opsF_steps {self : Self} {all : List Oper} {n : Nat} : ∀ {l : List Oper} {L : List COp}, compOps T n all l = some L → ∀ f s, opsF self L f s = stepsF T self (all.map (·.dst)) (l.map strip) f s
  | [], _, h, f, s => by cases h; rfl
  | o :: l, _, h, f, s => by
    obtain ⟨_, h1⟩ := gd_eq h
    obtain ⟨g, h2, h3⟩ := ob_eq h1
    obtain ⟨a, h4, h5⟩ := ob_eq h3
    obtain ⟨r, h6, h7⟩ := ob_eq h5
    cases h7
    show ob (bt (wantedF g f) (actF self a f s) (some (undef, s))) (fun p => opsF self r (f.put o.dst p.1) p.2) = ob (bt (wantS (all.map (·.dst)) f o.guard) (ob (compOp T o.op) fun a => actF self a f s) (some (undef, s))) fun p => stepsF T self (all.map (·.dst)) (l.map strip) (f.put o.dst p.1) p.2
    rw [wantS_eq h2, ← compOp_eq, h4]
    show ob (bt (wantedF g f) (actF self a f s) (some (undef, s))) _ = ob (bt (wantedF g f) (actF self a f s) (some (undef, s))) _
    congr 1
    funext p
    exact opsF_steps h6 _ _
noncomputable def okOps (T : Tab) (n : Nat) (ops : Array Oper) : Bool := (compOps T n ops.toList ops.toList).isSome
theorem Cd.region {id : Nat} {ops : Array Oper} {ds : List (Option Tmp)} {L : List SOp} (hc : okOps T n ops = true) (hd : ops.toList.map (·.dst) = ds) (hl : ops.toList.map strip = L) (h : Evn T (fun self => stepsF T self ds L f s) fun p => Q .normal p.1 p.2) : Cd T rd n (.region id ops false) f s Q := by
  subst hd; subst hl
  unfold okOps at hc
  obtain ⟨L, hL⟩ := Option.isSome_iff_exists.1 hc
  refine Evn.code ?_
  obtain ⟨m, p, h1, h2⟩ := h
  refine ⟨m, (.normal, p), fun k hk => ?_, h2⟩
  show ob (compOps T n ops.toList ops.toList) (fun l => ob (opsF (run T k) l f s) fun p => some (Ex.normal, p)) = _
  rw [hL]
  show ob (opsF (run T k) L f s) (fun p => some (Ex.normal, p)) = _
  rw [opsF_steps hL, show stepsF T (run T k) (ops.toList.map (·.dst)) (ops.toList.map strip) f s = some p from h1 k hk]
  rfl

/-! ### Calls -/
noncomputable def fr0 (args : List Value) : Fr := ⟨Tree.ofList args 0 .leaf, []⟩
theorem fr0_get (args : List Value) (t : Nat) (h : args.length ≤ top) : (fr0 args).get t = (args[t]?).getD undef := by
  show Option.rec (motive := fun _ => Value) undef (fun v => v) ((Tree.ofList args 0 .leaf).get t) = _
  rw [Tree.get_list args t h]
  cases args[t]? <;> rfl
theorem Fr.get_put' (f : Fr) (d t : Nat) (v : Value) : (f.put (some d) v).get t = if t = d then v else f.get t := by
  show Option.rec (motive := fun _ => Value) undef (fun v => v) ((f.tmps.set v (d + 1) d).get t) = _
  rw [Tree.get_setN]
  split <;> rfl
theorem Fr.put_none (f : Fr) (v : Value) : f.put none v = f := rfl
theorem Fr.marks_put (f : Fr) (d : Option Tmp) (v : Value) : (f.put d v).marks = f.marks := by cases d <;> rfl
def Leave (T : Tab) (rs : List ResultVar) (Q : Value → St → Prop) (e : Ex) (f : Fr) (s : St) : Prop :=
  (e = .normal ∨ e = .ret) ∧ ∃ s', leaveF f.marks s = some s' ∧ ∃ vs, resF T f s' rs = some vs ∧ Q (tupled vs) s'
theorem Ev.intro {g : FuncId} {args : List Value} {s : St} {Q : Value → St → Prop} {fn : Func} {c : Code} (h0 : stubHit T g args = false) (h1 : T.funcs.get g = some fn) (h2 : fn.body = some c)
    (h3 : (Nat.ble (lenL args) fn.ntmps && Nat.blt fn.ntmps top && Nat.blt (lenL args) top) = true) (h : Cd T false fn.ntmps c (fr0 args) s (Leave T fn.results.toList Q)) : Ev T g args s Q := by
  refine Evn.call h0 ?_
  obtain ⟨m, p, k1, k2⟩ := h
  obtain ⟨e, f, s1⟩ := p
  obtain ⟨he, s2, hm, vs, hv, hq⟩ := k2
  refine ⟨m, (tupled vs, s2), fun k hk => ?_, hq⟩
  show ob (T.funcs.get g) _ = _
  rw [h1]
  show ob fn.body _ = _
  rw [h2]
  show gd _ (ob ((run T k).code false fn.ntmps c (fr0 args) s) _) = _
  rw [h3, show (run T k).code false fn.ntmps c (fr0 args) s = some (e, f, s1) from k1 k hk]
  show gd (leaves e) (ob (leaveF f.marks s1) _) = _
  rw [show leaveF f.marks s1 = some s2 from hm]
  have hl : leaves e = true := by rcases he with rfl | rfl <;> rfl
  rw [hl]
  show ob (resF T f s2 fn.results.toList) _ = _
  rw [show resF T f s2 fn.results.toList = some vs from hv]
  rfl
end

/-! ### Memory -/
noncomputable def St.pushed (s : St) (o : AObj) : St := ⟨s.heap.set o (s.next + 1) s.next, s.next + 1⟩
noncomputable def St.upded (s : St) (i : Nat) (o : AObj) : St := ⟨s.heap.set o (i + 1) i, s.next⟩
theorem push_cells (s : St) (c : List Value) (g : Option Nat) : s.push (.cells c g) = some (s.pushed (.cells c g)) := rfl
theorem push_map (s : St) (c : List (Value × Value × Nat)) (g : Nat) : s.push (.map c g) = some (s.pushed (.map c g)) := rfl
theorem pushed_next (s : St) (o : AObj) : (s.pushed o).next = s.next + 1 := rfl
theorem upded_next (s : St) (i : Nat) (o : AObj) : (s.upded i o).next = s.next := rfl
theorem get_pushed (s : St) (o : AObj) (i : Nat) : (s.pushed o).heap.get i = if i = s.next then some o else s.heap.get i := Tree.get_setN _ _ _ _
theorem get_pushed_new (s : St) (o : AObj) : (s.pushed o).heap.get s.next = some o := by rw [get_pushed, if_pos rfl]
theorem get_pushed_old (s : St) (o : AObj) (i : Nat) (h : i ≠ s.next) : (s.pushed o).heap.get i = s.heap.get i := by rw [get_pushed, if_neg h]
theorem get_upded_same (s : St) (i : Nat) (o : AObj) : (s.upded i o).heap.get i = some o := by rw [St.upded, Tree.get_setN, if_pos rfl]
theorem get_upded_other (s : St) (i j : Nat) (o : AObj) (h : j ≠ i) : (s.upded i o).heap.get j = s.heap.get j := by rw [St.upded, Tree.get_setN, if_neg h]
theorem upd_cells {s : St} {i : Nat} {c c' : List Value} {g g' : Option Nat} (h : s.heap.get i = some (.cells c g)) : s.upd i (.cells c' g') = some (s.upded i (.cells c' g')) := by
  unfold St.upd; rw [romAt_some h]; rfl
theorem upd_map {s : St} {i : Nat} {c c' : List (Value × Value × Nat)} {g g' : Nat} (h : s.heap.get i = some (.map c g)) : s.upd i (.map c' g') = some (s.upded i (.map c' g')) := by
  unfold St.upd; rw [romAt_some h]; rfl
/-- What was there is as it was. -/
def Keep (s s' : St) : Prop := s.next ≤ s'.next ∧ ∀ i, i < s.next → s'.heap.get i = s.heap.get i
theorem Keep.refl (s : St) : Keep s s := ⟨Nat.le_refl _, fun _ _ => rfl⟩
theorem Keep.trans {a b c : St} (h : Keep a b) (k : Keep b c) : Keep a c := ⟨Nat.le_trans h.1 k.1, fun i hi => (k.2 i (Nat.lt_of_lt_of_le hi h.1)).trans (h.2 i hi)⟩
theorem Keep.pushed {a b : St} (h : Keep a b) (o : AObj) : Keep a (b.pushed o) := ⟨Nat.le_succ_of_le h.1, fun i hi => by rw [get_pushed_old _ _ _ (by have := h.1; omega)]; exact h.2 i hi⟩
theorem Keep.upded {a b : St} (h : Keep a b) {j : Nat} (hj : a.next ≤ j) (o : AObj) : Keep a (b.upded j o) := ⟨h.1, fun i hi => by rw [get_upded_other _ _ _ _ (by omega)]; exact h.2 i hi⟩
end Go.Proofs.Ytifkpaomhnlahaa.Kern
