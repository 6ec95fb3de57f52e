/-
  Straight code, calls, loops and regions that draw their order, as rules. Units, ends and bounds of masses are checked as stated, for every plant. A plant's first error is found as stated, for every list of flows. Lists of numbers are searched, and masses added and taken away, as stated. The excess of a set of units is as stated, for every list of flows with bounded masses. Excess answers as stated, for every plant and list of units. The reference's Check and its sum of masses answer as stated. The reference's excess is as stated, for every list of flows with bounded masses. The reference's set of units is as stated, with its errors. The reference's Excess, the comparison of lists and Name answer as stated. What is joined is found as stated, for every list of flows. Parts are yielded one after the other, as stated. Parts answers as stated, for every plant. What the reference gets has the same flows. The reference's heads are as stated, for every list of flows. Heads and roots say the same of what is joined. Parts are yielded as stated to a loop that may be left. A part with an excess is a proof that there is no balance. They hold with no condition but those that are written in each theorem.
-/
import Derived.Test.YtjehpgflhgpalaaPG1
import Derived.Test.YtjehpgflhgpalaaPG2
set_option linter.unusedSimpArgs false
set_option linter.unusedVariables false
namespace Go.Proofs.Ytjehpgflhgpalaa.Kern
open Go

/-! ## Runs of straight code, calls, loops -/
section
variable {T : Tab} {rd : Bool} {n : Nat} {f : Fr} {s : St} {Q : Ex → Fr → St → Prop}
def Run (T : Tab) (F : Self → Option (Fr × St)) (Q : Fr → St → Prop) : Prop := Evn T F fun p => Q p.1 p.2
theorem Run.by_eq {F G : Self → Option (Fr × St)} {Q : Fr → St → Prop} (e : ∀ self, G self = F self) (h : Run T F Q) : Run T G Q := Evn.congr h e
theorem Run.ret {f : Fr} {s : St} {Q : Fr → St → Prop} (h : Q f s) : Run T (fun _ => some (f, s)) Q := Evn.ret h
theorem Run.call {g : FuncId} {args : List Value} {s : St} {G : Value × St → Self → Option (Fr × St)} {Q : Fr → St → Prop} (h : Ev T g args s fun v s' => Run T (G (v, s')) Q) : Run T (fun self => ob (self.call g args s) fun p => G p self) Q := Evn.bind h
theorem Run.mono {F : Self → Option (Fr × St)} {Q R : Fr → St → Prop} (h : Run T F Q) (k : ∀ f s, Q f s → R f s) : Run T F R := Evn.mono h fun _ => k _ _
theorem Cd.reg {id : Nat} {ops : Array Oper} {ds : List (Option Tmp)} {L : List SOp} (hc : okOps T n ops = true) (hd : ops.toList.map (·.dst) = ds) (hl : ops.toList.map strip = L) (h : Run T (fun self => stepsF T self ds L f s) fun f s => Q .normal f s) : Cd T rd n (.region id ops false) f s Q := Cd.region hc hd hl h
theorem SeqK.nm {b : Code} (h : Cd T rd n b f s Q) : SeqK T rd n b Q .normal f s := h
theorem SeqK.x {b : Code} {i : Nat} (h : Q (.exit i) f s) : SeqK T rd n b Q (.exit i) f s := h
theorem SeqK.g {b : Code} {i : Nat} (h : Q (.goto i) f s) : SeqK T rd n b Q (.goto i) f s := h
theorem SeqK.r {b : Code} (h : Q .ret f s) : SeqK T rd n b Q .ret f s := h
theorem BlockK.nm {i : Nat} (h : Q .normal f s) : BlockK i Q .normal f s := h
theorem BlockK.same {i : Nat} (h : Q .normal f s) : BlockK i Q (.exit i) f s := by show (if i = i then _ else _); rw [if_pos rfl]; exact h
theorem BlockK.other {i j : Nat} (e : Nat.beq j i = false) (h : Q (.exit j) f s) : BlockK i Q (.exit j) f s := by
  show (if j = i then _ else _); rw [if_neg (fun q => by subst q; simp at e)]; exact h
theorem BlockK.r {i : Nat} (h : Q .ret f s) : BlockK i Q .ret f s := h
theorem BlockK.g {i l : Nat} (h : Q (.goto l) f s) : BlockK i Q (.goto l) f s := h
/-- What a round leaves: the relation again, with a lesser number, or the loop is left. -/
def LoopK (I : Nat → Fr → St → Prop) (m : Nat) (Q : Ex → Fr → St → Prop) : Ex → Fr → St → Prop
  | .normal, f, s => ∃ m', m' < m ∧ I m' f s
  | .exit i, f, s => Q (.exit i) f s
  | .goto l, f, s => Q (.goto l) f s
  | .ret, f, s => Q .ret f s
theorem LoopK.nm {I : Nat → Fr → St → Prop} {m : Nat} (m' : Nat) (h1 : m' < m) (h : I m' f s) : LoopK I m Q .normal f s := ⟨m', h1, h⟩
theorem LoopK.x {I : Nat → Fr → St → Prop} {m i : Nat} (h : Q (.exit i) f s) : LoopK I m Q (.exit i) f s := h
theorem LoopK.r {I : Nat → Fr → St → Prop} {m : Nat} (h : Q .ret f s) : LoopK I m Q .ret f s := h
theorem LoopK.g {I : Nat → Fr → St → Prop} {m l : Nat} (h : Q (.goto l) f s) : LoopK I m Q (.goto l) f s := h
theorem Cd.inv {c : Code} (I : Nat → Fr → St → Prop) (m : Nat) (h0 : I m f s) (step : ∀ m f s, I m f s → Cd T rd n c f s (LoopK I m Q)) : Cd T rd n (.loop c) f s Q := by
  induction m using Nat.strongRecOn generalizing f s with
  | _ m ih =>
    refine Cd.loop ((step m f s h0).mono fun e f s h => ?_)
    cases e with
    | normal => obtain ⟨m', h1, h2⟩ := h; exact ih m' h1 h2
    | exit i => exact h
    | goto l => exact h
    | ret => exact h
end

theorem Leave.mk {T : Tab} {rs : List ResultVar} {Q : Value → St → Prop} {e : Ex} {f : Fr} {s : St} {vs : List Value} (he : e = .normal ∨ e = .ret) (hm : f.marks = []) (hv : resF T f s rs = some vs) (hq : Q (tupled vs) s) : Leave T rs Q e f s := ⟨he, s, by rw [hm]; rfl, vs, hv, hq⟩
theorem Leave.one {T : Tab} {rs : List ResultVar} {Q : Value → St → Prop} {e : Ex} {f : Fr} {s : St} {vs : List Value} {m : Nat} (he : e = .normal ∨ e = .ret) (hm : f.marks = [m]) (hg : s.heap.get m = some (.deferred true)) (hv : resF T f (s.upded m .dead) rs = some vs) (hq : Q (tupled vs) (s.upded m .dead)) : Leave T rs Q e f s := by
  refine ⟨he, s.upded m .dead, ?_, vs, hv, hq⟩
  rw [hm]
  show ob (s.heap.get m) (fun o => gd (isLive o) (ob (s.upd m .dead) fun s => some s)) = _
  rw [hg]
  show ob (gd (bt (romAt s.heap m) false true) _) _ = _
  rw [romAt_some hg]; rfl

theorem Cd.ite {T : Tab} {rd : Bool} {n : Nat} {f : Fr} {s : St} {Q : Ex → Fr → St → Prop} {o : Operand} {a b : Code} {x : Bool} (hc : constOk o = true) (hx : f.eval o = .bool x) (h1 : x = true → Cd T rd n a f s Q) (h2 : x = false → Cd T rd n b f s Q) : Cd T rd n (.cond o a b) f s Q := Cd.cond x hc hx h1 h2

/-! ## Loops over functions -/
section
variable {T : Tab} {n : Nat} {f : Fr} {s : St} {Q : Ex → Fr → St → Prop}
theorem callV_yield {self : Self} (l : Nat) (args : List Value) (s : St) : callV self (.func (.yield l) #[] #[]) args s = exRound self l args s := rfl
/-- A round that may leave the loop. -/
theorem Evn.roundJ {l : Nat} {args : List Value} {r : ALoop} {P : Value × St → Prop} (hl : s.heap.get l = some (.loop r))
    (ha : (Nat.beq (lenL args) (lenL r.params) && r.params.all (fun t => Nat.blt t r.n) && Nat.blt r.n top) = true)
    (h : Cd T true r.n r.assign (putAll r.params args ⟨r.tmps, []⟩) s fun e f1 s1 => e = .normal ∧ ∃ r1, s1.heap.get l = some (.loop r1) ∧ r1.ready = true ∧ r1.jump = none ∧
      Cd T true r.n r.body f1 (s1.upded l (.loop ⟨false, none, r1.n, r1.tmps, r1.params, r1.assign, r1.body⟩)) fun e _ s3 => ∃ r2, s3.heap.get l = some (.loop r2) ∧ P (.bool (jumpOf e).isNone, s3.upded l (.loop ⟨(jumpOf e).isNone, jumpOf e, r2.n, r2.tmps, r2.params, r2.assign, r2.body⟩))) :
    Evn T (fun self => exRound self l args s) P := by
  obtain ⟨m, ⟨e, f1, s1⟩, k1, rfl, r1, k2, k3, k4, m2, ⟨e2, f2, s3⟩, k5, r2, k6, k7⟩ := h
  refine ⟨max m m2, _, fun k hk => ?_, k7⟩
  show ob (ob (s.heap.get l) loopOf) _ = _
  rw [hl]
  show gd _ (ob ((run T k).code true r.n r.assign (putAll r.params args ⟨r.tmps, []⟩) s) _) = _
  rw [ha, show (run T k).code true r.n r.assign (putAll r.params args ⟨r.tmps, []⟩) s = some (.normal, f1, s1) from k1 k (by omega)]
  show gd true (ob (ob (s1.heap.get l) loopOf) fun r1 => gd (r1.ready && r1.jump.isNone) (ob (s1.upd l (.loop ⟨false, none, r1.n, r1.tmps, r1.params, r1.assign, r1.body⟩)) fun s => exBody (run T k) l r f1 s)) = _
  rw [k2]
  show gd (r1.ready && r1.jump.isNone) (ob (gd (bt (romAt s1.heap l) false true) _) _) = _
  rw [k3, k4, romAt_some k2]
  show ob ((run T k).code true r.n r.body f1 (s1.upded l (.loop ⟨false, none, r1.n, r1.tmps, r1.params, r1.assign, r1.body⟩))) _ = _
  rw [show (run T k).code true r.n r.body f1 (s1.upded l (.loop ⟨false, none, r1.n, r1.tmps, r1.params, r1.assign, r1.body⟩)) = some (e2, f2, s3) from k5 k (by omega)]
  show ob (ob (s3.heap.get l) loopOf) (fun r2 => ob (s3.upd l (.loop ⟨(jumpOf e2).isNone, jumpOf e2, r2.n, r2.tmps, r2.params, r2.assign, r2.body⟩)) fun s => some (Value.bool (jumpOf e2).isNone, s)) = _
  rw [k6]
  show ob (gd (bt (romAt s3.heap l) false true) _) _ = _
  rw [romAt_some k6]; rfl
/-- A loop over a function that may be left. -/
theorem Cd.rangeJ {g : Operand} {ps : Array Tmp} {assign body : Code} {gi : FuncId} {first captured : Array Value} (hc : constOk g = true) (hfv : f.eval g = .func (.func gi) first captured)
    (h : Ev T gi (first.toList ++ [.func (.yield (s.next + 1)) #[] #[]] ++ captured.toList) ((s.pushed (.deferred true)).pushed (.loop ⟨true, none, n, f.tmps, ps.toList, assign, body⟩)) fun _ s' => ∃ r, s'.heap.get (s.next + 1) = some (.loop r) ∧
      ((r.ready = true ∧ r.jump = none ∧ Q .normal ⟨f.tmps, s.next :: f.marks⟩ (s'.upded (s.next + 1) .dead)) ∨ (r.jump = some .ret ∧ Q .ret ⟨f.tmps, s.next :: f.marks⟩ (s'.upded (s.next + 1) .dead)) ∨ ∃ i, r.jump = some (.exit i) ∧ Q (.exit i) ⟨f.tmps, s.next :: f.marks⟩ (s'.upded (s.next + 1) .dead))) :
    Cd T false n (.rangeFunc g ps assign body) f s Q := by
  refine Evn.code ?_
  obtain ⟨m, ⟨v, s'⟩, h1, r, h2, h3⟩ := h
  have key : ∀ (e : Ex) (k : Nat), m ≤ k → (r.ready || r.jump.isSome) = true → cJump (run T k) n r.jump ⟨f.tmps, s.next :: f.marks⟩ (s'.upded (s.next + 1) .dead) = some (e, ⟨f.tmps, s.next :: f.marks⟩, s'.upded (s.next + 1) .dead) → codeF T (run T k) false n (.rangeFunc g ps assign body) f s = some (e, ⟨f.tmps, s.next :: f.marks⟩, s'.upded (s.next + 1) .dead) := fun e k hk hj he => by
    show gd true (gd (constOk g) (ob (s.push (.deferred true)) fun s1 => ob (s1.push (.loop ⟨true, none, n, f.tmps, ps.toList, assign, body⟩)) fun s2 => ob (funcOf (f.eval g)) fun q => ob ((run T k).call q.1 (q.2.1 ++ [.func (.yield s1.next) #[] #[]] ++ q.2.2) s2) fun p => cEnd (run T k) n s1.next s.next f p.2)) = _
    rw [hc, hfv]
    show ob ((run T k).call gi (first.toList ++ [.func (.yield (s.next + 1)) #[] #[]] ++ captured.toList) ((s.pushed (.deferred true)).pushed (.loop ⟨true, none, n, f.tmps, ps.toList, assign, body⟩))) (fun p => cEnd (run T k) n (s.next + 1) s.next f p.2) = _
    rw [show (run T k).call gi _ _ = some (v, s') from h1 k hk]
    show ob (ob (s'.heap.get (s.next + 1)) loopOf) (fun r => gd (r.ready || r.jump.isSome) (ob (s'.upd (s.next + 1) .dead) fun s2 => cJump (run T k) n r.jump ⟨f.tmps, s.next :: f.marks⟩ s2)) = _
    rw [h2]
    show gd (r.ready || r.jump.isSome) _ = _
    rw [hj]
    show ob (gd (bt (romAt s'.heap (s.next + 1)) false true) _) (fun s2 => cJump (run T k) n r.jump ⟨f.tmps, s.next :: f.marks⟩ s2) = _
    rw [romAt_some h2]
    exact he
  rcases h3 with ⟨h3, h4, h5⟩ | ⟨h4, h5⟩ | ⟨i, h4, h5⟩
  · exact ⟨m, _, fun k hk => key .normal k hk (by rw [h3]; rfl) (by rw [h4]; rfl), h5⟩
  · refine ⟨m + 1, _, fun k hk => key .ret k (by omega) (by rw [h4]; simp) ?_, h5⟩
    obtain ⟨j, rfl⟩ : ∃ j, k = j + 1 := ⟨k - 1, by omega⟩
    rw [h4]; rfl
  · refine ⟨m + 1, _, fun k hk => key (.exit i) k (by omega) (by rw [h4]; simp) ?_, h5⟩
    obtain ⟨j, rfl⟩ : ∃ j, k = j + 1 := ⟨k - 1, by omega⟩
    rw [h4]; rfl
/-- A call of a function value, in straight code. -/
theorem Run.callV {fv : Value} {args : List Value} {G : Value × St → Self → Option (Fr × St)} {R : Fr → St → Prop} (h : Evn T (fun self => callV self fv args s) fun p => Run T (G p) R) : Run T (fun self => ob (Kern.callV self fv args s) fun p => G p self) R := Evn.bind h
end

/-! ## Slices in memory -/
/-- A slice whose elements have n cells each. -/
inductive SlAt (n : Nat) (s : St) : Value → List (List Value) → Prop
  | nil (c : Nat) : SlAt n s (.slice none 0 c) []
  | mk {b off c : Nat} {o : AObj} {cs : List Value} {g : Option Nat} {l : List (List Value)} (hb : b < s.next) (ho : s.heap.get b = some o) (hc : cellsOf o = some (cs, g)) (he : ∀ i e, l[i]? = some e → takeL n (cs.drop (off + i * n)) = some e) : SlAt n s (.slice (some ⟨b, off, none⟩) l.length c) l
theorem SlAt.keep {n : Nat} {s s' : St} {v : Value} {l : List (List Value)} (hk : Keep s s') (h : SlAt n s v l) : SlAt n s' v l := by
  cases h with
  | nil c => exact .nil c
  | mk hb ho hc he => exact .mk (Nat.lt_of_lt_of_le hb hk.1) ((hk.2 _ hb).trans ho) hc he
theorem SlAt.shape {n : Nat} {s : St} {v : Value} {l : List (List Value)} (h : SlAt n s v l) : ∃ a c, v = .slice a l.length c := by
  cases h with
  | nil c => exact ⟨none, c, rfl⟩
  | mk hb ho hc he => exact ⟨_, _, rfl⟩
theorem SlAt.at {n : Nat} {s : St} {a : Option Addr} {m c : Nat} {l : List (List Value)} (h : SlAt n s (.slice a m c) l) {k : Nat} {e : List Value} (hk : l[k]? = some e) :
    ∃ b off o cs g, a = some ⟨b, off, none⟩ ∧ b < s.next ∧ s.heap.get b = some o ∧ cellsOf o = some (cs, g) ∧ takeL n (cs.drop (off + k * n)) = some e := by
  cases h with
  | nil c => simp at hk
  | mk hb ho hc he => exact ⟨_, _, _, _, _, rfl, hb, ho, hc, he k e hk⟩
theorem SlAt.len {n : Nat} {s : St} {a : Option Addr} {m c : Nat} {l : List (List Value)} (h : SlAt n s (.slice a m c) l) : m = l.length := by
  cases h <;> rfl
theorem takeL_one {cs : List Value} {x : Value} (h : takeL 1 cs = some [x]) : cs[0]? = some x := by
  cases cs with
  | nil => cases h
  | cons y r => cases h; rfl

/-! ## Regions that draw their order -/
section
variable (T : Tab)
structure DRec where
  idx : Nat
  nw : Bool
  oper : SOp
  fr : Fr
  val : Value
  at_ : Nat
noncomputable def itemD (self : Self) (ds : List (Option Tmp)) (o : SOp) (f : Fr) (s : St) : Option (Value × St) := bt (wantS ds f o.g) (actO T self o.op f s) (some (undef, s))
noncomputable def isNewA (a : CAct) : Bool := CAct.rec (motive := fun _ => Bool) (fun _ => false) (fun _ => true) (fun _ => false) a
noncomputable def valEq : Option (Value × St) → Value → Bool
  | some p, v => veq 5 p.1 v
  | none, _ => false
noncomputable def objEq : Option AObj → Option AObj → Bool
  | some a, some b => oeq a b
  | _, _ => false
noncomputable def newObj (op : Op) (f : Fr) : Option AObj := match compOp T op with
  | some (.new g) => (g f.eval).map (·.1)
  | _ => none
/-- Would it do the same now? -/
noncomputable def recD (self : Self) (ds : List (Option Tmp)) (s : St) (r : DRec) : Bool :=
  bt (wantS ds r.fr r.oper.g) (bt r.nw (objEq (s.heap.get r.at_) (newObj T r.oper.op r.fr)) (valEq (actO T self r.oper.op r.fr s) r.val)) true
noncomputable def stepD (self : Self) (ds : List (Option Tmp)) : List (Nat × Nat × Bool × Bool × SOp) → List DRec → Fr → St → Option (Fr × St)
  | [], pend, f, s => gd (pend.all (recD T self ds s)) (some (f, s))
  | (i, m, h, nw, o) :: r, pend, f, s => bt h
      (gd (pend.all (recD T self ds s)) (ob (itemD T self ds o f s) fun p => stepD self ds r (pend.filter fun q => !m.testBit q.idx) (f.put o.d p.1) p.2))
      (ob (itemD T self ds o f s) fun p => stepD self ds r (⟨i, nw, o, f, p.1, s.next⟩ :: pend) (f.put o.d p.1) p.2)
end
section
variable {T : Tab} {self : Self} {all : List Oper}
/-- An item is made of the operation that it names. -/
def ItemIs (T : Tab) (all : List Oper) (x : PItem) : Prop := guardOf all x.oper = some x.op.guard ∧ x.op.dst = x.oper.dst ∧ comp T x.oper = some x.op.act
def RecMade (r : PRec × Nat) : Prop := wantedF r.1.item.op.guard r.1.fr = true → ∀ g, r.1.item.op.act = .new g → ∃ p, r.1.made = some (r.2, p.1) ∧ g r.1.fr.eval = some p
noncomputable def recOf (r : PRec × Nat) : DRec := ⟨r.1.item.idx, isNewA r.1.item.op.act, strip r.1.item.oper, r.1.fr, r.1.val, r.2⟩
theorem planF_items {n : Nat} : ∀ {l : List (Nat × Oper)} {acc L : List PItem}, planF T n all l acc = some L → ∀ x ∈ L, ItemIs T all x
  | [], _, _, h, x, hx => by cases h; cases hx
  | p :: r, acc, L, h, x, hx => by
    obtain ⟨_, h1⟩ := gd_eq h
    obtain ⟨g, h2, h3⟩ := ob_eq h1
    obtain ⟨a, h4, h5⟩ := ob_eq h3
    obtain ⟨l, h6, h7⟩ := ob_eq h5
    cases h7
    cases hx with
    | head => exact ⟨h2, rfl, h4⟩
    | tail _ hx => exact planF_items h6 x hx
theorem itemD_eq {x : PItem} (h : ItemIs T all x) (f : Fr) (s : St) : itemD T self (all.map (·.dst)) (strip x.oper) f s = itemF self x f s := by
  unfold itemD itemF actO strip
  simp only []
  rw [wantS_eq h.1, ← compOp_eq, h.2.2]; rfl
theorem recD_eq {r : PRec × Nat} (h : ItemIs T all r.1.item) (hm : RecMade r) (hl : heavyA r.1.item.op.act = false) (s : St) (hr : recD T self (all.map (·.dst)) s (recOf r) = true) : recOk s r.1 = true := by
  unfold recD recOf strip at hr
  unfold recOk
  simp only [] at hr
  rw [wantS_eq h.1] at hr
  cases hw : wantedF r.1.item.op.guard r.1.fr with
  | false => rfl
  | true =>
    rw [hw] at hr
    simp only [bt_true] at hr ⊢
    unfold newObj actO at hr
    rw [← compOp_eq, h.2.2] at hr
    cases ha : r.1.item.op.act with
    | pure g =>
      rw [ha] at hr
      change bt false _ (valEq (ob (g r.1.fr.eval s.heap) fun v => some (v, s)) r.1.val) = true at hr
      rw [bt_false] at hr
      show Option.rec (motive := fun _ => Bool) false (fun v => veq 5 v r.1.val) (g r.1.fr.eval s.heap) = true
      cases hg : g r.1.fr.eval s.heap with
      | none => rw [hg] at hr; cases hr
      | some v => rw [hg] at hr; exact hr
    | new g =>
      rw [ha] at hr
      obtain ⟨p, h1, h2⟩ := hm hw g ha
      change bt true (objEq (s.heap.get r.2) ((g r.1.fr.eval).map (·.1))) _ = true at hr
      rw [h2, bt_true] at hr
      show Option.rec (motive := fun _ => Bool) false (fun p => Option.rec (motive := fun _ => Bool) false (fun o => oeq o p.2) (s.heap.get p.1)) r.1.made = true
      rw [h1]
      show Option.rec (motive := fun _ => Bool) false (fun o' => oeq o' p.1) (s.heap.get r.2) = true
      change objEq (s.heap.get r.2) (some p.1) = true at hr
      cases hs : s.heap.get r.2 with
      | none => rw [hs] at hr; cases hr
      | some o' => rw [hs] at hr; exact hr
    | act g => rw [ha] at hl; cases hl
theorem all_rec {pend : List (PRec × Nat)} (hp : ∀ r ∈ pend, ItemIs T all r.1.item ∧ RecMade r ∧ heavyA r.1.item.op.act = false) {s : St} (h : (pend.map recOf).all (recD T self (all.map (·.dst)) s) = true) : (pend.map (·.1)).all (recOk s) = true := by
  rw [List.all_eq_true] at h ⊢
  intro r hr
  obtain ⟨q, hq, rfl⟩ := List.mem_map.1 hr
  obtain ⟨h1, h2, h3⟩ := hp q hq
  exact recD_eq h1 h2 h3 s (h _ (List.mem_map_of_mem hq))
theorem stepD_run : ∀ {L : List PItem} {pend : List (PRec × Nat)} {f : Fr} {s : St} {q : Fr × St}, (∀ x ∈ L, ItemIs T all x) → (∀ r ∈ pend, ItemIs T all r.1.item ∧ RecMade r ∧ heavyA r.1.item.op.act = false) →
    stepD T self (all.map (·.dst)) (L.map fun x => (x.idx, x.mask, heavyA x.op.act, isNewA x.op.act, strip x.oper)) (pend.map recOf) f s = some q → planRun self L (pend.map (·.1)) f s = some q
  | [], pend, f, s, q, _, hp, h => by
    obtain ⟨h1, h2⟩ := gd_eq h
    show gd ((pend.map (·.1)).all (recOk s)) (some (f, s)) = some q
    rw [all_rec hp h1]; exact h2
  | x :: r, pend, f, s, q, hL, hp, h => by
    have hx := hL x (.head _)
    have hr := fun y hy => hL y (.tail _ hy)
    change bt (heavyA x.op.act) (gd ((pend.map recOf).all (recD T self (all.map (·.dst)) s)) (ob (itemD T self (all.map (·.dst)) (strip x.oper) f s) fun p => stepD T self (all.map (·.dst)) (r.map _) ((pend.map recOf).filter fun q => !x.mask.testBit q.idx) (f.put x.oper.dst p.1) p.2))
      (ob (itemD T self (all.map (·.dst)) (strip x.oper) f s) fun p => stepD T self (all.map (·.dst)) (r.map _) (⟨x.idx, isNewA x.op.act, strip x.oper, f, p.1, s.next⟩ :: pend.map recOf) (f.put x.oper.dst p.1) p.2) = some q at h
    show bt (heavyA x.op.act) (gd ((pend.map (·.1)).all (recOk s)) (ob (itemF self x f s) fun p => planRun self r ((pend.map (·.1)).filter fun r => !x.mask.testBit r.item.idx) (f.put x.op.dst p.1) p.2))
      (ob (itemF self x f s) fun p => planRun self r (⟨x, f, p.1, madeF x f s⟩ :: pend.map (·.1)) (f.put x.op.dst p.1) p.2) = some q
    rw [itemD_eq hx] at h
    rw [hx.2.1]
    cases hh : heavyA x.op.act with
    | true =>
      rw [hh] at h
      obtain ⟨h1, h2⟩ := gd_eq h
      obtain ⟨p, h3, h4⟩ := ob_eq h2
      show gd ((pend.map (·.1)).all (recOk s)) _ = _
      rw [all_rec hp h1, h3]
      rw [List.filter_map] at h4
      show planRun self r ((pend.map (·.1)).filter fun r => !x.mask.testBit r.item.idx) _ _ = _
      rw [List.filter_map]
      exact stepD_run (pend := pend.filter fun q => !x.mask.testBit q.1.item.idx) hr (fun r' hr' => hp r' (List.mem_filter.1 hr').1) h4
    | false =>
      rw [hh] at h
      obtain ⟨p, h3, h4⟩ := ob_eq h
      show ob (itemF self x f s) _ = _
      rw [h3]
      refine stepD_run (pend := (⟨x, f, p.1, madeF x f s⟩, s.next) :: pend) hr (fun r' hr' => ?_) h4
      cases hr' with
      | head =>
        refine ⟨hx, fun hw g hg => ?_, hh⟩
        change wantedF x.op.guard f = true at hw
        change x.op.act = .new g at hg
        unfold itemF at h3
        rw [hw] at h3
        change actF self x.op.act f s = some p at h3
        rw [hg] at h3
        obtain ⟨u, h5, h6⟩ := ob_eq (show ob (g f.eval) (fun p => exNew s p.1 p.2) = some p from h3)
        exact ⟨u, by show madeF x f s = _; unfold madeF; rw [hg]; show ob (g f.eval) _ = _; rw [h5]; rfl, h5⟩
      | tail _ hr' => exact hp r' hr'
variable {rd : Bool} {n : Nat} {f : Fr} {s : St} {Q : Ex → Fr → St → Prop}
/-- The order in which a region is calculated: each operation's number, and what lies ahead of it. -/
noncomputable def planL (T : Tab) (n : Nat) (ops : Array Oper) : Option (List (Nat × Nat × Bool × Bool)) := ob (plan T n ops) fun l => some (l.map fun x => (x.idx, x.mask, heavyA x.op.act, isNewA x.op.act))
def ordered (ops : List SOp) : List (Nat × Nat × Bool × Bool) → List (Nat × Nat × Bool × Bool × SOp)
  | [] => []
  | (i, m, h, w) :: r => match ops[i]? with
    | some o => (i, m, h, w, o) :: ordered ops r
    | none => ordered ops r
theorem planF_ord {ops : List Oper} : ∀ {l : List (Nat × Oper)} {acc L : List PItem}, planF T n all l acc = some L → (∀ p ∈ l, ops[p.1]? = some p.2) → ordered (ops.map strip) (L.map fun x => (x.idx, x.mask, heavyA x.op.act, isNewA x.op.act)) = L.map fun x => (x.idx, x.mask, heavyA x.op.act, isNewA x.op.act, strip x.oper)
  | [], _, _, h, _ => by cases h; rfl
  | p :: r, acc, L, h, hp => by
    obtain ⟨_, h1⟩ := gd_eq h
    obtain ⟨g, h2, h3⟩ := ob_eq h1
    obtain ⟨a, h4, h5⟩ := ob_eq h3
    obtain ⟨l, h6, h7⟩ := ob_eq h5
    cases h7
    have ih := planF_ord (ops := ops) h6 fun q hq => hp q (.tail _ hq)
    have hp0 : (ops.map strip)[p.1]? = some (strip p.2) := by rw [List.getElem?_map, hp p (.head _)]; rfl
    simp only [List.map_cons, ordered, hp0, ih]
theorem Cd.drawn {id : Nat} {ops : Array Oper} {pl : List (Nat × Nat × Bool × Bool)} {ds : List (Option Tmp)} {L : List (Nat × Nat × Bool × Bool × SOp)} (hp : planL T n ops = some pl) (hd : ops.toList.map (·.dst) = ds) (hl : ordered (ops.toList.map strip) pl = L) (h : Run T (fun self => stepD T self ds L [] f s) fun f s => Q .normal f s) : Cd T rd n (.region id ops true) f s Q := by
  subst hd; subst hl
  obtain ⟨l, h1, h2⟩ := ob_eq hp
  cases h2
  refine Evn.code ?_
  obtain ⟨m, p, k1, k2⟩ := h
  refine ⟨m, (.normal, p), fun k hk => ?_, k2⟩
  show ob (plan T n ops) (fun l => ob (planRun (run T k) l [] f s) fun p => some (Ex.normal, p)) = _
  rw [h1]
  show ob (planRun (run T k) l [] f s) (fun p => some (Ex.normal, p)) = _
  obtain ⟨l', e1, e2⟩ := ob_eq h1
  obtain ⟨_, e3⟩ := gd_eq e2
  cases e3
  have := planF_ord (ops := ops.toList) e1 (fun p hp => orderF_at _ _ p hp)
  have k1' := k1 k hk
  change stepD T (run T k) (ops.toList.map (·.dst)) (ordered (ops.toList.map strip) (l.map fun x => (x.idx, x.mask, heavyA x.op.act, isNewA x.op.act))) [] f s = some p at k1'
  rw [this] at k1'
  rw [show planRun (run T k) l [] f s = some p from stepD_run (pend := []) (planF_items e1) (fun r hr => by cases hr) k1']
  rfl
end
/-! ### A region of loads and numbers that draws, and one last operation that writes or calls -/
section
variable {T : Tab} {self : Self} {all : List Oper}
noncomputable def stepG (T : Tab) (self : Self) (ds : List (Option Tmp)) : List (Bool × SOp) → Fr → St → Option (Fr × St)
  | [], f, s => some (f, s)
  | (h, o) :: r, f, s => ob (itemD T self ds o f s) fun p => gd (bt h true (veq 5 p.1 p.1)) (stepG T self ds r (f.put o.d p.1) p.2)
def simple : List (Nat × Nat × Bool × Bool) → List Nat → Bool
  | [], _ => true
  | (i, m, h, w) :: r, pend => match h with
    | true => pend.all (fun j => m.testBit j) && simple r []
    | false => !w && simple r (i :: pend)
variable {rd : Bool} {n : Nat} {f : Fr} {s : St} {Q : Ex → Fr → St → Prop}
def orderedG (ops : List SOp) : List (Nat × Nat × Bool × Bool) → List (Bool × SOp)
  | [] => []
  | (i, _, h, _) :: r => match ops[i]? with
    | some o => (h, o) :: orderedG ops r
    | none => orderedG ops r
theorem planF_ordG {ops : List Oper} : ∀ {l : List (Nat × Oper)} {acc L : List PItem}, planF T n all l acc = some L → (∀ p ∈ l, ops[p.1]? = some p.2) → orderedG (ops.map strip) (L.map fun x => (x.idx, x.mask, heavyA x.op.act, isNewA x.op.act)) = L.map fun x => (heavyA x.op.act, strip x.oper)
  | [], _, _, h, _ => by cases h; rfl
  | p :: r, acc, L, h, hp => by
    obtain ⟨_, h1⟩ := gd_eq h
    obtain ⟨g, h2, h3⟩ := ob_eq h1
    obtain ⟨a, h4, h5⟩ := ob_eq h3
    obtain ⟨l, h6, h7⟩ := ob_eq h5
    cases h7
    have ih := planF_ordG (ops := ops) h6 fun q hq => hp q (.tail _ hq)
    have hp0 : (ops.map strip)[p.1]? = some (strip p.2) := by rw [List.getElem?_map, hp p (.head _)]; rfl
    simp only [List.map_cons, orderedG, hp0, ih]
end
@[congr] theorem stepG_congr {T : Tab} {self : Self} {ds : List (Option Tmp)} {L : List (Bool × SOp)} {f : Fr} {s : St} : stepG T self ds L f s = stepG T self ds L f s := rfl
/-! ### The same, where some loads stand free of a call: they are done ahead of it, and looked at again behind it -/
section
variable {T : Tab} {self : Self} {all : List Oper}
structure HRec where
  oper : SOp
  fr : Fr
  val : Value
noncomputable def recH (T : Tab) (self : Self) (ds : List (Option Tmp)) (s : St) (r : HRec) : Bool := bt (wantS ds r.fr r.oper.g) (valEq (actO T self r.oper.op r.fr s) r.val) true
noncomputable def recsH (T : Tab) (self : Self) (ds : List (Option Tmp)) (s : St) : List HRec → Bool
  | [] => true
  | r :: l => recH T self ds s r && recsH T self ds s l
noncomputable def stepH (T : Tab) (self : Self) (ds : List (Option Tmp)) : List (Bool × Bool × SOp) → List HRec → Fr → St → Option (Fr × St)
  | [], _, f, s => some (f, s)
  | (h, late, o) :: r, pend, f, s => bt h
      (ob (itemD T self ds o f s) fun p => gd (recsH T self ds p.2 pend) (stepH T self ds r pend (f.put o.d p.1) p.2))
      (ob (itemD T self ds o f s) fun p => gd (veq 5 p.1 p.1) (stepH T self ds r (bt late (⟨o, f, p.1⟩ :: pend) pend) (f.put o.d p.1) p.2))
def lateOf (l : Bool) (i : Nat) (late : List Nat) : List Nat := if l = true then i :: late else late
/-- The flags say which operations are late. -/
def simpleH : List (Nat × Nat × Bool × Bool) → List Bool → List Nat → List Nat → Bool
  | [], _, _, _ => true
  | _ :: _, [], _, _ => false
  | (i, m, h, w) :: r, l :: ls, pend, late => match h with
    | true => pend.all (fun j => m.testBit j || late.contains j) && simpleH r ls (pend.filter fun j => !m.testBit j) late
    | false => !w && simpleH r ls (i :: pend) (lateOf l i late)
def flagH : List (Bool × SOp) → List Bool → List (Bool × Bool × SOp)
  | (h, o) :: r, l :: ls => (h, l, o) :: flagH r ls
  | _, _ => []
def LateOk (T : Tab) (all : List Oper) (late : List Nat) (hp : List HRec) (r : PRec) : Prop := r.item.idx ∈ late → (⟨strip r.item.oper, r.fr, r.val⟩ : HRec) ∈ hp ∧ ItemIs T all r.item ∧ (∃ g, r.item.op.act = .pure g)
theorem recsH_mem {ds : List (Option Tmp)} {s : St} : ∀ {l : List HRec}, recsH T self ds s l = true → ∀ r ∈ l, recH T self ds s r = true
  | [], _, r, h => by cases h
  | q :: l, h, r, hr => by
    simp only [recsH, Bool.and_eq_true] at h
    cases hr with
    | head => exact h.1
    | tail _ hr => exact recsH_mem h.2 r hr
theorem recH_ok {r : PRec} {s : St} (hi : ItemIs T all r.item) (hg : ∃ g, r.item.op.act = .pure g) (h : recH T self (all.map (·.dst)) s ⟨strip r.item.oper, r.fr, r.val⟩ = true) : recOk s r = true := by
  obtain ⟨g, hg⟩ := hg
  unfold recH strip at h
  simp only [] at h
  rw [wantS_eq hi.1] at h
  unfold recOk
  cases hw : wantedF r.item.op.guard r.fr with
  | false => rfl
  | true =>
    rw [hw] at h
    simp only [bt_true] at h ⊢
    unfold actO at h
    rw [← compOp_eq, hi.2.2, hg] at h
    change valEq (ob (g r.fr.eval s.heap) fun v => some (v, s)) r.val = true at h
    rw [hg]
    show Option.rec (motive := fun _ => Bool) false (fun v => veq 5 v r.val) (g r.fr.eval s.heap) = true
    cases hv : g r.fr.eval s.heap with
    | none => rw [hv] at h; cases h
    | some v => rw [hv] at h; exact h
theorem stepH_run : ∀ {L : List PItem} {fl : List Bool} {pend : List PRec} {hp : List HRec} {late : List Nat} {f : Fr} {s : St} {q : Fr × St}, (∀ x ∈ L, ItemIs T all x) → pend.all (recOk s) = true → (∀ r ∈ pend, LateOk T all late hp r) →
    simpleH (L.map fun x => (x.idx, x.mask, heavyA x.op.act, isNewA x.op.act)) fl (pend.map (·.item.idx)) late = true →
    (∀ j ∈ late, j ∉ L.map (·.idx)) → (∀ r ∈ pend, r.item.idx ∉ L.map (·.idx)) → (L.map (·.idx)).Nodup →
    stepH T self (all.map (·.dst)) (flagH (L.map fun x => (heavyA x.op.act, strip x.oper)) fl) hp f s = some q → planRun self L pend f s = some q
  | [], fl, pend, hp, late, f, s, q, _, hpd, _, _, _, _, _, h => by
    show gd (pend.all (recOk s)) (some (f, s)) = some q
    rw [hpd]
    cases fl <;> exact h
  | x :: r, [], pend, hp, late, f, s, q, _, _, _, hs, _, _, _, _ => by simp [simpleH] at hs
  | x :: r, l :: ls, pend, hp, late, f, s, q, hL, hpd, hlate, hs, hnl, hpn, hnd, h => by
    have hx := hL x (.head _)
    have hr := fun y hy => hL y (.tail _ hy)
    rw [List.map_cons, List.nodup_cons] at hnd
    have hnl2 : ∀ j ∈ late, j ∉ r.map (·.idx) := fun j hj hm => hnl j hj (by rw [List.map_cons]; exact .tail _ hm)
    have hpn2 : ∀ r' ∈ pend, r'.item.idx ∉ r.map (·.idx) := fun a ha hm => hpn a ha (by rw [List.map_cons]; exact .tail _ hm)
    have hpx : ∀ r' ∈ pend, r'.item.idx ≠ x.idx := fun a ha he => hpn a ha (by rw [List.map_cons, he]; exact .head _)
    change bt (heavyA x.op.act) (ob (itemD T self (all.map (·.dst)) (strip x.oper) f s) fun p => gd (recsH T self (all.map (·.dst)) p.2 hp) (stepH T self (all.map (·.dst)) (flagH (r.map _) ls) hp (f.put x.oper.dst p.1) p.2))
      (ob (itemD T self (all.map (·.dst)) (strip x.oper) f s) fun p => gd (veq 5 p.1 p.1) (stepH T self (all.map (·.dst)) (flagH (r.map _) ls) (bt l (⟨strip x.oper, f, p.1⟩ :: hp) hp) (f.put x.oper.dst p.1) p.2)) = some q at h
    rw [itemD_eq hx] at h
    show bt (heavyA x.op.act) (gd (pend.all (recOk s)) (ob (itemF self x f s) fun p => planRun self r (pend.filter fun r => !x.mask.testBit r.item.idx) (f.put x.op.dst p.1) p.2))
      (ob (itemF self x f s) fun p => planRun self r (⟨x, f, p.1, madeF x f s⟩ :: pend) (f.put x.op.dst p.1) p.2) = some q
    rw [hx.2.1]
    simp only [List.map_cons, simpleH] at hs
    cases hh : heavyA x.op.act with
    | true =>
      rw [hh] at hs h
      simp only [Bool.and_eq_true] at hs
      obtain ⟨p, h1, h2⟩ := ob_eq (show ob (itemF self x f s) _ = some q from h)
      obtain ⟨h3, h4⟩ := gd_eq h2
      show gd (pend.all (recOk s)) _ = _
      rw [hpd, h1]
      show planRun self r (pend.filter fun r => !x.mask.testBit r.item.idx) _ _ = _
      refine stepH_run hr ?_ (fun a ha => hlate a (List.mem_filter.1 ha).1) ?_ hnl2 (fun a ha => hpn2 a (List.mem_filter.1 ha).1) hnd.2 h4
      · rw [List.all_eq_true]
        intro a ha
        obtain ⟨ha1, ha2⟩ := List.mem_filter.1 ha
        have hq := List.all_eq_true.1 hs.1 _ (List.mem_map_of_mem ha1)
        have hm : a.item.idx ∈ late := by
          simp only [Bool.not_eq_true'] at ha2
          rw [ha2] at hq
          simpa using hq
        obtain ⟨k1, k2, k3⟩ := hlate a ha1 hm
        exact recH_ok k2 k3 (recsH_mem h3 _ k1)
      · rw [← hs.2, List.filter_map]; rfl
    | false =>
      rw [hh] at hs h
      simp only [Bool.and_eq_true, Bool.not_eq_true'] at hs
      obtain ⟨p, h1, h2⟩ := ob_eq (show ob (itemF self x f s) _ = some q from h)
      obtain ⟨h3, h4⟩ := gd_eq h2
      obtain ⟨g, hg⟩ : ∃ g, x.op.act = .pure g := by
        cases ha : x.op.act with
        | pure g => exact ⟨g, rfl⟩
        | new g => rw [ha] at hs; cases hs.1
        | act g => rw [ha] at hh; cases hh
      have hsame : p.2 = s ∧ recOk s ⟨x, f, p.1, madeF x f s⟩ = true := by
        unfold itemF at h1
        unfold recOk
        simp only []
        cases hw : wantedF x.op.guard f with
        | false => rw [hw] at h1; cases h1; exact ⟨rfl, rfl⟩
        | true =>
          rw [hw] at h1
          simp only [bt_true] at h1 ⊢
          rw [hg] at h1 ⊢
          obtain ⟨v, k1, k2⟩ := ob_eq (show ob (g f.eval s.heap) (fun v => some (v, s)) = some p from h1)
          cases k2
          refine ⟨rfl, ?_⟩
          show Option.rec (motive := fun _ => Bool) false (fun v' => veq 5 v' v) (g f.eval s.heap) = true
          rw [k1]; exact h3
      rw [h1]
      show planRun self r (⟨x, f, p.1, madeF x f s⟩ :: pend) _ _ = _
      have hnx : x.idx ∉ late := fun hm => hnl _ hm (.head _)
      refine stepH_run (late := lateOf l x.idx late) hr ?_ ?_ hs.2 ?_ ?_ hnd.2 h4
      · rw [hsame.1, List.all_cons, hsame.2, hpd]; rfl
      · intro a ha
        cases ha with
        | head =>
          intro hm
          cases l with
          | true => exact ⟨.head _, hx, g, hg⟩
          | false => exact absurd hm hnx
        | tail _ ha =>
          intro hm
          cases l with
          | true =>
            have e : a.item.idx ∈ late := by
              rcases List.mem_cons.1 (show a.item.idx ∈ x.idx :: late from hm) with e | e
              · exact absurd e (hpx a ha)
              · exact e
            obtain ⟨k1, k2, k3⟩ := hlate a ha e
            exact ⟨.tail _ k1, k2, k3⟩
          | false => exact hlate a ha hm
      · intro j hj
        cases l with
        | true =>
          cases hj with
          | head => exact hnd.1
          | tail _ hj => exact hnl2 j hj
        | false => exact hnl2 j hj
      · intro a ha
        cases ha with
        | head => exact hnd.1
        | tail _ ha => exact hpn2 a ha
variable {rd : Bool} {n : Nat} {f : Fr} {s : St} {Q : Ex → Fr → St → Prop}
theorem Cd.drawnH (fl : List Bool) {id : Nat} {ops : Array Oper} {pl : List (Nat × Nat × Bool × Bool)} {ds : List (Option Tmp)} {L : List (Bool × Bool × SOp)} (hp : planL T n ops = some pl) (hs : simpleH pl fl [] [] = true) (hn : (pl.map (·.1)).Nodup) (hd : ops.toList.map (·.dst) = ds) (hl : flagH (orderedG (ops.toList.map strip) pl) fl = L)
    (h : Run T (fun self => stepH T self ds L [] f s) fun f s => Q .normal f s) : Cd T rd n (.region id ops true) f s Q := by
  subst hd; subst hl
  obtain ⟨l, h1, h2⟩ := ob_eq hp
  cases h2
  refine Evn.code ?_
  obtain ⟨m, p, k1, k2⟩ := h
  refine ⟨m, (.normal, p), fun k hk => ?_, k2⟩
  show ob (plan T n ops) (fun l => ob (planRun (run T k) l [] f s) fun p => some (Ex.normal, p)) = _
  rw [h1]
  show ob (planRun (run T k) l [] f s) (fun p => some (Ex.normal, p)) = _
  obtain ⟨l', e1, e2⟩ := ob_eq h1
  obtain ⟨_, e3⟩ := gd_eq e2
  cases e3
  have := planF_ordG (ops := ops.toList) e1 (fun p hp => orderF_at _ _ p hp)
  have k1' := k1 k hk
  change stepH T (run T k) (ops.toList.map (·.dst)) (flagH (orderedG (ops.toList.map strip) (l.map fun x => (x.idx, x.mask, heavyA x.op.act, isNewA x.op.act))) fl) [] f s = some p at k1'
  rw [this] at k1'
  have hn' : (l.map (·.idx)).Nodup := by rw [List.map_map] at hn; exact hn
  rw [show planRun (run T k) l [] f s = some p from stepH_run (pend := []) (late := []) (planF_items e1) rfl (fun r hr => by cases hr) hs (fun j hj => by cases hj) (fun r hr => by cases hr) hn' k1']
  rfl
end
@[congr] theorem stepH_congr {T : Tab} {self : Self} {ds : List (Option Tmp)} {L : List (Bool × Bool × SOp)} {p : List HRec} {f : Fr} {s : St} : stepH T self ds L p f s = stepH T self ds L p f s := rfl
section
variable {T : Tab} {self : Self} {ds : List (Option Tmp)} {pend : List HRec} {f : Fr} {s : St}
@[simp] theorem stepH_nil : stepH T self ds [] pend f s = some (f, s) := rfl
@[simp] theorem stepH_heavy (l : Bool) (o : SOp) (r : List (Bool × Bool × SOp)) : stepH T self ds ((true, l, o) :: r) pend f s = ob (itemD T self ds o f s) fun p => gd (recsH T self ds p.2 pend) (stepH T self ds r pend (f.put o.d p.1) p.2) := rfl
@[simp] theorem stepH_light (o : SOp) (r : List (Bool × Bool × SOp)) : stepH T self ds ((false, false, o) :: r) pend f s = ob (itemD T self ds o f s) fun p => gd (veq 5 p.1 p.1) (stepH T self ds r pend (f.put o.d p.1) p.2) := rfl
@[simp] theorem stepH_late (o : SOp) (r : List (Bool × Bool × SOp)) : stepH T self ds ((false, true, o) :: r) pend f s = ob (itemD T self ds o f s) fun p => gd (veq 5 p.1 p.1) (stepH T self ds r (⟨o, f, p.1⟩ :: pend) (f.put o.d p.1) p.2) := rfl
@[simp] theorem itemD_plain (d : Option Tmp) (op : Op) : itemD T self ds ⟨d, op, none⟩ f s = actO T self op f s := rfl
@[simp] theorem itemD_guard (d : Option Tmp) (op : Op) (j : Nat) (b : Bool) : itemD T self ds ⟨d, op, some (j, b)⟩ f s = bt (guardO b f ds[j]?) (actO T self op f s) (some (undef, s)) := rfl
@[simp] theorem recsH_nil : recsH T self ds s [] = true := rfl
@[simp] theorem recsH_cons (r : HRec) (l : List HRec) : recsH T self ds s (r :: l) = (recH T self ds s r && recsH T self ds s l) := rfl
@[simp] theorem recH_plain (d : Option Tmp) (op : Op) (v : Value) : recH T self ds s ⟨⟨d, op, none⟩, f, v⟩ = valEq (actO T self op f s) v := rfl
@[simp] theorem recH_guard (d : Option Tmp) (op : Op) (v : Value) (j : Nat) (b : Bool) : recH T self ds s ⟨⟨d, op, some (j, b)⟩, f, v⟩ = bt (guardO b f ds[j]?) (valEq (actO T self op f s) v) true := rfl
@[simp] theorem stepG_nil : stepG T self ds [] f s = some (f, s) := rfl
@[simp] theorem stepG_heavy (o : SOp) (r : List (Bool × SOp)) : stepG T self ds ((true, o) :: r) f s = ob (itemD T self ds o f s) fun p => stepG T self ds r (f.put o.d p.1) p.2 := rfl
@[simp] theorem stepG_light (o : SOp) (r : List (Bool × SOp)) : stepG T self ds ((false, o) :: r) f s = ob (itemD T self ds o f s) fun p => gd (veq 5 p.1 p.1) (stepG T self ds r (f.put o.d p.1) p.2) := rfl
end
/-! ### A region that draws, as equations -/
theorem veq_int (n : Nat) (k : IntKind) (a : Int) : veq (n + 1) (.int k a) (.int k a) = true := by
  show (kindEq k k && intEq a a) = true
  rw [kindEq_refl, intEq_eq]; simp
theorem veq_bool (n : Nat) (a : Bool) : veq (n + 1) (.bool a) (.bool a) = true := by
  show boolEq a a = true
  cases a <;> rfl
theorem veq_ptr (n : Nat) (i o : Nat) : veq (n + 1) (.pointer (some ⟨i, o, none⟩)) (.pointer (some ⟨i, o, none⟩)) = true := by
  show addrEq _ _ = true
  simp [addrEq]
theorem veq_slice (n : Nat) (i o l c : Nat) : veq (n + 1) (.slice (some ⟨i, o, none⟩) l c) (.slice (some ⟨i, o, none⟩) l c) = true := by
  show (addrEq _ _ && Nat.beq l l && Nat.beq c c) = true
  simp [addrEq]
theorem veq_sliceN (n : Nat) (l c : Nat) : veq (n + 1) (.slice none l c) (.slice none l c) = true := by
  show (Nat.beq l l && Nat.beq c c) = true
  simp
theorem veq_map (n : Nat) (r : Nat) : veq (n + 1) (.map (some r)) (.map (some r)) = true := by
  show Nat.beq r r = true
  simp
@[simp] theorem veq_string (n : Nat) (b : ByteArray) : veq (n + 1) (.string b) (.string b) = true := by
  show bytesEq b.data.toList b.data.toList = true
  rw [bytesEq_eq]; simp
@[simp] theorem veq_agg (n : Nat) (p : Array Value) : veq (n + 1) (.agg p) (.agg p) = listEq (veq n) p.toList p.toList := rfl
@[simp] theorem veq_tuple (n : Nat) (p : Array Value) : veq (n + 1) (.tuple p) (.tuple p) = listEq (veq n) p.toList p.toList := rfl
@[simp] theorem listEq_nil {α : Type} (f : α → α → Bool) : listEq f [] [] = true := rfl
@[simp] theorem listEq_cons {α : Type} (f : α → α → Bool) (x y : α) (r s : List α) : listEq f (x :: r) (y :: s) = (f x y && listEq f r s) := rfl
@[simp] theorem veq_undef (n : Nat) : veq (n + 1) undef undef = true := rfl
theorem valEq_some (p : Value × St) (v : Value) : valEq (some p) v = veq 5 p.1 v := rfl
theorem bt_same {α : Type} (b : Bool) (x : α) : bt b x x = x := by cases b <;> rfl
@[congr] theorem stepD_congr {T : Tab} {self : Self} {ds : List (Option Tmp)} {L : List (Nat × Nat × Bool × Bool × SOp)} {pend : List DRec} {f : Fr} {s : St} : stepD T self ds L pend f s = stepD T self ds L pend f s := rfl
attribute [simp] veq_int veq_bool veq_ptr veq_slice veq_sliceN veq_map valEq_some
section
variable {T : Tab} {rd : Bool} {n : Nat} {f : Fr} {s : St} {Q : Ex → Fr → St → Prop}
/-! ### Short names: a step of a run goes on by the first that fits -/
theorem Z0 {b : Code} (h : Cd T rd n b f s Q) : SeqK T rd n b Q .normal f s := SeqK.nm h
theorem Z1 {b : Code} {i : Nat} (h : Q (.exit i) f s) : SeqK T rd n b Q (.exit i) f s := SeqK.x h
theorem Z2 {b : Code} (h : Q .ret f s) : SeqK T rd n b Q .ret f s := SeqK.r h
theorem Z3 {b : Code} {i : Nat} (h : Q (.goto i) f s) : SeqK T rd n b Q (.goto i) f s := SeqK.g h
theorem Z4 {i : Nat} (h : Q .normal f s) : BlockK i Q .normal f s := BlockK.nm h
theorem Z5 {i : Nat} (h : Q .normal f s) : BlockK i Q (.exit i) f s := BlockK.same h
theorem Z6 {i j : Nat} (e : Nat.beq j i = false) (h : Q (.exit j) f s) : BlockK i Q (.exit j) f s := BlockK.other e h
theorem Z7 {i : Nat} (h : Q .ret f s) : BlockK i Q .ret f s := BlockK.r h
theorem Z8 {i l : Nat} (h : Q (.goto l) f s) : BlockK i Q (.goto l) f s := BlockK.g h
theorem Z9 {I : Nat → Fr → St → Prop} {m i : Nat} (h : Q (.exit i) f s) : LoopK I m Q (.exit i) f s := LoopK.x h
theorem Z10 {I : Nat → Fr → St → Prop} {m : Nat} (h : Q .ret f s) : LoopK I m Q .ret f s := LoopK.r h
theorem Z11 {a b : Code} (h : Cd T rd n a f s (SeqK T rd n b Q)) : Cd T rd n (.seq a b) f s Q := Cd.seq h
theorem Z12 {id : Nat} {c : Code} (h : Cd T rd n c f s (BlockK id Q)) : Cd T rd n (.block id c) f s Q := Cd.block h
theorem Z13 (h : Q .normal f s) : Cd T rd n .skip f s Q := Cd.skip h
theorem Z14 (h : Q .ret f s) : Cd T rd n .ret f s Q := Cd.ret h
theorem Z15 {id : Nat} (h : Q (.exit id) f s) : Cd T rd n (.exit id) f s Q := Cd.exit h
theorem Z16 {l : Nat} (h : Q .normal f s) : Cd T rd n (.label l) f s Q := Cd.label h
end
/-! All steps at once that need no thought -/
class IsF (b : Bool) : Prop where
  h : b = false
instance : IsF false := ⟨rfl⟩
class Nxt (A : Prop) (B : outParam Prop) : Prop where
  go : B → A
theorem zz {A B : Prop} [h : Nxt A B] (b : B) : A := h.go b
instance (priority := 1) nx {A : Prop} : Nxt A A := ⟨id⟩
section
variable {T : Tab} {rd : Bool} {n : Nat} {f : Fr} {s : St} {Q : Ex → Fr → St → Prop} {X : Prop}
instance {b : Code} [h : Nxt (Cd T rd n b f s Q) X] : Nxt (SeqK T rd n b Q .normal f s) X := ⟨fun x => Z0 (h.go x)⟩
instance {b : Code} {i : Nat} [h : Nxt (Q (.exit i) f s) X] : Nxt (SeqK T rd n b Q (.exit i) f s) X := ⟨fun x => Z1 (h.go x)⟩
instance {b : Code} [h : Nxt (Q .ret f s) X] : Nxt (SeqK T rd n b Q .ret f s) X := ⟨fun x => Z2 (h.go x)⟩
instance {b : Code} {i : Nat} [h : Nxt (Q (.goto i) f s) X] : Nxt (SeqK T rd n b Q (.goto i) f s) X := ⟨fun x => Z3 (h.go x)⟩
instance {i : Nat} [h : Nxt (Q .normal f s) X] : Nxt (BlockK i Q .normal f s) X := ⟨fun x => Z4 (h.go x)⟩
instance {i : Nat} [h : Nxt (Q .normal f s) X] : Nxt (BlockK i Q (.exit i) f s) X := ⟨fun x => Z5 (h.go x)⟩
instance (priority := 900) {i j : Nat} [e : IsF (Nat.beq j i)] [h : Nxt (Q (.exit j) f s) X] : Nxt (BlockK i Q (.exit j) f s) X := ⟨fun x => Z6 e.h (h.go x)⟩
instance {i : Nat} [h : Nxt (Q .ret f s) X] : Nxt (BlockK i Q .ret f s) X := ⟨fun x => Z7 (h.go x)⟩
instance {i l : Nat} [h : Nxt (Q (.goto l) f s) X] : Nxt (BlockK i Q (.goto l) f s) X := ⟨fun x => Z8 (h.go x)⟩
instance {I : Nat → Fr → St → Prop} {m i : Nat} [h : Nxt (Q (.exit i) f s) X] : Nxt (LoopK I m Q (.exit i) f s) X := ⟨fun x => Z9 (h.go x)⟩
instance {I : Nat → Fr → St → Prop} {m : Nat} [h : Nxt (Q .ret f s) X] : Nxt (LoopK I m Q .ret f s) X := ⟨fun x => Z10 (h.go x)⟩
instance {a b : Code} [h : Nxt (Cd T rd n a f s (SeqK T rd n b Q)) X] : Nxt (Cd T rd n (.seq a b) f s Q) X := ⟨fun x => Z11 (h.go x)⟩
instance {id : Nat} {c : Code} [h : Nxt (Cd T rd n c f s (BlockK id Q)) X] : Nxt (Cd T rd n (.block id c) f s Q) X := ⟨fun x => Z12 (h.go x)⟩
instance [h : Nxt (Q .normal f s) X] : Nxt (Cd T rd n .skip f s Q) X := ⟨fun x => Z13 (h.go x)⟩
instance [h : Nxt (Q .ret f s) X] : Nxt (Cd T rd n .ret f s Q) X := ⟨fun x => Z14 (h.go x)⟩
instance {id : Nat} [h : Nxt (Q (.exit id) f s) X] : Nxt (Cd T rd n (.exit id) f s Q) X := ⟨fun x => Z15 (h.go x)⟩
instance {l : Nat} [h : Nxt (Q .normal f s) X] : Nxt (Cd T rd n (.label l) f s Q) X := ⟨fun x => Z16 (h.go x)⟩
/-- A region whose operations are laid out by calculation. -/
theorem Cd.ra {id : Nat} {ops : Array Oper} {ds : List (Option Tmp)} {L : List SOp} (hc : okOps T n ops = true := by kernel_rfl) (hd : ops.toList.map (·.dst) = ds := by conv => lhs; simp only [List.map_cons, List.map_nil]) (hl : ops.toList.map strip = L := by conv => lhs; simp only [List.map_cons, List.map_nil, strip]) (h : Run T (fun self => stepsF T self ds L f s) fun f s => Q .normal f s) : Cd T rd n (.region id ops false) f s Q := Cd.reg hc hd hl h
end
end Go.Proofs.Ytjehpgflhgpalaa.Kern
namespace Go.Proofs.Ytjehpgflhgpalaa
open Go Kern
def unitB (u n : Int) : Bool := decide (0 ≤ n) && decide (n < u)
def endB (u n : Int) : Bool := decide (n = -1) || unitB u n
def plantV (u : Int) (fl : Value) : Value := .agg #[.int .i64 u, fl]
structure Mass where
  a : Int
  b : Int
  c : Int
  d : Int
  deriving DecidableEq
def Mass.cs (m : Mass) : List Value := [.int .i64 m.a, .int .i64 m.b, .int .i64 m.c, .int .i64 m.d]
def Mass.v (m : Mass) : Value := .agg #[.int .i64 m.a, .int .i64 m.b, .int .i64 m.c, .int .i64 m.d]
def isB (n lo hi : Int) : Bool := decide (lo ≤ n) && decide (n ≤ hi)
def eachB (m : Mass) (lo hi : Int) : Bool := isB m.a lo hi && (isB m.b lo hi && (isB m.c lo hi && isB m.d lo hi))
set_option maxRecDepth 100000 in
theorem isUnit_ev (u n : Int) (fl : Value) (s : St) : Ev TT 40 [plantV u fl, .int .i64 n] s fun v s' => v = .bool (unitB u n) ∧ Keep s s' := by
  unfold plantV
  refine Ev.intro (fn := Try.f40) rfl (by kernel_rfl) rfl rfl ?_
  apply zz
  refine Cd.ra (h := ?_)
  apply Run.by_eq
  · intro self
    conv => lhs; simp -implicitDefEqProofs (maxSteps := 300000) (disch := omega) [-getElem?_pos, -getElem?_neg]
  try (with_reducible refine Run.ret ?_)
  apply zz
  by_cases h : 0 ≤ n
  · apply zz
    refine Cd.ra (h := ?_)
    apply Run.by_eq
    · intro self
      conv => lhs; simp -implicitDefEqProofs (maxSteps := 300000) (disch := omega) [-getElem?_pos, -getElem?_neg, h]
    try (with_reducible refine Run.ret ?_)
    apply zz
    apply Leave.mk (by first | exact .inl rfl | exact .inr rfl) (by simp only [Fr.marks_put, fr0_marks])
    · conv => lhs; simp -implicitDefEqProofs (disch := omega) [Try.results40]
    exact ⟨by simp [unitB, h], (Keep.refl _).pushed _⟩
  · apply zz
    refine Cd.ra (h := ?_)
    apply Run.by_eq
    · intro self
      conv => lhs; simp -implicitDefEqProofs (maxSteps := 300000) (disch := omega) [-getElem?_pos, -getElem?_neg, h]
    try (with_reducible refine Run.ret ?_)
    apply zz
    apply Leave.mk (by first | exact .inl rfl | exact .inr rfl) (by simp only [Fr.marks_put, fr0_marks])
    · conv => lhs; simp -implicitDefEqProofs (disch := omega) [Try.results40]
    exact ⟨by simp [unitB, h], (Keep.refl _).pushed _⟩
set_option maxRecDepth 100000 in
theorem isEnd_ev (u n : Int) (fl : Value) (s : St) : Ev TT 63 [plantV u fl, .int .i64 n] s fun v s' => v = .bool (endB u n) ∧ Keep s s' := by
  have hc := isUnit_ev u n fl
  unfold plantV at hc ⊢
  refine Ev.intro (fn := Try.f63) rfl (by kernel_rfl) rfl rfl ?_
  apply zz
  refine Cd.ra (h := ?_)
  apply Run.by_eq
  · intro self
    conv => lhs; simp -implicitDefEqProofs (maxSteps := 300000) (disch := omega) [-getElem?_pos, -getElem?_neg]
  try (with_reducible refine Run.ret ?_)
  apply zz
  by_cases h : n = -1
  · apply zz
    refine Cd.ra (h := ?_)
    apply Run.by_eq
    · intro self
      conv => lhs; simp -implicitDefEqProofs (maxSteps := 300000) (disch := omega) [-getElem?_pos, -getElem?_neg, h]
    try (with_reducible refine Run.ret ?_)
    apply zz
    apply Leave.mk (by first | exact .inl rfl | exact .inr rfl) (by simp only [Fr.marks_put, fr0_marks])
    · conv => lhs; simp -implicitDefEqProofs (disch := omega) [Try.results63]
    exact ⟨by simp [endB, h], (Keep.refl _).pushed _⟩
  · apply zz
    refine Cd.ra (h := ?_)
    apply Run.by_eq
    · intro self
      conv => lhs; simp -implicitDefEqProofs (maxSteps := 300000) (disch := omega) [-getElem?_pos, -getElem?_neg, h]
    try (with_reducible refine Run.ret ?_)
    apply zz
    refine Run.call ((hc _).mono fun v s' hv => ?_)
    obtain ⟨rfl, hk⟩ := hv
    apply Run.by_eq
    · intro self
      conv => lhs; simp -implicitDefEqProofs (maxSteps := 300000) (disch := omega) [-getElem?_pos, -getElem?_neg, h]
    try (with_reducible refine Run.ret ?_)
    apply zz
    apply Leave.mk (by first | exact .inl rfl | exact .inr rfl) (by simp only [Fr.marks_put, fr0_marks])
    · conv => lhs; simp -implicitDefEqProofs (disch := omega) [Try.results63]
    exact ⟨by simp [endB, h], ((Keep.refl _).pushed _).trans hk⟩
def Mass.at (m : Mass) : Nat → Int
  | 0 => m.a
  | 1 => m.b
  | 2 => m.c
  | _ => m.d
theorem Mass.cs_at (m : Mass) {k : Nat} (h : k < 4) : ([.int .i64 m.a, .int .i64 m.b, .int .i64 m.c, .int .i64 m.d] : List Value)[k]? = some (.int .i64 (m.at k)) := by
  match k, h with
  | 0, _ => rfl
  | 1, _ => rfl
  | 2, _ => rfl
  | 3, _ => rfl
theorem eachB_false {m : Mass} {lo hi : Int} {k : Nat} (hk : k < 4) (h : m.at k < lo ∨ hi < m.at k) : eachB m lo hi = false := by
  cases hb : eachB m lo hi with
  | false => rfl
  | true =>
    simp only [eachB, isB, Bool.and_eq_true, decide_eq_true_eq] at hb
    match k, hk, h with
    | 0, _, h => simp only [Mass.at] at h; omega
    | 1, _, h => simp only [Mass.at] at h; omega
    | 2, _, h => simp only [Mass.at] at h; omega
    | 3, _, h => simp only [Mass.at] at h; omega
theorem eachB_true {m : Mass} {lo hi : Int} (h : ∀ k, k < 4 → lo ≤ m.at k ∧ m.at k ≤ hi) : eachB m lo hi = true := by
  simp only [eachB, isB, Bool.and_eq_true, decide_eq_true_eq]
  exact ⟨h 0 (by omega), h 1 (by omega), h 2 (by omega), h 3 (by omega)⟩
set_option maxRecDepth 100000 in
set_option maxHeartbeats 1000000 in
theorem within_ev (m : Mass) (lo hi : Int) (s : St) : Ev TT 54 [m.v, .int .i64 lo, .int .i64 hi] s fun v s' => v = .bool (eachB m lo hi) ∧ Keep s s' := by
  unfold Mass.v
  refine Ev.intro (fn := Try.f54) rfl (by kernel_rfl) rfl rfl ?_
  apply zz
  refine Cd.ra (h := ?_)
  apply Run.by_eq
  · intro self
    conv => lhs; simp -implicitDefEqProofs (maxSteps := 300000) (disch := omega) [-getElem?_pos, -getElem?_neg]
  try (with_reducible refine Run.ret ?_)
  apply zz
  refine Cd.ra (h := ?_)
  apply Run.by_eq
  · intro self
    conv => lhs; simp -implicitDefEqProofs (maxSteps := 300000) (disch := omega) [-getElem?_pos, -getElem?_neg]
  try (with_reducible refine Run.ret ?_)
  apply zz
  refine Cd.inv (fun w f s' => ∃ k : Nat, k ≤ 4 ∧ w = 4 - k ∧ f.marks = [] ∧ f.get 10 = .int .i64 k ∧ f.get 9 = .agg [.int .i64 m.a, .int .i64 m.b, .int .i64 m.c, .int .i64 m.d].toArray ∧ f.get 1 = .int .i64 lo ∧ f.get 2 = .int .i64 hi ∧ Keep s s' ∧ (∀ j, j < k → lo ≤ m.at j ∧ m.at j ≤ hi)) 4 ?_ ?_
  · exact ⟨0, by omega, rfl, by simp, by simp, by simp, by simp, by simp, (Keep.refl _).pushed _, fun j hj => absurd hj (by omega)⟩
  rintro w f s' ⟨k, hk, rfl, hm, h10, h9, h1, h2, hkp, hall⟩
  by_cases hk4 : k < 4
  · have hat := m.cs_at hk4
    apply zz
    refine Cd.ra (h := ?_)
    apply Run.by_eq
    · intro self
      conv => lhs; simp -implicitDefEqProofs (maxSteps := 300000) (disch := omega) [-getElem?_pos, -getElem?_neg, h10]
    try (with_reducible refine Run.ret ?_)
    apply zz
    apply Cd.ite rfl
    · conv => lhs; simp -implicitDefEqProofs (maxSteps := 300000) (disch := omega) [-getElem?_pos, -getElem?_neg]
    all_goals intro c0
    all_goals try (cases c0; done)
    all_goals try simp only [Bool.not_eq_true', Bool.not_eq_false', decide_eq_true_eq, decide_eq_false_iff_not] at c0
    all_goals apply zz
    · apply zz
      refine Cd.ra (h := ?_)
      apply Run.by_eq
      · intro self
        conv => lhs; simp -implicitDefEqProofs (maxSteps := 300000) (disch := omega) [-getElem?_pos, -getElem?_neg, h10, h9, hat]
      try (with_reducible refine Run.ret ?_)
      apply zz
      by_cases q1 : m.at k < lo
      · apply zz
        refine Cd.ra (h := ?_)
        apply Run.by_eq
        · intro self
          conv => lhs; simp -implicitDefEqProofs (maxSteps := 300000) (disch := omega) [-getElem?_pos, -getElem?_neg, q1, h1, h2]
        try (with_reducible refine Run.ret ?_)
        apply zz
        apply Cd.ite rfl
        · conv => lhs; simp -implicitDefEqProofs (maxSteps := 300000) (disch := omega) [-getElem?_pos, -getElem?_neg]
        all_goals intro c1
        all_goals try (cases c1; done)
        all_goals try simp only [Bool.not_eq_true', Bool.not_eq_false', decide_eq_true_eq, decide_eq_false_iff_not] at c1
        all_goals apply zz
        apply zz
        refine Cd.ra (h := ?_)
        apply Run.by_eq
        · intro self
          conv => lhs; simp -implicitDefEqProofs (maxSteps := 300000) (disch := omega) [-getElem?_pos, -getElem?_neg]
        try (with_reducible refine Run.ret ?_)
        apply zz
        apply Leave.mk (by first | exact .inl rfl | exact .inr rfl) (by simp only [Fr.marks_put, fr0_marks, hm])
        · conv => lhs; simp -implicitDefEqProofs (disch := omega) [Try.results54, hm]
        exact ⟨by rw [eachB_false hk4 (.inl q1)]; rfl, hkp⟩
      by_cases q2 : hi < m.at k
      · apply zz
        refine Cd.ra (h := ?_)
        apply Run.by_eq
        · intro self
          conv => lhs; simp -implicitDefEqProofs (maxSteps := 300000) (disch := omega) [-getElem?_pos, -getElem?_neg, q1, q2, h1, h2]
        try (with_reducible refine Run.ret ?_)
        apply zz
        apply Cd.ite rfl
        · conv => lhs; simp -implicitDefEqProofs (maxSteps := 300000) (disch := omega) [-getElem?_pos, -getElem?_neg]
        all_goals intro c1
        all_goals try (cases c1; done)
        all_goals try simp only [Bool.not_eq_true', Bool.not_eq_false', decide_eq_true_eq, decide_eq_false_iff_not] at c1
        all_goals apply zz
        apply zz
        refine Cd.ra (h := ?_)
        apply Run.by_eq
        · intro self
          conv => lhs; simp -implicitDefEqProofs (maxSteps := 300000) (disch := omega) [-getElem?_pos, -getElem?_neg]
        try (with_reducible refine Run.ret ?_)
        apply zz
        apply Leave.mk (by first | exact .inl rfl | exact .inr rfl) (by simp only [Fr.marks_put, fr0_marks, hm])
        · conv => lhs; simp -implicitDefEqProofs (disch := omega) [Try.results54, hm]
        exact ⟨by rw [eachB_false hk4 (.inr q2)]; rfl, hkp⟩
      · apply zz
        refine Cd.ra (h := ?_)
        apply Run.by_eq
        · intro self
          conv => lhs; simp -implicitDefEqProofs (maxSteps := 300000) (disch := omega) [-getElem?_pos, -getElem?_neg, q1, q2, h1, h2]
        try (with_reducible refine Run.ret ?_)
        apply zz
        apply Cd.ite rfl
        · conv => lhs; simp -implicitDefEqProofs (maxSteps := 300000) (disch := omega) [-getElem?_pos, -getElem?_neg]
        all_goals intro c1
        all_goals try (cases c1; done)
        all_goals try simp only [Bool.not_eq_true', Bool.not_eq_false', decide_eq_true_eq, decide_eq_false_iff_not] at c1
        all_goals apply zz
        apply zz
        refine Cd.ra (h := ?_)
        apply Run.by_eq
        · intro self
          conv => lhs; simp -implicitDefEqProofs (maxSteps := 300000) (disch := omega) [-getElem?_pos, -getElem?_neg, h10]
        try (with_reducible refine Run.ret ?_)
        apply zz
        refine LoopK.nm (4 - (k + 1)) (by omega) ⟨k + 1, by omega, rfl, by simp [hm], by simp, by simp [h9], by simp [h1], by simp [h2], hkp, fun j hj => ?_⟩
        by_cases e : j = k
        · subst e; omega
        · exact hall j (by omega)
    · simp at c0; omega
  · obtain rfl : k = 4 := by omega
    apply zz
    refine Cd.ra (h := ?_)
    apply Run.by_eq
    · intro self
      conv => lhs; simp -implicitDefEqProofs (maxSteps := 300000) (disch := omega) [-getElem?_pos, -getElem?_neg, h10]
    try (with_reducible refine Run.ret ?_)
    apply zz
    apply Cd.ite rfl
    · conv => lhs; simp -implicitDefEqProofs (maxSteps := 300000) (disch := omega) [-getElem?_pos, -getElem?_neg]
    all_goals intro c0
    all_goals try (cases c0; done)
    all_goals try simp only [Bool.not_eq_true', Bool.not_eq_false', decide_eq_true_eq, decide_eq_false_iff_not] at c0
    all_goals apply zz
    apply zz
    refine Cd.ra (h := ?_)
    apply Run.by_eq
    · intro self
      conv => lhs; simp -implicitDefEqProofs (maxSteps := 300000) (disch := omega) [-getElem?_pos, -getElem?_neg]
    try (with_reducible refine Run.ret ?_)
    apply zz
    apply Leave.mk (by first | exact .inl rfl | exact .inr rfl) (by simp only [Fr.marks_put, fr0_marks, hm])
    · conv => lhs; simp -implicitDefEqProofs (disch := omega) [Try.results54, hm]
    exact ⟨by rw [eachB_true (fun j hj => hall j hj)]; rfl, hkp⟩
end Go.Proofs.Ytjehpgflhgpalaa
namespace Go.Proofs.Ytjehpgflhgpalaa
open Go Kern
structure FlowD where
  fr : Int
  to : Int
  me : Bool
  m : Mass
def FlowD.cs (f : FlowD) : List Value := [.int .i64 f.fr, .int .i64 f.to, .bool f.me, .int .i64 f.m.a, .int .i64 f.m.b, .int .i64 f.m.c, .int .i64 f.m.d]
def FlowD.v (f : FlowD) : Value := .agg f.cs.toArray
def flowErr (u : Int) (f : FlowD) : Int :=
  if !endB u f.fr || !endB u f.to then 17 else if f.fr = f.to then 22 else if f.me && !eachB f.m 0 1000000000 then 2 else 0
set_option maxRecDepth 100000 in
set_option maxHeartbeats 1000000 in
theorem flowError_ev (u : Int) (f : FlowD) (fl : Value) (s : St) : Ev TT 45 [plantV u fl, f.v] s fun v s' => v = .int .i64 (flowErr u f) ∧ Keep s s' := by
  have hE := isEnd_ev u
  unfold plantV at hE ⊢
  obtain ⟨f0, f1, fm, m⟩ := f
  unfold FlowD.v FlowD.cs
  simp only []
  refine Ev.intro (fn := Try.f45) rfl (by kernel_rfl) rfl rfl ?_
  apply zz
  refine Cd.ra (h := ?_)
  apply Run.by_eq
  · intro self
    conv => lhs; simp -implicitDefEqProofs (maxSteps := 300000) (disch := omega) [-getElem?_pos, -getElem?_neg]
  try (with_reducible refine Run.ret ?_)
  apply zz
  refine Cd.ra (h := ?_)
  apply Run.by_eq
  · intro self
    conv => lhs; simp -implicitDefEqProofs (maxSteps := 300000) (disch := omega) [-getElem?_pos, -getElem?_neg]
  try (with_reducible refine Run.ret ?_)
  apply zz
  refine Run.call ((hE f0 fl _).mono fun v wk hv => ?_)
  obtain ⟨rfl, k⟩ := hv
  have ka := k.1
  have kb := k.2
  try simp only [pushed_next', upded_next'] at ka kb
  cases hA : endB u f0 with
  | false =>
    apply Run.by_eq
    · intro self
      conv => lhs; simp -implicitDefEqProofs (maxSteps := 300000) (disch := omega) [-getElem?_pos, -getElem?_neg, hA]
    try (with_reducible refine Run.ret ?_)
    apply zz
    apply Cd.ite rfl
    · conv => lhs; simp -implicitDefEqProofs (maxSteps := 300000) (disch := omega) [-getElem?_pos, -getElem?_neg]
    all_goals intro c1
    all_goals try (cases c1; done)
    all_goals try simp only [Bool.not_eq_true', Bool.not_eq_false', decide_eq_true_eq, decide_eq_false_iff_not] at c1
    all_goals apply zz
    apply zz
    refine Cd.ra (h := ?_)
    apply Run.by_eq
    · intro self
      conv => lhs; simp -implicitDefEqProofs (maxSteps := 300000) (disch := omega) [-getElem?_pos, -getElem?_neg]
    try (with_reducible refine Run.ret ?_)
    apply zz
    apply Leave.mk (by first | exact .inl rfl | exact .inr rfl) (by simp only [Fr.marks_put, fr0_marks])
    · conv => lhs; simp -implicitDefEqProofs (disch := omega) [Try.results45]
    refine ⟨by simp [flowErr, hA], ?_⟩
    exact ⟨by (try simp only [pushed_next', upded_next']); omega, fun i hi => by simp -implicitDefEqProofs (disch := omega) [kb]⟩
  | true =>
    apply Run.by_eq
    · intro self
      conv => lhs; simp -implicitDefEqProofs (maxSteps := 300000) (disch := omega) [-getElem?_pos, -getElem?_neg, hA, kb]
    try (with_reducible refine Run.ret ?_)
    apply zz
    refine Run.call ((hE f1 fl _).mono fun v wl hv => ?_)
    obtain ⟨rfl, l⟩ := hv
    have la := l.1
    have lb := l.2
    try simp only [pushed_next', upded_next'] at la lb
    cases hB : endB u f1 with
    | false =>
      apply Run.by_eq
      · intro self
        conv => lhs; simp -implicitDefEqProofs (maxSteps := 300000) (disch := omega) [-getElem?_pos, -getElem?_neg, hB]
      try (with_reducible refine Run.ret ?_)
      apply zz
      apply Cd.ite rfl
      · conv => lhs; simp -implicitDefEqProofs (maxSteps := 300000) (disch := omega) [-getElem?_pos, -getElem?_neg]
      all_goals intro c1
      all_goals try (cases c1; done)
      all_goals try simp only [Bool.not_eq_true', Bool.not_eq_false', decide_eq_true_eq, decide_eq_false_iff_not] at c1
      all_goals apply zz
      apply zz
      refine Cd.ra (h := ?_)
      apply Run.by_eq
      · intro self
        conv => lhs; simp -implicitDefEqProofs (maxSteps := 300000) (disch := omega) [-getElem?_pos, -getElem?_neg]
      try (with_reducible refine Run.ret ?_)
      apply zz
      apply Leave.mk (by first | exact .inl rfl | exact .inr rfl) (by simp only [Fr.marks_put, fr0_marks])
      · conv => lhs; simp -implicitDefEqProofs (disch := omega) [Try.results45]
      refine ⟨by simp [flowErr, hA, hB], ?_⟩
      exact ⟨by (try simp only [pushed_next', upded_next']); omega, fun i hi => by simp -implicitDefEqProofs (disch := omega) [kb, lb]⟩
    | true =>
      apply Run.by_eq
      · intro self
        conv => lhs; simp -implicitDefEqProofs (maxSteps := 300000) (disch := omega) [-getElem?_pos, -getElem?_neg, hB]
      try (with_reducible refine Run.ret ?_)
      apply zz
      apply Cd.ite rfl
      · conv => lhs; simp -implicitDefEqProofs (maxSteps := 300000) (disch := omega) [-getElem?_pos, -getElem?_neg]
      all_goals intro c1
      all_goals try (cases c1; done)
      all_goals try simp only [Bool.not_eq_true', Bool.not_eq_false', decide_eq_true_eq, decide_eq_false_iff_not] at c1
      all_goals apply zz
      apply zz
      refine Cd.ra (h := ?_)
      apply Run.by_eq
      · intro self
        conv => lhs; simp -implicitDefEqProofs (maxSteps := 300000) (disch := omega) [-getElem?_pos, -getElem?_neg, kb, lb]
      try (with_reducible refine Run.ret ?_)
      apply zz
      apply Cd.ite rfl
      · conv => lhs; simp -implicitDefEqProofs (maxSteps := 300000) (disch := omega) [-getElem?_pos, -getElem?_neg]
      all_goals intro c2
      all_goals try (cases c2; done)
      all_goals try simp only [Bool.not_eq_true', Bool.not_eq_false', decide_eq_true_eq, decide_eq_false_iff_not] at c2
      all_goals apply zz
      · apply zz
        refine Cd.ra (h := ?_)
        apply Run.by_eq
        · intro self
          conv => lhs; simp -implicitDefEqProofs (maxSteps := 300000) (disch := omega) [-getElem?_pos, -getElem?_neg]
        try (with_reducible refine Run.ret ?_)
        apply zz
        apply Leave.mk (by first | exact .inl rfl | exact .inr rfl) (by simp only [Fr.marks_put, fr0_marks])
        · conv => lhs; simp -implicitDefEqProofs (disch := omega) [Try.results45]
        refine ⟨by simp [flowErr, hA, hB, c2], ?_⟩
        exact ⟨by (try simp only [pushed_next', upded_next']); omega, fun i hi => by simp -implicitDefEqProofs (disch := omega) [kb, lb]⟩
      · cases fm with
        | false =>
          apply zz
          refine Cd.ra (h := ?_)
          apply Run.by_eq
          · intro self
            conv => lhs; simp -implicitDefEqProofs (maxSteps := 300000) (disch := omega) [-getElem?_pos, -getElem?_neg, kb, lb]
          try (with_reducible refine Run.ret ?_)
          apply zz
          apply Cd.ite rfl
          · conv => lhs; simp -implicitDefEqProofs (maxSteps := 300000) (disch := omega) [-getElem?_pos, -getElem?_neg]
          all_goals intro c3
          all_goals try (cases c3; done)
          all_goals try simp only [Bool.not_eq_true', Bool.not_eq_false', decide_eq_true_eq, decide_eq_false_iff_not] at c3
          all_goals apply zz
          apply zz
          refine Cd.ra (h := ?_)
          apply Run.by_eq
          · intro self
            conv => lhs; simp -implicitDefEqProofs (maxSteps := 300000) (disch := omega) [-getElem?_pos, -getElem?_neg]
          try (with_reducible refine Run.ret ?_)
          apply zz
          apply Leave.mk (by first | exact .inl rfl | exact .inr rfl) (by simp only [Fr.marks_put, fr0_marks])
          · conv => lhs; simp -implicitDefEqProofs (disch := omega) [Try.results45]
          refine ⟨by simp [flowErr, hA, hB, c2], ?_⟩
          exact ⟨by (try simp only [pushed_next', upded_next']); omega, fun i hi => by simp -implicitDefEqProofs (disch := omega) [kb, lb]⟩
        | true =>
          apply zz
          refine Cd.ra (h := ?_)
          apply Run.by_eq
          · intro self
            conv => lhs; simp -implicitDefEqProofs (maxSteps := 300000) (disch := omega) [-getElem?_pos, -getElem?_neg, kb, lb]
          try (with_reducible refine Run.ret ?_)
          apply zz
          refine Run.call ((within_ev m 0 1000000000 _).mono fun v wn hv => ?_)
          obtain ⟨rfl, n⟩ := hv
          have na := n.1
          have nb := n.2
          try simp only [pushed_next', upded_next'] at na nb
          apply Run.by_eq
          · intro self
            conv => lhs; simp -implicitDefEqProofs (maxSteps := 300000) (disch := omega) [-getElem?_pos, -getElem?_neg]
          try (with_reducible refine Run.ret ?_)
          apply zz
          apply Cd.ite rfl
          · conv => lhs; simp -implicitDefEqProofs (maxSteps := 300000) (disch := omega) [-getElem?_pos, -getElem?_neg]
          all_goals intro c3
          all_goals try (cases c3; done)
          all_goals try simp only [Bool.not_eq_true', Bool.not_eq_false', decide_eq_true_eq, decide_eq_false_iff_not] at c3
          all_goals apply zz
          · apply zz
            refine Cd.ra (h := ?_)
            apply Run.by_eq
            · intro self
              conv => lhs; simp -implicitDefEqProofs (maxSteps := 300000) (disch := omega) [-getElem?_pos, -getElem?_neg]
            try (with_reducible refine Run.ret ?_)
            apply zz
            apply Leave.mk (by first | exact .inl rfl | exact .inr rfl) (by simp only [Fr.marks_put, fr0_marks])
            · conv => lhs; simp -implicitDefEqProofs (disch := omega) [Try.results45]
            refine ⟨by simp [flowErr, hA, hB, c2, c3], ?_⟩
            exact ⟨by (try simp only [pushed_next', upded_next']); omega, fun i hi => by simp -implicitDefEqProofs (disch := omega) [kb, lb, nb]⟩
          · apply zz
            refine Cd.ra (h := ?_)
            apply Run.by_eq
            · intro self
              conv => lhs; simp -implicitDefEqProofs (maxSteps := 300000) (disch := omega) [-getElem?_pos, -getElem?_neg]
            try (with_reducible refine Run.ret ?_)
            apply zz
            apply Leave.mk (by first | exact .inl rfl | exact .inr rfl) (by simp only [Fr.marks_put, fr0_marks])
            · conv => lhs; simp -implicitDefEqProofs (disch := omega) [Try.results45]
            refine ⟨by simp [flowErr, hA, hB, c2, c3], ?_⟩
            exact ⟨by (try simp only [pushed_next', upded_next']); omega, fun i hi => by simp -implicitDefEqProofs (disch := omega) [kb, lb, nb]⟩
def firstErr (u : Int) : List FlowD → Int
  | [] => 0
  | f :: r => if flowErr u f = 0 then firstErr u r else flowErr u f
theorem firstErr_zero {u : Int} : ∀ {fs : List FlowD}, (∀ (j : Nat) (f : FlowD), fs[j]? = some f → flowErr u f = 0) → firstErr u fs = 0
  | [], _ => rfl
  | f :: r, h => by
    have h0 := h 0 f rfl
    simp only [firstErr, h0, if_true]
    exact firstErr_zero fun j f hj => h (j + 1) f (by simpa using hj)
theorem firstErr_at {u : Int} : ∀ {fs : List FlowD} {k : Nat} {f : FlowD}, (∀ (j : Nat) (f : FlowD), j < k → fs[j]? = some f → flowErr u f = 0) → fs[k]? = some f → flowErr u f ≠ 0 → firstErr u fs = flowErr u f
  | [], k, f, _, h, _ => by simp at h
  | g :: r, 0, f, _, h, hne => by simp at h; subst h; simp [firstErr, hne]
  | g :: r, k + 1, f, hz, h, hne => by
    have h0 := hz 0 g (by omega) rfl
    simp only [firstErr, h0, if_true]
    exact firstErr_at (k := k) (fun j f hj hf => hz (j + 1) f (by omega) (by simpa using hf)) (by simpa using h) hne
abbrev FlAt (s : St) (v : Value) (fs : List FlowD) : Prop := SlAt 7 s v (fs.map FlowD.cs)
theorem FlAt.at {s : St} {a : Option Addr} {m c : Nat} {fs : List FlowD} (h : FlAt s (.slice a m c) fs) {k : Nat} {f : FlowD} (hk : fs[k]? = some f) :
    ∃ b off o cs g, a = some ⟨b, off, none⟩ ∧ b < s.next ∧ s.heap.get b = some o ∧ cellsOf o = some (cs, g) ∧ takeL 7 (cs.drop (off + k * 7)) = some f.cs :=
  SlAt.at h (by rw [List.getElem?_map, hk]; rfl)
set_option maxRecDepth 100000 in
set_option maxHeartbeats 1000000 in
theorem firstError_ev (u : Int) (fl v : Value) (fs : List FlowD) (s : St) (hf : FlAt s v fs) (hl : fs.length ≤ 1000000) :
    Ev TT 44 [v, .func (.func 45) #[plantV u fl] #[]] s fun r s' => r = .int .i64 (firstErr u fs) ∧ Keep s s' := by
  obtain ⟨a, c, rfl⟩ := hf.shape
  rw [List.length_map] at hf ⊢
  refine Ev.intro (fn := Try.f44) rfl (by kernel_rfl) rfl rfl ?_
  apply zz
  refine Cd.ra (h := ?_)
  apply Run.by_eq
  · intro self
    conv => lhs; simp -implicitDefEqProofs (maxSteps := 300000) (disch := omega) [-getElem?_pos, -getElem?_neg]
  try (with_reducible refine Run.ret ?_)
  apply zz
  refine Cd.ra (h := ?_)
  apply Run.by_eq
  · intro self
    conv => lhs; simp -implicitDefEqProofs (maxSteps := 300000) (disch := omega) [-getElem?_pos, -getElem?_neg]
  try (with_reducible refine Run.ret ?_)
  apply zz
  refine Cd.inv (fun w f s' => ∃ k : Nat, k ≤ fs.length ∧ w = fs.length - k ∧ f.marks = [] ∧ f.get 10 = .int .i64 k ∧ f.get 9 = .int .i64 fs.length ∧ f.get 8 = .slice a fs.length c ∧ f.get 1 = .func (.func 45) #[plantV u fl] #[] ∧ Keep s s' ∧ (∀ (j : Nat) (g : FlowD), j < k → fs[j]? = some g → flowErr u g = 0)) fs.length ?_ ?_
  · exact ⟨0, by omega, rfl, by simp, by simp, by simp, by simp, by simp, Keep.refl _, fun j g hj => absurd hj (by omega)⟩
  rintro w f s' ⟨k, hk, rfl, hm, h10, h9, h8, h1, hkp, hz⟩
  have hkpa := hkp.1
  by_cases hlt : k < fs.length
  · obtain ⟨g, hg⟩ : ∃ g, fs[k]? = some g := ⟨fs[k], by simp [hlt]⟩
    obtain ⟨b, off, o, cs, gg, rfl, hb, ho, hc, ht⟩ := FlAt.at (hf.keep hkp) hg
    rw [FlowD.cs] at ht
    apply zz
    refine Cd.ra (h := ?_)
    apply Run.by_eq
    · intro self
      conv => lhs; simp -implicitDefEqProofs (maxSteps := 300000) (disch := omega) [-getElem?_pos, -getElem?_neg, h10, h9]
    try (with_reducible refine Run.ret ?_)
    apply zz
    apply Cd.ite rfl
    · conv => lhs; simp -implicitDefEqProofs (maxSteps := 300000) (disch := omega) [-getElem?_pos, -getElem?_neg]
    all_goals intro c0
    all_goals try (cases c0; done)
    all_goals try simp only [Bool.not_eq_true', Bool.not_eq_false', decide_eq_true_eq, decide_eq_false_iff_not] at c0
    all_goals apply zz
    · apply zz
      refine Cd.ra (h := ?_)
      apply Run.by_eq
      · intro self
        conv => lhs; simp -implicitDefEqProofs (maxSteps := 300000) (disch := omega) [-getElem?_pos, -getElem?_neg, h10, h9, h8, ho, hc, ht, hlt]
      try (with_reducible refine Run.ret ?_)
      apply zz
      refine Cd.ra (h := ?_)
      apply Run.by_eq
      · intro self
        conv => lhs; simp -implicitDefEqProofs (maxSteps := 300000) (disch := omega) [-getElem?_pos, -getElem?_neg, h1]
      try (with_reducible refine Run.ret ?_)
      apply zz
      refine Run.call ((flowError_ev u g fl _).mono fun v wk1 hv => ?_)
      obtain ⟨rfl, k1⟩ := hv
      have k1a := k1.1
      have k1b := k1.2
      try simp only [pushed_next', upded_next'] at k1a k1b
      apply Run.by_eq
      · intro self
        conv => lhs; simp -implicitDefEqProofs (maxSteps := 300000) (disch := omega) [-getElem?_pos, -getElem?_neg]
      try (with_reducible refine Run.ret ?_)
      apply zz
      refine Cd.ra (h := ?_)
      apply Run.by_eq
      · intro self
        conv => lhs; simp -implicitDefEqProofs (maxSteps := 300000) (disch := omega) [-getElem?_pos, -getElem?_neg]
      try (with_reducible refine Run.ret ?_)
      apply zz
      apply Cd.ite rfl
      · conv => lhs; simp -implicitDefEqProofs (maxSteps := 300000) (disch := omega) [-getElem?_pos, -getElem?_neg]
      all_goals intro c2
      all_goals try (cases c2; done)
      all_goals try simp only [Bool.not_eq_true', Bool.not_eq_false', decide_eq_true_eq, decide_eq_false_iff_not] at c2
      all_goals apply zz
      · apply zz
        refine Cd.ra (h := ?_)
        apply Run.by_eq
        · intro self
          conv => lhs; simp -implicitDefEqProofs (maxSteps := 300000) (disch := omega) [-getElem?_pos, -getElem?_neg]
        try (with_reducible refine Run.ret ?_)
        apply zz
        apply Leave.mk (by first | exact .inl rfl | exact .inr rfl) (by simp only [Fr.marks_put, fr0_marks, hm])
        · conv => lhs; simp -implicitDefEqProofs (disch := omega) [Try.results44, hm]
        refine ⟨by rw [firstErr_at hz hg c2]; rfl, ?_⟩
        exact ⟨by (try simp only [pushed_next', upded_next']); omega, fun i hi => by simp -implicitDefEqProofs (disch := omega) [k1b, hkp.2]⟩
      · apply zz
        refine Cd.ra (h := ?_)
        apply Run.by_eq
        · intro self
          conv => lhs; simp -implicitDefEqProofs (maxSteps := 300000) (disch := omega) [-getElem?_pos, -getElem?_neg, h10]
        try (with_reducible refine Run.ret ?_)
        apply zz
        refine LoopK.nm (fs.length - (k + 1)) (by omega) ⟨k + 1, by omega, rfl, by simp [hm], by simp, by simp [h9], by simp [h8], by simp [h1], ?_, fun j g' hj hg' => ?_⟩
        · exact ⟨by (try simp only [pushed_next', upded_next']); omega, fun i hi => by simp -implicitDefEqProofs (disch := omega) [k1b, hkp.2]⟩
        · by_cases e : j = k
          · subst e
            rw [hg] at hg'
            cases hg'
            exact c2
          · exact hz j g' (by omega) hg'
    · simp at c0; omega
  · obtain rfl : k = fs.length := by omega
    apply zz
    refine Cd.ra (h := ?_)
    apply Run.by_eq
    · intro self
      conv => lhs; simp -implicitDefEqProofs (maxSteps := 300000) (disch := omega) [-getElem?_pos, -getElem?_neg, h10, h9]
    try (with_reducible refine Run.ret ?_)
    apply zz
    apply Cd.ite rfl
    · conv => lhs; simp -implicitDefEqProofs (maxSteps := 300000) (disch := omega) [-getElem?_pos, -getElem?_neg]
    all_goals intro c0
    all_goals try (cases c0; done)
    all_goals try simp only [Bool.not_eq_true', Bool.not_eq_false', decide_eq_true_eq, decide_eq_false_iff_not] at c0
    all_goals apply zz
    apply zz
    refine Cd.ra (h := ?_)
    apply Run.by_eq
    · intro self
      conv => lhs; simp -implicitDefEqProofs (maxSteps := 300000) (disch := omega) [-getElem?_pos, -getElem?_neg]
    try (with_reducible refine Run.ret ?_)
    apply zz
    apply Leave.mk (by first | exact .inl rfl | exact .inr rfl) (by simp only [Fr.marks_put, fr0_marks, hm])
    · conv => lhs; simp -implicitDefEqProofs (disch := omega) [Try.results44, hm]
    exact ⟨by rw [firstErr_zero fun j g hg => hz j g (List.getElem?_eq_some_iff.1 hg).1 hg]; rfl, hkp⟩
def checkErr (u : Int) (fs : List FlowD) : Int := if u < 1 ∨ 8 < u then 2 else if 20 < fs.length then 1 else firstErr u fs
set_option maxRecDepth 100000 in
set_option maxHeartbeats 1000000 in
theorem check_ev (u : Int) (v : Value) (fs : List FlowD) (s : St) (hf : FlAt s v fs) (hl : fs.length ≤ 1000000) :
    Ev TT 21 [plantV u v] s fun r s' => r = .int .i64 (checkErr u fs) ∧ Keep s s' := by
  obtain ⟨a, c, rfl⟩ := hf.shape
  rw [List.length_map] at hf ⊢
  unfold plantV
  refine Ev.intro (fn := Try.f21) rfl (by kernel_rfl) rfl rfl ?_
  apply zz
  refine Cd.ra (h := ?_)
  apply Run.by_eq
  · intro self
    conv => lhs; simp -implicitDefEqProofs (maxSteps := 300000) (disch := omega) [-getElem?_pos, -getElem?_neg]
  try (with_reducible refine Run.ret ?_)
  apply zz
  by_cases h1 : u < 1
  · apply zz
    refine Cd.ra (h := ?_)
    apply Run.by_eq
    · intro self
      conv => lhs; simp -implicitDefEqProofs (maxSteps := 300000) (disch := omega) [-getElem?_pos, -getElem?_neg, h1]
    try (with_reducible refine Run.ret ?_)
    apply zz
    apply Cd.ite rfl
    · conv => lhs; simp -implicitDefEqProofs (maxSteps := 300000) (disch := omega) [-getElem?_pos, -getElem?_neg]
    all_goals intro c0
    all_goals try (cases c0; done)
    all_goals try simp only [Bool.not_eq_true', Bool.not_eq_false', decide_eq_true_eq, decide_eq_false_iff_not] at c0
    all_goals apply zz
    apply zz
    refine Cd.ra (h := ?_)
    apply Run.by_eq
    · intro self
      conv => lhs; simp -implicitDefEqProofs (maxSteps := 300000) (disch := omega) [-getElem?_pos, -getElem?_neg]
    try (with_reducible refine Run.ret ?_)
    apply zz
    apply Leave.mk (by first | exact .inl rfl | exact .inr rfl) (by simp only [Fr.marks_put, fr0_marks])
    · conv => lhs; simp -implicitDefEqProofs (disch := omega) [Try.results21]
    exact ⟨by simp [checkErr, h1], (Keep.refl _).pushed _⟩
  by_cases h2 : 8 < u
  · apply zz
    refine Cd.ra (h := ?_)
    apply Run.by_eq
    · intro self
      conv => lhs; simp -implicitDefEqProofs (maxSteps := 300000) (disch := omega) [-getElem?_pos, -getElem?_neg, h1, h2]
    try (with_reducible refine Run.ret ?_)
    apply zz
    apply Cd.ite rfl
    · conv => lhs; simp -implicitDefEqProofs (maxSteps := 300000) (disch := omega) [-getElem?_pos, -getElem?_neg]
    all_goals intro c0
    all_goals try (cases c0; done)
    all_goals try simp only [Bool.not_eq_true', Bool.not_eq_false', decide_eq_true_eq, decide_eq_false_iff_not] at c0
    all_goals apply zz
    apply zz
    refine Cd.ra (h := ?_)
    apply Run.by_eq
    · intro self
      conv => lhs; simp -implicitDefEqProofs (maxSteps := 300000) (disch := omega) [-getElem?_pos, -getElem?_neg]
    try (with_reducible refine Run.ret ?_)
    apply zz
    apply Leave.mk (by first | exact .inl rfl | exact .inr rfl) (by simp only [Fr.marks_put, fr0_marks])
    · conv => lhs; simp -implicitDefEqProofs (disch := omega) [Try.results21]
    exact ⟨by simp [checkErr, h2], (Keep.refl _).pushed _⟩
  apply zz
  refine Cd.ra (h := ?_)
  apply Run.by_eq
  · intro self
    conv => lhs; simp -implicitDefEqProofs (maxSteps := 300000) (disch := omega) [-getElem?_pos, -getElem?_neg, h1, h2]
  try (with_reducible refine Run.ret ?_)
  apply zz
  apply Cd.ite rfl
  · conv => lhs; simp -implicitDefEqProofs (maxSteps := 300000) (disch := omega) [-getElem?_pos, -getElem?_neg]
  all_goals intro c0
  all_goals try (cases c0; done)
  all_goals try simp only [Bool.not_eq_true', Bool.not_eq_false', decide_eq_true_eq, decide_eq_false_iff_not] at c0
  all_goals apply zz
  apply zz
  refine Cd.ra (h := ?_)
  apply Run.by_eq
  · intro self
    conv => lhs; simp -implicitDefEqProofs (maxSteps := 300000) (disch := omega) [-getElem?_pos, -getElem?_neg]
  try (with_reducible refine Run.ret ?_)
  apply zz
  apply Cd.ite rfl
  · conv => lhs; simp -implicitDefEqProofs (maxSteps := 300000) (disch := omega) [-getElem?_pos, -getElem?_neg]
  all_goals intro c1
  all_goals try (cases c1; done)
  all_goals try simp only [Bool.not_eq_true', Bool.not_eq_false', decide_eq_true_eq, decide_eq_false_iff_not] at c1
  all_goals apply zz
  · apply zz
    refine Cd.ra (h := ?_)
    apply Run.by_eq
    · intro self
      conv => lhs; simp -implicitDefEqProofs (maxSteps := 300000) (disch := omega) [-getElem?_pos, -getElem?_neg]
    try (with_reducible refine Run.ret ?_)
    apply zz
    apply Leave.mk (by first | exact .inl rfl | exact .inr rfl) (by simp only [Fr.marks_put, fr0_marks])
    · conv => lhs; simp -implicitDefEqProofs (disch := omega) [Try.results21]
    refine ⟨?_, (Keep.refl _).pushed _⟩
    unfold checkErr; rw [if_neg (by omega), if_pos (by omega)]; rfl
  · apply zz
    refine Cd.ra (h := ?_)
    apply Run.by_eq
    · intro self
      conv => lhs; simp -implicitDefEqProofs (maxSteps := 300000) (disch := omega) [-getElem?_pos, -getElem?_neg]
    try (with_reducible refine Run.ret ?_)
    apply zz
    refine Run.call ((firstError_ev u (.slice a fs.length c) _ fs _ (hf.keep ((Keep.refl _).pushed _)) hl).mono fun v wk hv => ?_)
    obtain ⟨rfl, k⟩ := hv
    have ka := k.1
    have kb := k.2
    try simp only [pushed_next', upded_next'] at ka kb
    apply Run.by_eq
    · intro self
      conv => lhs; simp -implicitDefEqProofs (maxSteps := 300000) (disch := omega) [-getElem?_pos, -getElem?_neg]
    try (with_reducible refine Run.ret ?_)
    apply zz
    apply Leave.mk (by first | exact .inl rfl | exact .inr rfl) (by simp only [Fr.marks_put, fr0_marks])
    · conv => lhs; simp -implicitDefEqProofs (disch := omega) [Try.results21]
    refine ⟨?_, ((Keep.refl _).pushed _).trans k⟩
    unfold checkErr; rw [if_neg (by omega), if_neg (by omega)]; rfl
end Go.Proofs.Ytjehpgflhgpalaa
namespace Go.Proofs.Ytjehpgflhgpalaa
open Go Kern
abbrev IntsAt (s : St) (v : Value) (xs : List Int) : Prop := SlAt 1 s v (xs.map fun x => [.int .i64 x])
theorem IntsAt.at {s : St} {a : Option Addr} {m c : Nat} {xs : List Int} (h : IntsAt s (.slice a m c) xs) {k : Nat} {x : Int} (hk : xs[k]? = some x) :
    ∃ b off o cs g, a = some ⟨b, off, none⟩ ∧ b < s.next ∧ s.heap.get b = some o ∧ cellsOf o = some (cs, g) ∧ cs[off + k]? = some (.int .i64 x) := by
  obtain ⟨b, off, o, cs, g, h1, h2, h3, h4, h5⟩ := SlAt.at h (k := k) (e := [.int .i64 x]) (by rw [List.getElem?_map, hk]; rfl)
  refine ⟨b, off, o, cs, g, h1, h2, h3, h4, ?_⟩
  have := takeL_one h5
  rw [List.getElem?_drop, Nat.mul_one] at this
  exact this
def indexI (x : Int) : List Int → Nat → Int
  | [], _ => -1
  | y :: r, i => if x = y then i else indexI x r (i + 1)
theorem indexI_none {x : Int} : ∀ {xs : List Int} (i : Nat), (∀ (j : Nat) (y : Int), xs[j]? = some y → x ≠ y) → indexI x xs i = -1
  | [], _, _ => rfl
  | y :: r, i, h => by
    simp only [indexI, if_neg (h 0 y rfl)]
    exact indexI_none (i + 1) fun j y hj => h (j + 1) y (by simpa using hj)
theorem indexI_some {x : Int} : ∀ {xs : List Int} (i k : Nat), (∀ (j : Nat) (y : Int), j < k → xs[j]? = some y → x ≠ y) → xs[k]? = some x → indexI x xs i = ((i + k : Nat) : Int)
  | [], _, _, _, h => by simp at h
  | y :: r, i, 0, _, h => by simp at h; subst h; simp [indexI]
  | y :: r, i, k + 1, hz, h => by
    simp only [indexI, if_neg (hz 0 y (by omega) rfl)]
    rw [indexI_some (i + 1) k (fun j y hj hy => hz (j + 1) y (by omega) (by simpa using hy)) (by simpa using h)]
    congr 1; omega
theorem indexI_mem {x : Int} : ∀ {xs : List Int} (i : Nat), (0 ≤ indexI x xs i) ↔ x ∈ xs
  | [], _ => by simp [indexI]
  | y :: r, i => by
    by_cases e : x = y
    · subst e; simp [indexI]
    · simp [indexI, if_neg e, indexI_mem (xs := r) (i + 1), e]
set_option maxRecDepth 100000 in
set_option maxHeartbeats 1000000 in
theorem index_ev (x : Int) (v : Value) (xs : List Int) (s : St) (hx : IntsAt s v xs) (hl : xs.length ≤ 1000000) :
    Ev TT 70 [v, .int .i64 x] s fun r s' => r = .int .i64 (indexI x xs 0) ∧ Keep s s' := by
  obtain ⟨a, c, rfl⟩ := hx.shape
  rw [List.length_map] at hx ⊢
  refine Ev.intro (fn := Try.f70) rfl (by kernel_rfl) rfl rfl ?_
  apply zz
  refine Cd.ra (h := ?_)
  apply Run.by_eq
  · intro self
    conv => lhs; simp -implicitDefEqProofs (maxSteps := 300000) (disch := omega) [-getElem?_pos, -getElem?_neg]
  try (with_reducible refine Run.ret ?_)
  apply zz
  refine Cd.ra (h := ?_)
  apply Run.by_eq
  · intro self
    conv => lhs; simp -implicitDefEqProofs (maxSteps := 300000) (disch := omega) [-getElem?_pos, -getElem?_neg]
  try (with_reducible refine Run.ret ?_)
  apply zz
  refine Cd.inv (fun w f s' => ∃ k : Nat, k ≤ xs.length ∧ w = xs.length - k ∧ f.marks = [] ∧ f.get 8 = .int .i64 k ∧ f.get 7 = .int .i64 xs.length ∧ f.get 0 = .slice a xs.length c ∧ f.get 1 = .int .i64 x ∧ s' = s ∧ (∀ (j : Nat) (y : Int), j < k → xs[j]? = some y → x ≠ y)) xs.length ?_ ?_
  · exact ⟨0, by omega, rfl, by simp, by simp, by simp, by simp, by simp, rfl, fun j g hj => absurd hj (by omega)⟩
  rintro w f s' ⟨k, hk, rfl, hm, h8, h7, h0, h1, rfl, hz⟩
  by_cases hlt : k < xs.length
  · obtain ⟨y, hy⟩ : ∃ y, xs[k]? = some y := ⟨xs[k], by simp [hlt]⟩
    obtain ⟨b, off, o, cs, gg, rfl, hb, ho, hc, ht⟩ := IntsAt.at hx hy
    apply zz
    refine Cd.ra (h := ?_)
    apply Run.by_eq
    · intro self
      conv => lhs; simp -implicitDefEqProofs (maxSteps := 300000) (disch := omega) [-getElem?_pos, -getElem?_neg, h8, h7]
    try (with_reducible refine Run.ret ?_)
    apply zz
    apply Cd.ite rfl
    · conv => lhs; simp -implicitDefEqProofs (maxSteps := 300000) (disch := omega) [-getElem?_pos, -getElem?_neg]
    all_goals intro c0
    all_goals try (cases c0; done)
    all_goals try simp only [Bool.not_eq_true', Bool.not_eq_false', decide_eq_true_eq, decide_eq_false_iff_not] at c0
    all_goals apply zz
    · apply zz
      refine Cd.ra (h := ?_)
      apply Run.by_eq
      · intro self
        conv => lhs; simp -implicitDefEqProofs (maxSteps := 300000) (disch := omega) [-getElem?_pos, -getElem?_neg, h8]
      try (with_reducible refine Run.ret ?_)
      apply zz
      refine Cd.ra (h := ?_)
      apply Run.by_eq
      · intro self
        conv => lhs; simp -implicitDefEqProofs (maxSteps := 300000) (disch := omega) [-getElem?_pos, -getElem?_neg, h1, h0, ho, hc, ht, hlt]
      try (with_reducible refine Run.ret ?_)
      apply zz
      apply Cd.ite rfl
      · conv => lhs; simp -implicitDefEqProofs (maxSteps := 300000) (disch := omega) [-getElem?_pos, -getElem?_neg]
      all_goals intro c2
      all_goals try (cases c2; done)
      all_goals try simp only [Bool.not_eq_true', Bool.not_eq_false', decide_eq_true_eq, decide_eq_false_iff_not] at c2
      all_goals apply zz
      · apply zz
        refine Cd.ra (h := ?_)
        apply Run.by_eq
        · intro self
          conv => lhs; simp -implicitDefEqProofs (maxSteps := 300000) (disch := omega) [-getElem?_pos, -getElem?_neg]
        try (with_reducible refine Run.ret ?_)
        apply zz
        apply Leave.mk (by first | exact .inl rfl | exact .inr rfl) (by simp only [Fr.marks_put, fr0_marks, hm])
        · conv => lhs; simp -implicitDefEqProofs (disch := omega) [Try.results70, hm]
        subst c2
        exact ⟨by rw [indexI_some 0 k hz hy]; simp [tupled], Keep.refl _⟩
      · apply zz
        refine Cd.ra (h := ?_)
        apply Run.by_eq
        · intro self
          conv => lhs; simp -implicitDefEqProofs (maxSteps := 300000) (disch := omega) [-getElem?_pos, -getElem?_neg, h8]
        try (with_reducible refine Run.ret ?_)
        apply zz
        refine LoopK.nm (xs.length - (k + 1)) (by omega) ⟨k + 1, by omega, rfl, by simp [hm], by simp, by simp [h7], by simp [h0], by simp [h1], rfl, fun j g' hj hg' => ?_⟩
        by_cases e : j = k
        · subst e
          rw [hy] at hg'
          cases hg'
          exact c2
        · exact hz j g' (by omega) hg'
    · simp at c0; omega
  · obtain rfl : k = xs.length := by omega
    apply zz
    refine Cd.ra (h := ?_)
    apply Run.by_eq
    · intro self
      conv => lhs; simp -implicitDefEqProofs (maxSteps := 300000) (disch := omega) [-getElem?_pos, -getElem?_neg, h8, h7]
    try (with_reducible refine Run.ret ?_)
    apply zz
    apply Cd.ite rfl
    · conv => lhs; simp -implicitDefEqProofs (maxSteps := 300000) (disch := omega) [-getElem?_pos, -getElem?_neg]
    all_goals intro c0
    all_goals try (cases c0; done)
    all_goals try simp only [Bool.not_eq_true', Bool.not_eq_false', decide_eq_true_eq, decide_eq_false_iff_not] at c0
    all_goals apply zz
    apply zz
    refine Cd.ra (h := ?_)
    apply Run.by_eq
    · intro self
      conv => lhs; simp -implicitDefEqProofs (maxSteps := 300000) (disch := omega) [-getElem?_pos, -getElem?_neg]
    try (with_reducible refine Run.ret ?_)
    apply zz
    apply Leave.mk (by first | exact .inl rfl | exact .inr rfl) (by simp only [Fr.marks_put, fr0_marks, hm])
    · conv => lhs; simp -implicitDefEqProofs (disch := omega) [Try.results70, hm]
    exact ⟨by rw [indexI_none 0 fun j y hy => hz j y (List.getElem?_eq_some_iff.1 hy).1 hy]; rfl, Keep.refl _⟩
set_option maxRecDepth 100000 in
theorem contains_ev (x : Int) (v : Value) (xs : List Int) (s : St) (hx : IntsAt s v xs) (hl : xs.length ≤ 1000000) :
    Ev TT 60 [v, .int .i64 x] s fun r s' => r = .bool (decide (x ∈ xs)) ∧ Keep s s' := by
  refine Ev.intro (fn := Try.f60) rfl (by kernel_rfl) rfl rfl ?_
  apply zz
  refine Cd.ra (h := ?_)
  apply Run.by_eq
  · intro self
    conv => lhs; simp -implicitDefEqProofs (maxSteps := 300000) (disch := omega) [-getElem?_pos, -getElem?_neg]
  try (with_reducible refine Run.ret ?_)
  apply zz
  refine Cd.ra (h := ?_)
  apply Run.by_eq
  · intro self
    conv => lhs; simp -implicitDefEqProofs (maxSteps := 300000) (disch := omega) [-getElem?_pos, -getElem?_neg]
  try (with_reducible refine Run.ret ?_)
  apply zz
  refine Run.call ((index_ev x v xs _ hx hl).mono fun v wk hv => ?_)
  obtain ⟨rfl, k⟩ := hv
  have ka := k.1
  have kb := k.2
  try simp only [pushed_next', upded_next'] at ka kb
  apply Run.by_eq
  · intro self
    conv => lhs; simp -implicitDefEqProofs (maxSteps := 300000) (disch := omega) [-getElem?_pos, -getElem?_neg]
  try (with_reducible refine Run.ret ?_)
  apply zz
  apply Leave.mk (by first | exact .inl rfl | exact .inr rfl) (by simp only [Fr.marks_put, fr0_marks])
  · conv => lhs; simp -implicitDefEqProofs (disch := omega) [Try.results60]
  refine ⟨?_, k⟩
  have := @indexI_mem x xs 0
  simp [tupled, this]
def Mass.add (m p : Mass) : Mass := ⟨m.a + p.a, m.b + p.b, m.c + p.c, m.d + p.d⟩
def Mass.sub (m p : Mass) : Mass := ⟨m.a - p.a, m.b - p.b, m.c - p.c, m.d - p.d⟩
def Mass.le (m : Mass) (B : Int) : Prop := (-B ≤ m.a ∧ m.a ≤ B) ∧ (-B ≤ m.b ∧ m.b ≤ B) ∧ (-B ≤ m.c ∧ m.c ≤ B) ∧ (-B ≤ m.d ∧ m.d ≤ B)
/-- The first k of one and the rest of the other. -/
def mixL (k : Nat) (x y : Mass) : List Value := [.int .i64 (if 0 < k then x.a else y.a), .int .i64 (if 1 < k then x.b else y.b), .int .i64 (if 2 < k then x.c else y.c), .int .i64 (if 3 < k then x.d else y.d)]
set_option maxRecDepth 100000 in
set_option maxHeartbeats 1000000 in
theorem plus_ev (m p : Mass) (s : St) (hb : (m.add p).le 4611686018427387904) : Ev TT 61 [m.v, p.v] s fun v s' => v = (m.add p).v ∧ Keep s s' := by
  obtain ⟨⟨a1, a2⟩, ⟨b1, b2⟩, ⟨c1, c2⟩, d1, d2⟩ := hb
  simp only [Mass.add] at a1 a2 b1 b2 c1 c2 d1 d2
  unfold Mass.v
  refine Ev.intro (fn := Try.f61) rfl (by kernel_rfl) rfl rfl ?_
  apply zz
  refine Cd.ra (h := ?_)
  apply Run.by_eq
  · intro self
    conv => lhs; simp -implicitDefEqProofs (maxSteps := 300000) (disch := omega) [-getElem?_pos, -getElem?_neg]
  try (with_reducible refine Run.ret ?_)
  apply zz
  refine Cd.ra (h := ?_)
  apply Run.by_eq
  · intro self
    conv => lhs; simp -implicitDefEqProofs (maxSteps := 300000) (disch := omega) [-getElem?_pos, -getElem?_neg]
  try (with_reducible refine Run.ret ?_)
  apply zz
  refine Cd.inv (fun w f s' => ∃ k : Nat, k ≤ 4 ∧ w = 4 - k ∧ f.marks = [] ∧ f.get 8 = .int .i64 k ∧ f.get 7 = .agg [.int .i64 p.a, .int .i64 p.b, .int .i64 p.c, .int .i64 p.d].toArray ∧ f.get 2 = .pointer (some ⟨s.next, 0, none⟩) ∧ f.get 4 = .pointer (some ⟨s.next + 1 + 1, 0, none⟩) ∧ Keep s s' ∧ s.next + 1 + 1 < s'.next ∧ s'.heap.get s.next = some (.cells (mixL k (m.add p) m) none) ∧ s'.heap.get (s.next + 1 + 1) = some (.cells [.int .i64 0, .int .i64 0, .int .i64 0, .int .i64 0] none)) 4 ?_ ?_
  · exact ⟨0, by omega, rfl, by simp, by simp, by simp, by simp, by simp, (((Keep.refl _).pushed _).pushed _).pushed _, by simp, by simp -implicitDefEqProofs (disch := omega) [mixL], by simp⟩
  rintro w f s' ⟨k, hk, rfl, hm, h8, h7, h2, h4, hkp, hnx, hget, hget2⟩
  have hkpa := hkp.1
  have hk5 : k = 0 ∨ k = 1 ∨ k = 2 ∨ k = 3 ∨ k = 4 := by omega
  rcases hk5 with rfl | rfl | rfl | rfl | rfl
  all_goals simp only [mixL, Mass.add, Nat.lt_irrefl, if_false, Nat.reduceLT, if_true] at hget
  · apply zz
    refine Cd.ra (h := ?_)
    apply Run.by_eq
    · intro self
      conv => lhs; simp -implicitDefEqProofs (maxSteps := 300000) (disch := omega) [-getElem?_pos, -getElem?_neg, h8]
    try (with_reducible refine Run.ret ?_)
    apply zz
    apply Cd.ite rfl
    · conv => lhs; simp -implicitDefEqProofs (maxSteps := 300000) (disch := omega) [-getElem?_pos, -getElem?_neg]
    all_goals intro c0
    all_goals try (cases c0; done)
    all_goals try simp only [Bool.not_eq_true', Bool.not_eq_false', decide_eq_true_eq, decide_eq_false_iff_not] at c0
    all_goals apply zz
    · apply zz
      refine Cd.ra (h := ?_)
      apply Run.by_eq
      · intro self
        conv => lhs; simp -implicitDefEqProofs (maxSteps := 300000) (disch := omega) [-getElem?_pos, -getElem?_neg, h8, h7]
      try (with_reducible refine Run.ret ?_)
      apply zz
      refine Cd.ra (h := ?_)
      apply Run.by_eq
      · intro self
        conv => lhs; simp -implicitDefEqProofs (maxSteps := 300000) (disch := omega) [-getElem?_pos, -getElem?_neg, h2, hget]
      try (with_reducible refine Run.ret ?_)
      apply zz
      refine Cd.ra (h := ?_)
      apply Run.by_eq
      · intro self
        conv => lhs; simp -implicitDefEqProofs (maxSteps := 300000) (disch := omega) [-getElem?_pos, -getElem?_neg, h8]
      try (with_reducible refine Run.ret ?_)
      apply zz
      refine LoopK.nm (4 - (0 + 1)) (by omega) ⟨0 + 1, by omega, rfl, by simp [hm], by simp, by simp [h7], by simp [h2], by simp [h4], hkp.upded (Nat.le_refl _) _, by simpa using hnx, ?_, ?_⟩
      · simp [mixL, Mass.add]
      · simp -implicitDefEqProofs (disch := omega) [hget2]
  · apply zz
    refine Cd.ra (h := ?_)
    apply Run.by_eq
    · intro self
      conv => lhs; simp -implicitDefEqProofs (maxSteps := 300000) (disch := omega) [-getElem?_pos, -getElem?_neg, h8]
    try (with_reducible refine Run.ret ?_)
    apply zz
    apply Cd.ite rfl
    · conv => lhs; simp -implicitDefEqProofs (maxSteps := 300000) (disch := omega) [-getElem?_pos, -getElem?_neg]
    all_goals intro c0
    all_goals try (cases c0; done)
    all_goals try simp only [Bool.not_eq_true', Bool.not_eq_false', decide_eq_true_eq, decide_eq_false_iff_not] at c0
    all_goals apply zz
    · apply zz
      refine Cd.ra (h := ?_)
      apply Run.by_eq
      · intro self
        conv => lhs; simp -implicitDefEqProofs (maxSteps := 300000) (disch := omega) [-getElem?_pos, -getElem?_neg, h8, h7]
      try (with_reducible refine Run.ret ?_)
      apply zz
      refine Cd.ra (h := ?_)
      apply Run.by_eq
      · intro self
        conv => lhs; simp -implicitDefEqProofs (maxSteps := 300000) (disch := omega) [-getElem?_pos, -getElem?_neg, h2, hget]
      try (with_reducible refine Run.ret ?_)
      apply zz
      refine Cd.ra (h := ?_)
      apply Run.by_eq
      · intro self
        conv => lhs; simp -implicitDefEqProofs (maxSteps := 300000) (disch := omega) [-getElem?_pos, -getElem?_neg, h8]
      try (with_reducible refine Run.ret ?_)
      apply zz
      refine LoopK.nm (4 - (1 + 1)) (by omega) ⟨1 + 1, by omega, rfl, by simp [hm], by simp, by simp [h7], by simp [h2], by simp [h4], hkp.upded (Nat.le_refl _) _, by simpa using hnx, ?_, ?_⟩
      · simp [mixL, Mass.add]
      · simp -implicitDefEqProofs (disch := omega) [hget2]
  · apply zz
    refine Cd.ra (h := ?_)
    apply Run.by_eq
    · intro self
      conv => lhs; simp -implicitDefEqProofs (maxSteps := 300000) (disch := omega) [-getElem?_pos, -getElem?_neg, h8]
    try (with_reducible refine Run.ret ?_)
    apply zz
    apply Cd.ite rfl
    · conv => lhs; simp -implicitDefEqProofs (maxSteps := 300000) (disch := omega) [-getElem?_pos, -getElem?_neg]
    all_goals intro c0
    all_goals try (cases c0; done)
    all_goals try simp only [Bool.not_eq_true', Bool.not_eq_false', decide_eq_true_eq, decide_eq_false_iff_not] at c0
    all_goals apply zz
    · apply zz
      refine Cd.ra (h := ?_)
      apply Run.by_eq
      · intro self
        conv => lhs; simp -implicitDefEqProofs (maxSteps := 300000) (disch := omega) [-getElem?_pos, -getElem?_neg, h8, h7]
      try (with_reducible refine Run.ret ?_)
      apply zz
      refine Cd.ra (h := ?_)
      apply Run.by_eq
      · intro self
        conv => lhs; simp -implicitDefEqProofs (maxSteps := 300000) (disch := omega) [-getElem?_pos, -getElem?_neg, h2, hget]
      try (with_reducible refine Run.ret ?_)
      apply zz
      refine Cd.ra (h := ?_)
      apply Run.by_eq
      · intro self
        conv => lhs; simp -implicitDefEqProofs (maxSteps := 300000) (disch := omega) [-getElem?_pos, -getElem?_neg, h8]
      try (with_reducible refine Run.ret ?_)
      apply zz
      refine LoopK.nm (4 - (2 + 1)) (by omega) ⟨2 + 1, by omega, rfl, by simp [hm], by simp, by simp [h7], by simp [h2], by simp [h4], hkp.upded (Nat.le_refl _) _, by simpa using hnx, ?_, ?_⟩
      · simp [mixL, Mass.add]
      · simp -implicitDefEqProofs (disch := omega) [hget2]
  · apply zz
    refine Cd.ra (h := ?_)
    apply Run.by_eq
    · intro self
      conv => lhs; simp -implicitDefEqProofs (maxSteps := 300000) (disch := omega) [-getElem?_pos, -getElem?_neg, h8]
    try (with_reducible refine Run.ret ?_)
    apply zz
    apply Cd.ite rfl
    · conv => lhs; simp -implicitDefEqProofs (maxSteps := 300000) (disch := omega) [-getElem?_pos, -getElem?_neg]
    all_goals intro c0
    all_goals try (cases c0; done)
    all_goals try simp only [Bool.not_eq_true', Bool.not_eq_false', decide_eq_true_eq, decide_eq_false_iff_not] at c0
    all_goals apply zz
    · apply zz
      refine Cd.ra (h := ?_)
      apply Run.by_eq
      · intro self
        conv => lhs; simp -implicitDefEqProofs (maxSteps := 300000) (disch := omega) [-getElem?_pos, -getElem?_neg, h8, h7]
      try (with_reducible refine Run.ret ?_)
      apply zz
      refine Cd.ra (h := ?_)
      apply Run.by_eq
      · intro self
        conv => lhs; simp -implicitDefEqProofs (maxSteps := 300000) (disch := omega) [-getElem?_pos, -getElem?_neg, h2, hget]
      try (with_reducible refine Run.ret ?_)
      apply zz
      refine Cd.ra (h := ?_)
      apply Run.by_eq
      · intro self
        conv => lhs; simp -implicitDefEqProofs (maxSteps := 300000) (disch := omega) [-getElem?_pos, -getElem?_neg, h8]
      try (with_reducible refine Run.ret ?_)
      apply zz
      refine LoopK.nm (4 - (3 + 1)) (by omega) ⟨3 + 1, by omega, rfl, by simp [hm], by simp, by simp [h7], by simp [h2], by simp [h4], hkp.upded (Nat.le_refl _) _, by simpa using hnx, ?_, ?_⟩
      · simp [mixL, Mass.add]
      · simp -implicitDefEqProofs (disch := omega) [hget2]
  · apply zz
    refine Cd.ra (h := ?_)
    apply Run.by_eq
    · intro self
      conv => lhs; simp -implicitDefEqProofs (maxSteps := 300000) (disch := omega) [-getElem?_pos, -getElem?_neg, h8]
    try (with_reducible refine Run.ret ?_)
    apply zz
    apply Cd.ite rfl
    · conv => lhs; simp -implicitDefEqProofs (maxSteps := 300000) (disch := omega) [-getElem?_pos, -getElem?_neg]
    all_goals intro c0
    all_goals try (cases c0; done)
    all_goals try simp only [Bool.not_eq_true', Bool.not_eq_false', decide_eq_true_eq, decide_eq_false_iff_not] at c0
    all_goals apply zz
    apply zz
    refine Cd.ra (h := ?_)
    apply Run.by_eq
    · intro self
      conv => lhs; simp -implicitDefEqProofs (maxSteps := 300000) (disch := omega) [-getElem?_pos, -getElem?_neg, h2, hget, h4, hget2]
    try (with_reducible refine Run.ret ?_)
    apply zz
    apply Leave.mk (by first | exact .inl rfl | exact .inr rfl) (by simp only [Fr.marks_put, fr0_marks, hm, h4])
    · conv => lhs; simp -implicitDefEqProofs (disch := omega) [Try.results61, hm, h4]
    exact ⟨rfl, hkp.upded (by omega) _⟩
set_option maxRecDepth 100000 in
set_option maxHeartbeats 1000000 in
theorem minus_ev (m p : Mass) (s : St) (hb : (m.sub p).le 4611686018427387904) : Ev TT 62 [m.v, p.v] s fun v s' => v = (m.sub p).v ∧ Keep s s' := by
  obtain ⟨⟨a1, a2⟩, ⟨b1, b2⟩, ⟨c1, c2⟩, d1, d2⟩ := hb
  simp only [Mass.sub] at a1 a2 b1 b2 c1 c2 d1 d2
  unfold Mass.v
  refine Ev.intro (fn := Try.f62) rfl (by kernel_rfl) rfl rfl ?_
  apply zz
  refine Cd.ra (h := ?_)
  apply Run.by_eq
  · intro self
    conv => lhs; simp -implicitDefEqProofs (maxSteps := 300000) (disch := omega) [-getElem?_pos, -getElem?_neg]
  try (with_reducible refine Run.ret ?_)
  apply zz
  refine Cd.ra (h := ?_)
  apply Run.by_eq
  · intro self
    conv => lhs; simp -implicitDefEqProofs (maxSteps := 300000) (disch := omega) [-getElem?_pos, -getElem?_neg]
  try (with_reducible refine Run.ret ?_)
  apply zz
  refine Cd.inv (fun w f s' => ∃ k : Nat, k ≤ 4 ∧ w = 4 - k ∧ f.marks = [] ∧ f.get 8 = .int .i64 k ∧ f.get 7 = .agg [.int .i64 p.a, .int .i64 p.b, .int .i64 p.c, .int .i64 p.d].toArray ∧ f.get 2 = .pointer (some ⟨s.next, 0, none⟩) ∧ f.get 4 = .pointer (some ⟨s.next + 1 + 1, 0, none⟩) ∧ Keep s s' ∧ s.next + 1 + 1 < s'.next ∧ s'.heap.get s.next = some (.cells (mixL k (m.sub p) m) none) ∧ s'.heap.get (s.next + 1 + 1) = some (.cells [.int .i64 0, .int .i64 0, .int .i64 0, .int .i64 0] none)) 4 ?_ ?_
  · exact ⟨0, by omega, rfl, by simp, by simp, by simp, by simp, by simp, (((Keep.refl _).pushed _).pushed _).pushed _, by simp, by simp -implicitDefEqProofs (disch := omega) [mixL], by simp⟩
  rintro w f s' ⟨k, hk, rfl, hm, h8, h7, h2, h4, hkp, hnx, hget, hget2⟩
  have hkpa := hkp.1
  have hk5 : k = 0 ∨ k = 1 ∨ k = 2 ∨ k = 3 ∨ k = 4 := by omega
  rcases hk5 with rfl | rfl | rfl | rfl | rfl
  all_goals simp only [mixL, Mass.sub, Nat.lt_irrefl, if_false, Nat.reduceLT, if_true] at hget
  · apply zz
    refine Cd.ra (h := ?_)
    apply Run.by_eq
    · intro self
      conv => lhs; simp -implicitDefEqProofs (maxSteps := 300000) (disch := omega) [-getElem?_pos, -getElem?_neg, h8]
    try (with_reducible refine Run.ret ?_)
    apply zz
    apply Cd.ite rfl
    · conv => lhs; simp -implicitDefEqProofs (maxSteps := 300000) (disch := omega) [-getElem?_pos, -getElem?_neg]
    all_goals intro c0
    all_goals try (cases c0; done)
    all_goals try simp only [Bool.not_eq_true', Bool.not_eq_false', decide_eq_true_eq, decide_eq_false_iff_not] at c0
    all_goals apply zz
    · apply zz
      refine Cd.ra (h := ?_)
      apply Run.by_eq
      · intro self
        conv => lhs; simp -implicitDefEqProofs (maxSteps := 300000) (disch := omega) [-getElem?_pos, -getElem?_neg, h8, h7]
      try (with_reducible refine Run.ret ?_)
      apply zz
      refine Cd.ra (h := ?_)
      apply Run.by_eq
      · intro self
        conv => lhs; simp -implicitDefEqProofs (maxSteps := 300000) (disch := omega) [-getElem?_pos, -getElem?_neg, h2, hget]
      try (with_reducible refine Run.ret ?_)
      apply zz
      refine Cd.ra (h := ?_)
      apply Run.by_eq
      · intro self
        conv => lhs; simp -implicitDefEqProofs (maxSteps := 300000) (disch := omega) [-getElem?_pos, -getElem?_neg, h8]
      try (with_reducible refine Run.ret ?_)
      apply zz
      refine LoopK.nm (4 - (0 + 1)) (by omega) ⟨0 + 1, by omega, rfl, by simp [hm], by simp, by simp [h7], by simp [h2], by simp [h4], hkp.upded (Nat.le_refl _) _, by simpa using hnx, ?_, ?_⟩
      · simp [mixL, Mass.sub]
      · simp -implicitDefEqProofs (disch := omega) [hget2]
  · apply zz
    refine Cd.ra (h := ?_)
    apply Run.by_eq
    · intro self
      conv => lhs; simp -implicitDefEqProofs (maxSteps := 300000) (disch := omega) [-getElem?_pos, -getElem?_neg, h8]
    try (with_reducible refine Run.ret ?_)
    apply zz
    apply Cd.ite rfl
    · conv => lhs; simp -implicitDefEqProofs (maxSteps := 300000) (disch := omega) [-getElem?_pos, -getElem?_neg]
    all_goals intro c0
    all_goals try (cases c0; done)
    all_goals try simp only [Bool.not_eq_true', Bool.not_eq_false', decide_eq_true_eq, decide_eq_false_iff_not] at c0
    all_goals apply zz
    · apply zz
      refine Cd.ra (h := ?_)
      apply Run.by_eq
      · intro self
        conv => lhs; simp -implicitDefEqProofs (maxSteps := 300000) (disch := omega) [-getElem?_pos, -getElem?_neg, h8, h7]
      try (with_reducible refine Run.ret ?_)
      apply zz
      refine Cd.ra (h := ?_)
      apply Run.by_eq
      · intro self
        conv => lhs; simp -implicitDefEqProofs (maxSteps := 300000) (disch := omega) [-getElem?_pos, -getElem?_neg, h2, hget]
      try (with_reducible refine Run.ret ?_)
      apply zz
      refine Cd.ra (h := ?_)
      apply Run.by_eq
      · intro self
        conv => lhs; simp -implicitDefEqProofs (maxSteps := 300000) (disch := omega) [-getElem?_pos, -getElem?_neg, h8]
      try (with_reducible refine Run.ret ?_)
      apply zz
      refine LoopK.nm (4 - (1 + 1)) (by omega) ⟨1 + 1, by omega, rfl, by simp [hm], by simp, by simp [h7], by simp [h2], by simp [h4], hkp.upded (Nat.le_refl _) _, by simpa using hnx, ?_, ?_⟩
      · simp [mixL, Mass.sub]
      · simp -implicitDefEqProofs (disch := omega) [hget2]
  · apply zz
    refine Cd.ra (h := ?_)
    apply Run.by_eq
    · intro self
      conv => lhs; simp -implicitDefEqProofs (maxSteps := 300000) (disch := omega) [-getElem?_pos, -getElem?_neg, h8]
    try (with_reducible refine Run.ret ?_)
    apply zz
    apply Cd.ite rfl
    · conv => lhs; simp -implicitDefEqProofs (maxSteps := 300000) (disch := omega) [-getElem?_pos, -getElem?_neg]
    all_goals intro c0
    all_goals try (cases c0; done)
    all_goals try simp only [Bool.not_eq_true', Bool.not_eq_false', decide_eq_true_eq, decide_eq_false_iff_not] at c0
    all_goals apply zz
    · apply zz
      refine Cd.ra (h := ?_)
      apply Run.by_eq
      · intro self
        conv => lhs; simp -implicitDefEqProofs (maxSteps := 300000) (disch := omega) [-getElem?_pos, -getElem?_neg, h8, h7]
      try (with_reducible refine Run.ret ?_)
      apply zz
      refine Cd.ra (h := ?_)
      apply Run.by_eq
      · intro self
        conv => lhs; simp -implicitDefEqProofs (maxSteps := 300000) (disch := omega) [-getElem?_pos, -getElem?_neg, h2, hget]
      try (with_reducible refine Run.ret ?_)
      apply zz
      refine Cd.ra (h := ?_)
      apply Run.by_eq
      · intro self
        conv => lhs; simp -implicitDefEqProofs (maxSteps := 300000) (disch := omega) [-getElem?_pos, -getElem?_neg, h8]
      try (with_reducible refine Run.ret ?_)
      apply zz
      refine LoopK.nm (4 - (2 + 1)) (by omega) ⟨2 + 1, by omega, rfl, by simp [hm], by simp, by simp [h7], by simp [h2], by simp [h4], hkp.upded (Nat.le_refl _) _, by simpa using hnx, ?_, ?_⟩
      · simp [mixL, Mass.sub]
      · simp -implicitDefEqProofs (disch := omega) [hget2]
  · apply zz
    refine Cd.ra (h := ?_)
    apply Run.by_eq
    · intro self
      conv => lhs; simp -implicitDefEqProofs (maxSteps := 300000) (disch := omega) [-getElem?_pos, -getElem?_neg, h8]
    try (with_reducible refine Run.ret ?_)
    apply zz
    apply Cd.ite rfl
    · conv => lhs; simp -implicitDefEqProofs (maxSteps := 300000) (disch := omega) [-getElem?_pos, -getElem?_neg]
    all_goals intro c0
    all_goals try (cases c0; done)
    all_goals try simp only [Bool.not_eq_true', Bool.not_eq_false', decide_eq_true_eq, decide_eq_false_iff_not] at c0
    all_goals apply zz
    · apply zz
      refine Cd.ra (h := ?_)
      apply Run.by_eq
      · intro self
        conv => lhs; simp -implicitDefEqProofs (maxSteps := 300000) (disch := omega) [-getElem?_pos, -getElem?_neg, h8, h7]
      try (with_reducible refine Run.ret ?_)
      apply zz
      refine Cd.ra (h := ?_)
      apply Run.by_eq
      · intro self
        conv => lhs; simp -implicitDefEqProofs (maxSteps := 300000) (disch := omega) [-getElem?_pos, -getElem?_neg, h2, hget]
      try (with_reducible refine Run.ret ?_)
      apply zz
      refine Cd.ra (h := ?_)
      apply Run.by_eq
      · intro self
        conv => lhs; simp -implicitDefEqProofs (maxSteps := 300000) (disch := omega) [-getElem?_pos, -getElem?_neg, h8]
      try (with_reducible refine Run.ret ?_)
      apply zz
      refine LoopK.nm (4 - (3 + 1)) (by omega) ⟨3 + 1, by omega, rfl, by simp [hm], by simp, by simp [h7], by simp [h2], by simp [h4], hkp.upded (Nat.le_refl _) _, by simpa using hnx, ?_, ?_⟩
      · simp [mixL, Mass.sub]
      · simp -implicitDefEqProofs (disch := omega) [hget2]
  · apply zz
    refine Cd.ra (h := ?_)
    apply Run.by_eq
    · intro self
      conv => lhs; simp -implicitDefEqProofs (maxSteps := 300000) (disch := omega) [-getElem?_pos, -getElem?_neg, h8]
    try (with_reducible refine Run.ret ?_)
    apply zz
    apply Cd.ite rfl
    · conv => lhs; simp -implicitDefEqProofs (maxSteps := 300000) (disch := omega) [-getElem?_pos, -getElem?_neg]
    all_goals intro c0
    all_goals try (cases c0; done)
    all_goals try simp only [Bool.not_eq_true', Bool.not_eq_false', decide_eq_true_eq, decide_eq_false_iff_not] at c0
    all_goals apply zz
    apply zz
    refine Cd.ra (h := ?_)
    apply Run.by_eq
    · intro self
      conv => lhs; simp -implicitDefEqProofs (maxSteps := 300000) (disch := omega) [-getElem?_pos, -getElem?_neg, h2, hget, h4, hget2]
    try (with_reducible refine Run.ret ?_)
    apply zz
    apply Leave.mk (by first | exact .inl rfl | exact .inr rfl) (by simp only [Fr.marks_put, fr0_marks, hm, h4])
    · conv => lhs; simp -implicitDefEqProofs (disch := omega) [Try.results62, hm, h4]
    exact ⟨rfl, hkp.upded (by omega) _⟩
end Go.Proofs.Ytjehpgflhgpalaa
namespace Go.Proofs.Ytjehpgflhgpalaa
open Go Kern
def Mass.zero : Mass := ⟨0, 0, 0, 0⟩
theorem Mass.le.add {m p : Mass} {A B : Int} (h : m.le A) (k : p.le B) : (m.add p).le (A + B) := by
  unfold Mass.le Mass.add at *; simp only []; omega
theorem Mass.le.sub {m p : Mass} {A B : Int} (h : m.le A) (k : p.le B) : (m.sub p).le (A + B) := by
  unfold Mass.le Mass.sub at *; simp only []; omega
theorem Mass.le.mono {m : Mass} {A B : Int} (h : m.le A) (k : A ≤ B) : m.le B := by
  unfold Mass.le at *; omega
theorem Mass.add_sub (m p : Mass) : (m.add p).sub p = m := by
  unfold Mass.add Mass.sub; cases m; simp
def excStep (xs : List Int) (acc : Mass) (f : FlowD) : Mass :=
  if f.me then (if f.fr ∈ xs then (if f.to ∈ xs then acc.add f.m else acc).sub f.m else if f.to ∈ xs then acc.add f.m else acc) else acc
def excM (xs : List Int) (fs : List FlowD) : Mass := fs.foldl (excStep xs) Mass.zero
theorem excStep_le {xs : List Int} {acc : Mass} {f : FlowD} {A B : Int} (h : acc.le A) (hB : 0 ≤ B) (hf : f.me = true → f.m.le B) : (excStep xs acc f).le (A + B) := by
  unfold excStep
  by_cases hm : f.me = true
  · rw [if_pos hm]
    by_cases h1 : f.fr ∈ xs <;> by_cases h2 : f.to ∈ xs <;> simp only [h1, h2, if_true, if_false]
    · rw [Mass.add_sub]; exact h.mono (by omega)
    · exact h.sub (hf hm)
    · exact h.add (hf hm)
    · exact h.mono (by omega)
  · rw [if_neg hm]; exact h.mono (by omega)
theorem fold_take {α β : Type} (g : β → α → β) (b : β) (l : List α) {k : Nat} {x : α} (h : l[k]? = some x) : (l.take (k + 1)).foldl g b = g ((l.take k).foldl g b) x := by
  rw [List.take_add_one, h]; simp
theorem exc_bound {xs : List Int} {fs : List FlowD} {B : Int} (hB : 0 ≤ B) (hf : ∀ f ∈ fs, f.me = true → f.m.le B) : ∀ k : Nat, ((fs.take k).foldl (excStep xs) Mass.zero).le (k * B)
  | 0 => by simp [Mass.le, Mass.zero]
  | k + 1 => by
    cases hk : fs[k]? with
    | none =>
      have : fs.take (k + 1) = fs.take k := by
        rw [List.getElem?_eq_none_iff] at hk
        rw [List.take_of_length_le hk, List.take_of_length_le (by omega)]
      rw [this]
      exact (exc_bound hB hf k).mono (by push_cast; rw [Int.add_mul]; omega)
    | some f =>
      rw [fold_take _ _ _ hk]
      have := excStep_le (xs := xs) (exc_bound (xs := xs) hB hf k) hB (hf f (List.mem_of_getElem? hk))
      exact this.mono (by push_cast; rw [Int.add_mul]; omega)
set_option maxRecDepth 100000 in
set_option maxHeartbeats 2000000 in
theorem excess_ev (u : Int) (v w : Value) (fs : List FlowD) (xs : List Int) (s : St) (hf : FlAt s v fs) (hx : IntsAt s w xs) (hl : fs.length ≤ 1000) (hlx : xs.length ≤ 1000000)
    (hB : ∀ f ∈ fs, f.me = true → f.m.le 1000000000000) :
    Ev TT 41 [plantV u v, w] s fun r s' => r = (excM xs fs).v ∧ Keep s s' := by
  obtain ⟨a, c, rfl⟩ := hf.shape
  rw [List.length_map] at hf ⊢
  unfold plantV
  have hbd := exc_bound (xs := xs) (fs := fs) (B := 1000000000000) (by omega) hB
  refine Ev.intro (fn := Try.f41) rfl (by kernel_rfl) rfl rfl ?_
  apply zz
  refine Cd.ra (h := ?_)
  apply Run.by_eq
  · intro self
    conv => lhs; simp -implicitDefEqProofs (maxSteps := 300000) (disch := omega) [-getElem?_pos, -getElem?_neg]
  try (with_reducible refine Run.ret ?_)
  apply zz
  refine Cd.ra (h := ?_)
  apply Run.by_eq
  · intro self
    conv => lhs; simp -implicitDefEqProofs (maxSteps := 300000) (disch := omega) [-getElem?_pos, -getElem?_neg]
  try (with_reducible refine Run.ret ?_)
  apply zz
  refine Cd.ra (h := ?_)
  apply Run.by_eq
  · intro self
    conv => lhs; simp -implicitDefEqProofs (maxSteps := 300000) (disch := omega) [-getElem?_pos, -getElem?_neg]
  try (with_reducible refine Run.ret ?_)
  apply zz
  refine Cd.inv (fun z f s' => ∃ k : Nat, k ≤ fs.length ∧ z = fs.length - k ∧ f.marks = [] ∧ f.get 11 = .int .i64 k ∧ f.get 10 = .int .i64 fs.length ∧ f.get 9 = .slice a fs.length c ∧ f.get 1 = w ∧ f.get 4 = .pointer (some ⟨s.next + 1, 0, none⟩) ∧ f.get 5 = .pointer (some ⟨s.next + 1 + 1, 0, none⟩) ∧ Keep s s' ∧ s.next + 1 + 1 < s'.next ∧ s'.heap.get (s.next + 1) = some (.cells Mass.zero.cs none) ∧ s'.heap.get (s.next + 1 + 1) = some (.cells ((fs.take k).foldl (excStep xs) Mass.zero).cs none)) fs.length ?_ ?_
  · exact ⟨0, by omega, rfl, by simp, by simp, by simp, by simp, by simp, by simp, by simp, (((Keep.refl _).pushed _).pushed _).pushed _, by simp, by simp [Mass.zero, Mass.cs], by simp [Mass.zero, Mass.cs]⟩
  rintro z f s' ⟨k, hk, rfl, hm, h11, h10, h9, h1, h4, h5, hkp, hnx, hg1, hg2⟩
  have hkpa := hkp.1
  have hkpb := hkp.2
  by_cases hlt : k < fs.length
  · obtain ⟨g, hg⟩ : ∃ g, fs[k]? = some g := ⟨fs[k], by simp [hlt]⟩
    have hnext := fold_take (excStep xs) Mass.zero fs hg
    have hb0 := hbd k
    generalize (fs.take k).foldl (excStep xs) Mass.zero = acc at hnext hb0 hg2
    have hgB := hB g (List.mem_of_getElem? hg)
    have hkk : (k : Int) * 1000000000000 ≤ 1000000000000000 := by omega
    obtain ⟨b, off, o, cs, gg, rfl, hb, ho, hc, ht⟩ := FlAt.at (hf.keep hkp) hg
    obtain ⟨g0, g1, gm, m⟩ := g
    rw [FlowD.cs] at ht
    simp only [Mass.cs] at hg1 hg2 hgB ht
    apply zz
    refine Cd.ra (h := ?_)
    apply Run.by_eq
    · intro self
      conv => lhs; simp -implicitDefEqProofs (maxSteps := 300000) (disch := omega) [-getElem?_pos, -getElem?_neg, h11, h10]
    try (with_reducible refine Run.ret ?_)
    apply zz
    apply Cd.ite rfl
    · conv => lhs; simp -implicitDefEqProofs (maxSteps := 300000) (disch := omega) [-getElem?_pos, -getElem?_neg]
    all_goals intro c0
    all_goals try (cases c0; done)
    all_goals try simp only [Bool.not_eq_true', Bool.not_eq_false', decide_eq_true_eq, decide_eq_false_iff_not] at c0
    all_goals apply zz
    · apply zz
      refine Cd.ra (h := ?_)
      apply Run.by_eq
      · intro self
        conv => lhs; simp -implicitDefEqProofs (maxSteps := 300000) (disch := omega) [-getElem?_pos, -getElem?_neg, h11, h9, ho, hc, ht, hlt]
      try (with_reducible refine Run.ret ?_)
      apply zz
      refine Cd.ra (h := ?_)
      apply Run.by_eq
      · intro self
        conv => lhs; simp -implicitDefEqProofs (maxSteps := 300000) (disch := omega) [-getElem?_pos, -getElem?_neg]
      try (with_reducible refine Run.ret ?_)
      apply zz
      cases gm with
      | false =>
        apply zz
        apply Cd.ite rfl
        · conv => lhs; simp -implicitDefEqProofs (maxSteps := 300000) (disch := omega) [-getElem?_pos, -getElem?_neg]
        all_goals intro c1
        all_goals try (cases c1; done)
        all_goals try simp only [Bool.not_eq_true', Bool.not_eq_false', decide_eq_true_eq, decide_eq_false_iff_not] at c1
        all_goals apply zz
        apply zz
        refine Cd.ra (h := ?_)
        apply Run.by_eq
        · intro self
          conv => lhs; simp -implicitDefEqProofs (maxSteps := 300000) (disch := omega) [-getElem?_pos, -getElem?_neg, h11]
        try (with_reducible refine Run.ret ?_)
        apply zz
        refine LoopK.nm (fs.length - (k + 1)) (by omega) ⟨k + 1, by omega, rfl, by simp [hm], by simp, by simp [h10], by simp [h9], by simp [h1], by simp [h4], by simp [h5], ?_, by simp; omega, ?_, ?_⟩
        · exact ⟨by (try simp only [pushed_next', upded_next']); omega, fun i hi => by simp -implicitDefEqProofs (disch := omega) [hkpb]⟩
        · simp -implicitDefEqProofs (disch := omega) [hg1, Mass.cs]
        · rw [hnext]
          simp -implicitDefEqProofs (disch := omega) [hg2, Mass.cs, excStep]
      | true =>
        apply zz
        apply Cd.ite rfl
        · conv => lhs; simp -implicitDefEqProofs (maxSteps := 300000) (disch := omega) [-getElem?_pos, -getElem?_neg]
        all_goals intro c1
        all_goals try (cases c1; done)
        all_goals try simp only [Bool.not_eq_true', Bool.not_eq_false', decide_eq_true_eq, decide_eq_false_iff_not] at c1
        all_goals apply zz
        apply zz
        refine Cd.ra (h := ?_)
        apply Run.by_eq
        · intro self
          conv => lhs; simp -implicitDefEqProofs (maxSteps := 300000) (disch := omega) [-getElem?_pos, -getElem?_neg, h1]
        try (with_reducible refine Run.ret ?_)
        apply zz
        refine Run.call ((contains_ev g1 w xs _ (hx.keep ⟨by (try simp only [pushed_next', upded_next']); omega, fun i hi => by simp -implicitDefEqProofs (disch := omega) [hkpb]⟩) hlx).mono fun v wq hv => ?_)
        obtain ⟨rfl, q⟩ := hv
        have qa := q.1
        have qb := q.2
        try simp only [pushed_next', upded_next'] at qa qb
        apply Run.by_eq
        · intro self
          conv => lhs; simp -implicitDefEqProofs (maxSteps := 300000) (disch := omega) [-getElem?_pos, -getElem?_neg]
        try (with_reducible refine Run.ret ?_)
        apply zz
        by_cases m1 : g1 ∈ xs
        · apply zz
          apply Cd.ite rfl
          · conv => lhs; simp -implicitDefEqProofs (maxSteps := 300000) (disch := omega) [-getElem?_pos, -getElem?_neg, m1]
          all_goals intro c2
          all_goals try (cases c2; done)
          all_goals try simp only [Bool.not_eq_true', Bool.not_eq_false', decide_eq_true_eq, decide_eq_false_iff_not] at c2
          all_goals apply zz
          have hadd := (hb0.add (hgB rfl)).mono (show (k : Int) * 1000000000000 + 1000000000000 ≤ 4611686018427387904 by omega)
          apply zz
          refine Cd.ra (h := ?_)
          apply Run.by_eq
          · intro self
            conv => lhs; simp -implicitDefEqProofs (maxSteps := 300000) (disch := omega) [-getElem?_pos, -getElem?_neg, qb, h5, hg2]
          try (with_reducible refine Run.ret ?_)
          apply zz
          refine Run.call ((plus_ev acc m _ hadd).mono fun v wp hv => ?_)
          obtain ⟨rfl, p⟩ := hv
          have pa := p.1
          have pb := p.2
          try simp only [pushed_next', upded_next'] at pa pb
          apply Run.by_eq
          · intro self
            conv => lhs; simp -implicitDefEqProofs (maxSteps := 300000) (disch := omega) [-getElem?_pos, -getElem?_neg, qb, h5, hg2, pb, Mass.v]
          try (with_reducible refine Run.ret ?_)
          apply zz
          refine Cd.ra (h := ?_)
          apply Run.by_eq
          · intro self
            conv => lhs; simp -implicitDefEqProofs (maxSteps := 300000) (disch := omega) [-getElem?_pos, -getElem?_neg, h1, qb, pb]
          try (with_reducible refine Run.ret ?_)
          apply zz
          refine Run.call ((contains_ev g0 w xs _ (hx.keep ⟨by (try simp only [pushed_next', upded_next']); omega, fun i hi => by simp -implicitDefEqProofs (disch := omega) [hkpb, pb, qb]⟩) hlx).mono fun v wr hv => ?_)
          obtain ⟨rfl, r⟩ := hv
          have ra := r.1
          have rb := r.2
          try simp only [pushed_next', upded_next'] at ra rb
          apply Run.by_eq
          · intro self
            conv => lhs; simp -implicitDefEqProofs (maxSteps := 300000) (disch := omega) [-getElem?_pos, -getElem?_neg]
          try (with_reducible refine Run.ret ?_)
          apply zz
          by_cases m0 : g0 ∈ xs
          · apply zz
            apply Cd.ite rfl
            · conv => lhs; simp -implicitDefEqProofs (maxSteps := 300000) (disch := omega) [-getElem?_pos, -getElem?_neg, m0]
            all_goals intro c3
            all_goals try (cases c3; done)
            all_goals try simp only [Bool.not_eq_true', Bool.not_eq_false', decide_eq_true_eq, decide_eq_false_iff_not] at c3
            all_goals apply zz
            apply zz
            refine Cd.ra (h := ?_)
            apply Run.by_eq
            · intro self
              conv => lhs; simp -implicitDefEqProofs (maxSteps := 300000) (disch := omega) [-getElem?_pos, -getElem?_neg, qb, pb, rb, h5, hg2]
            try (with_reducible refine Run.ret ?_)
            apply zz
            refine Run.call ((minus_ev (acc.add m) m _ (by rw [Mass.add_sub]; exact hb0.mono (by omega))).mono fun v wt hv => ?_)
            obtain ⟨rfl, t⟩ := hv
            have ta := t.1
            have tb := t.2
            try simp only [pushed_next', upded_next'] at ta tb
            apply Run.by_eq
            · intro self
              conv => lhs; simp -implicitDefEqProofs (maxSteps := 300000) (disch := omega) [-getElem?_pos, -getElem?_neg, qb, pb, rb, tb, h5, hg2, Mass.v]
            try (with_reducible refine Run.ret ?_)
            apply zz
            refine Cd.ra (h := ?_)
            apply Run.by_eq
            · intro self
              conv => lhs; simp -implicitDefEqProofs (maxSteps := 300000) (disch := omega) [-getElem?_pos, -getElem?_neg, h11]
            try (with_reducible refine Run.ret ?_)
            apply zz
            refine LoopK.nm (fs.length - (k + 1)) (by omega) ⟨k + 1, by omega, rfl, by simp [hm], by simp, by simp [h10], by simp [h9], by simp [h1], by simp [h4], by simp [h5], ⟨by (try simp only [pushed_next', upded_next']); omega, fun i hi => by simp -implicitDefEqProofs (disch := omega) [hkpb, pb, qb, rb, tb]⟩, by (try simp only [pushed_next', upded_next']); omega, ?_, ?_⟩
            · simp -implicitDefEqProofs (disch := omega) [hg1, Mass.cs, qb, pb, rb, tb]
            · rw [hnext]
              simp -implicitDefEqProofs (disch := omega) [hg2, Mass.cs, excStep, m0, m1]
          · apply zz
            apply Cd.ite rfl
            · conv => lhs; simp -implicitDefEqProofs (maxSteps := 300000) (disch := omega) [-getElem?_pos, -getElem?_neg, m0]
            all_goals intro c3
            all_goals try (cases c3; done)
            all_goals try simp only [Bool.not_eq_true', Bool.not_eq_false', decide_eq_true_eq, decide_eq_false_iff_not] at c3
            all_goals apply zz
            apply zz
            refine Cd.ra (h := ?_)
            apply Run.by_eq
            · intro self
              conv => lhs; simp -implicitDefEqProofs (maxSteps := 300000) (disch := omega) [-getElem?_pos, -getElem?_neg, h11]
            try (with_reducible refine Run.ret ?_)
            apply zz
            refine LoopK.nm (fs.length - (k + 1)) (by omega) ⟨k + 1, by omega, rfl, by simp [hm], by simp, by simp [h10], by simp [h9], by simp [h1], by simp [h4], by simp [h5], ⟨by (try simp only [pushed_next', upded_next']); omega, fun i hi => by simp -implicitDefEqProofs (disch := omega) [hkpb, pb, qb, rb]⟩, by (try simp only [pushed_next', upded_next']); omega, ?_, ?_⟩
            · simp -implicitDefEqProofs (disch := omega) [hg1, Mass.cs, qb, pb, rb]
            · rw [hnext]
              simp -implicitDefEqProofs (disch := omega) [hg2, Mass.cs, excStep, m0, m1, qb, pb, rb]
        · apply zz
          apply Cd.ite rfl
          · conv => lhs; simp -implicitDefEqProofs (maxSteps := 300000) (disch := omega) [-getElem?_pos, -getElem?_neg, m1]
          all_goals intro c2
          all_goals try (cases c2; done)
          all_goals try simp only [Bool.not_eq_true', Bool.not_eq_false', decide_eq_true_eq, decide_eq_false_iff_not] at c2
          all_goals apply zz
          apply zz
          refine Cd.ra (h := ?_)
          apply Run.by_eq
          · intro self
            conv => lhs; simp -implicitDefEqProofs (maxSteps := 300000) (disch := omega) [-getElem?_pos, -getElem?_neg, h1, qb]
          try (with_reducible refine Run.ret ?_)
          apply zz
          refine Run.call ((contains_ev g0 w xs _ (hx.keep ⟨by (try simp only [pushed_next', upded_next']); omega, fun i hi => by simp -implicitDefEqProofs (disch := omega) [hkpb, qb]⟩) hlx).mono fun v wr hv => ?_)
          obtain ⟨rfl, r⟩ := hv
          have ra := r.1
          have rb := r.2
          try simp only [pushed_next', upded_next'] at ra rb
          apply Run.by_eq
          · intro self
            conv => lhs; simp -implicitDefEqProofs (maxSteps := 300000) (disch := omega) [-getElem?_pos, -getElem?_neg]
          try (with_reducible refine Run.ret ?_)
          apply zz
          by_cases m0 : g0 ∈ xs
          · apply zz
            apply Cd.ite rfl
            · conv => lhs; simp -implicitDefEqProofs (maxSteps := 300000) (disch := omega) [-getElem?_pos, -getElem?_neg, m0]
            all_goals intro c3
            all_goals try (cases c3; done)
            all_goals try simp only [Bool.not_eq_true', Bool.not_eq_false', decide_eq_true_eq, decide_eq_false_iff_not] at c3
            all_goals apply zz
            have hsub := (hb0.sub (hgB rfl)).mono (show (k : Int) * 1000000000000 + 1000000000000 ≤ 4611686018427387904 by omega)
            apply zz
            refine Cd.ra (h := ?_)
            apply Run.by_eq
            · intro self
              conv => lhs; simp -implicitDefEqProofs (maxSteps := 300000) (disch := omega) [-getElem?_pos, -getElem?_neg, qb, rb, h5, hg2]
            try (with_reducible refine Run.ret ?_)
            apply zz
            refine Run.call ((minus_ev acc m _ hsub).mono fun v wt hv => ?_)
            obtain ⟨rfl, t⟩ := hv
            have ta := t.1
            have tb := t.2
            try simp only [pushed_next', upded_next'] at ta tb
            apply Run.by_eq
            · intro self
              conv => lhs; simp -implicitDefEqProofs (maxSteps := 300000) (disch := omega) [-getElem?_pos, -getElem?_neg, qb, rb, tb, h5, hg2, Mass.v]
            try (with_reducible refine Run.ret ?_)
            apply zz
            refine Cd.ra (h := ?_)
            apply Run.by_eq
            · intro self
              conv => lhs; simp -implicitDefEqProofs (maxSteps := 300000) (disch := omega) [-getElem?_pos, -getElem?_neg, h11]
            try (with_reducible refine Run.ret ?_)
            apply zz
            refine LoopK.nm (fs.length - (k + 1)) (by omega) ⟨k + 1, by omega, rfl, by simp [hm], by simp, by simp [h10], by simp [h9], by simp [h1], by simp [h4], by simp [h5], ⟨by (try simp only [pushed_next', upded_next']); omega, fun i hi => by simp -implicitDefEqProofs (disch := omega) [hkpb, qb, rb, tb]⟩, by (try simp only [pushed_next', upded_next']); omega, ?_, ?_⟩
            · simp -implicitDefEqProofs (disch := omega) [hg1, Mass.cs, qb, rb, tb]
            · rw [hnext]
              simp -implicitDefEqProofs (disch := omega) [hg2, Mass.cs, excStep, m0, m1]
          · apply zz
            apply Cd.ite rfl
            · conv => lhs; simp -implicitDefEqProofs (maxSteps := 300000) (disch := omega) [-getElem?_pos, -getElem?_neg, m0]
            all_goals intro c3
            all_goals try (cases c3; done)
            all_goals try simp only [Bool.not_eq_true', Bool.not_eq_false', decide_eq_true_eq, decide_eq_false_iff_not] at c3
            all_goals apply zz
            apply zz
            refine Cd.ra (h := ?_)
            apply Run.by_eq
            · intro self
              conv => lhs; simp -implicitDefEqProofs (maxSteps := 300000) (disch := omega) [-getElem?_pos, -getElem?_neg, h11]
            try (with_reducible refine Run.ret ?_)
            apply zz
            refine LoopK.nm (fs.length - (k + 1)) (by omega) ⟨k + 1, by omega, rfl, by simp [hm], by simp, by simp [h10], by simp [h9], by simp [h1], by simp [h4], by simp [h5], ⟨by (try simp only [pushed_next', upded_next']); omega, fun i hi => by simp -implicitDefEqProofs (disch := omega) [hkpb, qb, rb]⟩, by (try simp only [pushed_next', upded_next']); omega, ?_, ?_⟩
            · simp -implicitDefEqProofs (disch := omega) [hg1, Mass.cs, qb, rb]
            · rw [hnext]
              simp -implicitDefEqProofs (disch := omega) [hg2, Mass.cs, excStep, m0, m1, qb, rb]
    · simp at c0; omega
  · obtain rfl : k = fs.length := by omega
    rw [List.take_length] at hg2
    simp only [Mass.cs] at hg1 hg2
    apply zz
    refine Cd.ra (h := ?_)
    apply Run.by_eq
    · intro self
      conv => lhs; simp -implicitDefEqProofs (maxSteps := 300000) (disch := omega) [-getElem?_pos, -getElem?_neg, h11, h10]
    try (with_reducible refine Run.ret ?_)
    apply zz
    apply Cd.ite rfl
    · conv => lhs; simp -implicitDefEqProofs (maxSteps := 300000) (disch := omega) [-getElem?_pos, -getElem?_neg]
    all_goals intro c0
    all_goals try (cases c0; done)
    all_goals try simp only [Bool.not_eq_true', Bool.not_eq_false', decide_eq_true_eq, decide_eq_false_iff_not] at c0
    all_goals apply zz
    apply zz
    refine Cd.ra (h := ?_)
    apply Run.by_eq
    · intro self
      conv => lhs; simp -implicitDefEqProofs (maxSteps := 300000) (disch := omega) [-getElem?_pos, -getElem?_neg, h4, h5, hg1, hg2]
    try (with_reducible refine Run.ret ?_)
    apply zz
    apply Leave.mk (by first | exact .inl rfl | exact .inr rfl) (by simp only [Fr.marks_put, fr0_marks, hm, h4])
    · conv => lhs; simp -implicitDefEqProofs (disch := omega) [Try.results41, hm, h4]
    refine ⟨rfl, ?_⟩
    exact ⟨by (try simp only [pushed_next', upded_next']); omega, fun i hi => by simp -implicitDefEqProofs (disch := omega) [hkpb]⟩
end Go.Proofs.Ytjehpgflhgpalaa
namespace Go.Proofs.Ytjehpgflhgpalaa
open Go Kern
/-- The first number that is not nought, of n from i on. -/
def firstNZ (g : Nat → Int) : Nat → Nat → Int
  | 0, _ => 0
  | n + 1, i => if g i = 0 then firstNZ g n (i + 1) else g i
theorem firstNZ_zero {g : Nat → Int} : ∀ {n i : Nat}, (∀ j, i ≤ j → j < i + n → g j = 0) → firstNZ g n i = 0
  | 0, _, _ => rfl
  | n + 1, i, h => by
    simp only [firstNZ, h i (Nat.le_refl _) (by omega), if_true]
    exact firstNZ_zero fun j h1 h2 => h j (by omega) (by omega)
theorem firstNZ_at {g : Nat → Int} : ∀ {n i k : Nat}, (∀ j, i ≤ j → j < k → g j = 0) → i ≤ k → k < i + n → g k ≠ 0 → firstNZ g n i = g k
  | 0, _, _, _, h1, h2, _ => by omega
  | n + 1, i, k, h, h1, h2, hne => by
    by_cases e : i = k
    · subst e; simp [firstNZ, hne]
    · simp only [firstNZ, h i (Nat.le_refl _) (by omega), if_true]
      exact firstNZ_at (fun j a b => h j (by omega) b) (by omega) (by omega) hne
def unitAt (u : Int) (xs : List Int) (k : Nat) : Int :=
  if !unitB u (xs.getD k 0) then 17 else if 0 < k ∧ xs.getD k 0 ≤ xs.getD (k - 1) 0 then 7 else 0
def unitsErr (u : Int) (fs : List FlowD) (xs : List Int) : Int :=
  if checkErr u fs ≠ 0 then checkErr u fs else if xs.length = 0 then 4 else firstNZ (unitAt u xs) xs.length 0
def excV (u : Int) (fs : List FlowD) (xs : List Int) : Mass := if unitsErr u fs xs = 0 then excM xs fs else Mass.zero
theorem getD_of {xs : List Int} {k : Nat} {x : Int} (h : xs[k]? = some x) : xs.getD k 0 = x := by simp [List.getD, h]
theorem eachB_le {m : Mass} {B : Int} (h : eachB m 0 B = true) : m.le B := by
  simp only [eachB, isB, Bool.and_eq_true, decide_eq_true_eq] at h
  unfold Mass.le; omega
theorem flowErr_ok {u : Int} {f : FlowD} (h : flowErr u f = 0) : endB u f.fr = true ∧ endB u f.to = true ∧ f.fr ≠ f.to ∧ (f.me = true → eachB f.m 0 1000000000 = true) := by
  unfold flowErr at h
  split at h
  · cases h
  · rename_i h1
    split at h
    · cases h
    · rename_i h2
      split at h
      · cases h
      · rename_i h3
        simp at h1 h3
        exact ⟨h1.1, h1.2, h2, h3⟩
theorem firstErr_all {u : Int} : ∀ {fs : List FlowD}, firstErr u fs = 0 → ∀ f ∈ fs, flowErr u f = 0
  | [], _, f, h => by cases h
  | g :: r, h, f, hf => by
    unfold firstErr at h
    split at h
    · rename_i h0
      cases hf with
      | head => exact h0
      | tail _ hf => exact firstErr_all h f hf
    · rename_i h0; exact absurd h h0
theorem checkErr_ok {u : Int} {fs : List FlowD} (h : checkErr u fs = 0) : 1 ≤ u ∧ u ≤ 8 ∧ fs.length ≤ 20 ∧ ∀ f ∈ fs, flowErr u f = 0 := by
  unfold checkErr at h
  split at h
  · cases h
  · split at h
    · cases h
    · exact ⟨by omega, by omega, by omega, firstErr_all h⟩
theorem checkErr_le {u : Int} {fs : List FlowD} (h : checkErr u fs = 0) : ∀ f ∈ fs, f.me = true → f.m.le 1000000000000 := fun f hf hm =>
  (eachB_le ((flowErr_ok ((checkErr_ok h).2.2.2 f hf)).2.2.2 hm)).mono (by omega)
set_option maxRecDepth 100000 in
set_option maxHeartbeats 2000000 in
theorem excessP_ev (u : Int) (v w : Value) (fs : List FlowD) (xs : List Int) (s : St) (hf : FlAt s v fs) (hx : IntsAt s w xs) (hl : fs.length ≤ 1000000) (hlx : xs.length ≤ 1000000) :
    Ev TT 17 [plantV u v, w] s fun r s' => r = .tuple #[(excV u fs xs).v, .int .i64 (unitsErr u fs xs)] ∧ Keep s s' := by
  obtain ⟨a', c', hw⟩ := hx.shape
  rw [List.length_map] at hw
  unfold plantV
  refine Ev.intro (fn := Try.f17) rfl (by kernel_rfl) rfl rfl ?_
  apply zz
  refine Cd.ra (h := ?_)
  apply Run.by_eq
  · intro self
    conv => lhs; simp -implicitDefEqProofs (maxSteps := 300000) (disch := omega) [-getElem?_pos, -getElem?_neg]
  try (with_reducible refine Run.ret ?_)
  apply zz
  refine Cd.ra (h := ?_)
  apply Run.by_eq
  · intro self
    conv => lhs; simp -implicitDefEqProofs (maxSteps := 300000) (disch := omega) [-getElem?_pos, -getElem?_neg]
  try (with_reducible refine Run.ret ?_)
  apply zz
  refine Run.call ((check_ev u v fs _ (hf.keep ⟨by (try simp only [pushed_next', upded_next']); omega, fun i hi => by simp -implicitDefEqProofs (disch := omega) []⟩) hl).mono fun v wq hv => ?_)
  obtain ⟨rfl, q⟩ := hv
  have qa := q.1
  have qb := q.2
  try simp only [pushed_next', upded_next'] at qa qb
  apply Run.by_eq
  · intro self
    conv => lhs; simp -implicitDefEqProofs (maxSteps := 300000) (disch := omega) [-getElem?_pos, -getElem?_neg]
  try (with_reducible refine Run.ret ?_)
  apply zz
  refine Cd.ra (h := ?_)
  apply Run.by_eq
  · intro self
    conv => lhs; simp -implicitDefEqProofs (maxSteps := 300000) (disch := omega) [-getElem?_pos, -getElem?_neg]
  try (with_reducible refine Run.ret ?_)
  apply zz
  apply Cd.ite rfl
  · conv => lhs; simp -implicitDefEqProofs (maxSteps := 300000) (disch := omega) [-getElem?_pos, -getElem?_neg]
  all_goals intro c0
  all_goals try (cases c0; done)
  all_goals try simp only [Bool.not_eq_true', Bool.not_eq_false', decide_eq_true_eq, decide_eq_false_iff_not] at c0
  all_goals apply zz
  · apply zz
    refine Cd.ra (h := ?_)
    apply Run.by_eq
    · intro self
      conv => lhs; simp -implicitDefEqProofs (maxSteps := 300000) (disch := omega) [-getElem?_pos, -getElem?_neg, qb]
    try (with_reducible refine Run.ret ?_)
    apply zz
    apply Leave.mk (by first | exact .inl rfl | exact .inr rfl) (by simp only [Fr.marks_put, fr0_marks, qb])
    · conv => lhs; simp -implicitDefEqProofs (disch := omega) [Try.results17, qb]
    refine ⟨?_, ⟨by (try simp only [pushed_next', upded_next']); omega, fun i hi => by simp -implicitDefEqProofs (disch := omega) [qb]⟩⟩
    have : unitsErr u fs xs = checkErr u fs := by unfold unitsErr; rw [if_pos c0]
    unfold excV; rw [this, if_neg c0]; rfl
  have hck : checkErr u fs = 0 := c0
  obtain ⟨hu1, hu2, hl20, _⟩ := checkErr_ok hck
  subst hw
  apply zz
  refine Cd.ra (h := ?_)
  apply Run.by_eq
  · intro self
    conv => lhs; simp -implicitDefEqProofs (maxSteps := 300000) (disch := omega) [-getElem?_pos, -getElem?_neg]
  try (with_reducible refine Run.ret ?_)
  apply zz
  apply Cd.ite rfl
  · conv => lhs; simp -implicitDefEqProofs (maxSteps := 300000) (disch := omega) [-getElem?_pos, -getElem?_neg]
  all_goals intro c1
  all_goals try (cases c1; done)
  all_goals try simp only [Bool.not_eq_true', Bool.not_eq_false', decide_eq_true_eq, decide_eq_false_iff_not] at c1
  all_goals apply zz
  · have c1' : xs.length = 0 := by simpa using c1
    apply zz
    refine Cd.ra (h := ?_)
    apply Run.by_eq
    · intro self
      conv => lhs; simp -implicitDefEqProofs (maxSteps := 300000) (disch := omega) [-getElem?_pos, -getElem?_neg, qb]
    try (with_reducible refine Run.ret ?_)
    apply zz
    apply Leave.mk (by first | exact .inl rfl | exact .inr rfl) (by simp only [Fr.marks_put, fr0_marks, qb])
    · conv => lhs; simp -implicitDefEqProofs (disch := omega) [Try.results17, qb]
    refine ⟨?_, ⟨by (try simp only [pushed_next', upded_next']); omega, fun i hi => by simp -implicitDefEqProofs (disch := omega) [qb]⟩⟩
    have : unitsErr u fs xs = 4 := by unfold unitsErr; rw [if_neg (by omega), if_pos c1']
    unfold excV; rw [this]; rfl
  have c1' : ¬ xs.length = 0 := by simpa using c1
  apply zz
  refine Cd.ra (h := ?_)
  apply Run.by_eq
  · intro self
    conv => lhs; simp -implicitDefEqProofs (maxSteps := 300000) (disch := omega) [-getElem?_pos, -getElem?_neg]
  try (with_reducible refine Run.ret ?_)
  apply zz
  refine Cd.inv (fun z f s' => ∃ k : Nat, k ≤ xs.length ∧ z = xs.length - k ∧ f.marks = [] ∧ f.get 21 = .int .i64 k ∧ f.get 20 = .int .i64 xs.length ∧ f.get 19 = .slice a' xs.length c' ∧ f.get 1 = .slice a' xs.length c' ∧ f.get 2 = .pointer (some ⟨s.next, 0, none⟩) ∧ f.get 4 = .pointer (some ⟨s.next + 1, 0, none⟩) ∧ Keep s s' ∧ s.next + 1 < s'.next ∧ s'.heap.get s.next = some (.cells [.int .i64 u, v] none) ∧ s'.heap.get (s.next + 1) = some (.cells Mass.zero.cs none) ∧ (∀ j, 0 ≤ j → j < k → unitAt u xs j = 0)) xs.length ?_ ?_
  · refine ⟨0, by omega, rfl, by simp, by simp, by simp, by simp, by simp, by simp, by simp, ⟨by (try simp only [pushed_next', upded_next']); omega, fun i hi => by simp -implicitDefEqProofs (disch := omega) [qb]⟩, by omega, ?_, ?_, fun j _ hj => absurd hj (by omega)⟩
    · simp -implicitDefEqProofs (disch := omega) [qb]
    · simp -implicitDefEqProofs (disch := omega) [qb, Mass.cs, Mass.zero]
  rintro z f s' ⟨k, hk, rfl, hm, h21, h20, h19, h1, h2, h4, hkp, hnx, hg0, hg1, hz⟩
  have hkpa := hkp.1
  have hkpb := hkp.2
  simp only [Mass.cs] at hg1
  by_cases hlt : k < xs.length
  · obtain ⟨x, hxk⟩ : ∃ x, xs[k]? = some x := ⟨xs[k], by simp [hlt]⟩
    obtain ⟨b, off, o, cs, gg, rfl, hb, ho, hc, ht⟩ := IntsAt.at (hx.keep hkp) hxk
    apply zz
    refine Cd.ra (h := ?_)
    apply Run.by_eq
    · intro self
      conv => lhs; simp -implicitDefEqProofs (maxSteps := 300000) (disch := omega) [-getElem?_pos, -getElem?_neg, h21, h20]
    try (with_reducible refine Run.ret ?_)
    apply zz
    apply Cd.ite rfl
    · conv => lhs; simp -implicitDefEqProofs (maxSteps := 300000) (disch := omega) [-getElem?_pos, -getElem?_neg]
    all_goals intro c2
    all_goals try (cases c2; done)
    all_goals try simp only [Bool.not_eq_true', Bool.not_eq_false', decide_eq_true_eq, decide_eq_false_iff_not] at c2
    all_goals apply zz
    · apply zz
      refine Cd.ra (h := ?_)
      apply Run.by_eq
      · intro self
        conv => lhs; simp -implicitDefEqProofs (maxSteps := 300000) (disch := omega) [-getElem?_pos, -getElem?_neg, h21, h19, ho, hc, ht, hlt]
      try (with_reducible refine Run.ret ?_)
      apply zz
      refine Cd.ra (h := ?_)
      apply Run.by_eq
      · intro self
        conv => lhs; simp -implicitDefEqProofs (maxSteps := 300000) (disch := omega) [-getElem?_pos, -getElem?_neg, h2, hg0]
      try (with_reducible refine Run.ret ?_)
      apply zz
      refine Run.call ((isUnit_ev u x v _).mono fun v wr hv => ?_)
      obtain ⟨rfl, r⟩ := hv
      have ra := r.1
      have rb := r.2
      try simp only [pushed_next', upded_next'] at ra rb
      apply Run.by_eq
      · intro self
        conv => lhs; simp -implicitDefEqProofs (maxSteps := 300000) (disch := omega) [-getElem?_pos, -getElem?_neg]
      try (with_reducible refine Run.ret ?_)
      apply zz
      have hx0 := getD_of hxk
      have hfin : unitAt u xs k ≠ 0 → unitsErr u fs xs = unitAt u xs k := fun hne => by
        unfold unitsErr; rw [if_neg (by omega), if_neg c1', firstNZ_at hz (by omega) (by omega) hne]
      cases hU : unitB u x with
      | false =>
        have he : unitAt u xs k = 17 := by unfold unitAt; rw [hx0, hU]; rfl
        apply zz
        apply Cd.ite rfl
        · conv => lhs; simp -implicitDefEqProofs (maxSteps := 300000) (disch := omega) [-getElem?_pos, -getElem?_neg, hU]
        all_goals intro c3
        all_goals try (cases c3; done)
        all_goals try simp only [Bool.not_eq_true', Bool.not_eq_false', decide_eq_true_eq, decide_eq_false_iff_not] at c3
        all_goals apply zz
        apply zz
        refine Cd.ra (h := ?_)
        apply Run.by_eq
        · intro self
          conv => lhs; simp -implicitDefEqProofs (maxSteps := 300000) (disch := omega) [-getElem?_pos, -getElem?_neg, h4, hg1, rb]
        try (with_reducible refine Run.ret ?_)
        apply zz
        apply Leave.mk (by first | exact .inl rfl | exact .inr rfl) (by simp only [Fr.marks_put, fr0_marks, hm, h4, hg1, rb])
        · conv => lhs; simp -implicitDefEqProofs (disch := omega) [Try.results17, hm, h4, hg1, rb]
        refine ⟨?_, ⟨by (try simp only [pushed_next', upded_next']); omega, fun i hi => by simp -implicitDefEqProofs (disch := omega) [hkpb, rb]⟩⟩
        rw [hfin (by rw [he]; decide), he]
        unfold excV; rw [hfin (by rw [he]; decide), he]; rfl
      | true =>
        apply zz
        apply Cd.ite rfl
        · conv => lhs; simp -implicitDefEqProofs (maxSteps := 300000) (disch := omega) [-getElem?_pos, -getElem?_neg, hU]
        all_goals intro c3
        all_goals try (cases c3; done)
        all_goals try simp only [Bool.not_eq_true', Bool.not_eq_false', decide_eq_true_eq, decide_eq_false_iff_not] at c3
        all_goals apply zz
        by_cases k0 : k = 0
        · subst k0
          have he : unitAt u xs 0 = 0 := by unfold unitAt; rw [hx0, hU]; simp
          apply zz
          refine Cd.ra (h := ?_)
          apply Run.by_eq
          · intro self
            conv => lhs; simp -implicitDefEqProofs (maxSteps := 300000) (disch := omega) [-getElem?_pos, -getElem?_neg]
          try (with_reducible refine Run.ret ?_)
          apply zz
          apply Cd.ite rfl
          · conv => lhs; simp -implicitDefEqProofs (maxSteps := 300000) (disch := omega) [-getElem?_pos, -getElem?_neg]
          all_goals intro c4
          all_goals try (cases c4; done)
          all_goals try simp only [Bool.not_eq_true', Bool.not_eq_false', decide_eq_true_eq, decide_eq_false_iff_not] at c4
          all_goals apply zz
          apply zz
          refine Cd.ra (h := ?_)
          apply Run.by_eq
          · intro self
            conv => lhs; simp -implicitDefEqProofs (maxSteps := 300000) (disch := omega) [-getElem?_pos, -getElem?_neg, h21]
          try (with_reducible refine Run.ret ?_)
          apply zz
          refine LoopK.nm (xs.length - (0 + 1)) (by omega) ⟨0 + 1, by omega, rfl, by simp [hm], by simp, by simp [h20], by simp [h19], by simp [h1], by simp [h2], by simp [h4], ⟨by (try simp only [pushed_next', upded_next']); omega, fun i hi => by simp -implicitDefEqProofs (disch := omega) [hkpb, rb]⟩, by (try simp only [pushed_next', upded_next']); omega, ?_, ?_, fun j h1 h2 => ?_⟩
          · simp -implicitDefEqProofs (disch := omega) [hg0, rb]
          · simp -implicitDefEqProofs (disch := omega) [hg1, rb, Mass.cs]
          · obtain rfl : j = 0 := by omega
            exact he
        · obtain ⟨y, hyk⟩ : ∃ y, xs[k - 1]? = some y := ⟨xs[k - 1], by simp <;> omega⟩
          obtain ⟨b', off', o', cs', gg', e1, hb', ho', hc', ht'⟩ := IntsAt.at (hx.keep hkp) hyk
          cases e1
          rw [ho] at ho'; cases ho'
          rw [hc] at hc'; cases hc'
          have hy0 := getD_of hyk
          have hkc : (k : Int) - 1 = ((k - 1 : Nat) : Int) := by omega
          have hk0 : 0 < k := by omega
          apply zz
          refine Cd.ra (h := ?_)
          apply Run.by_eq
          · intro self
            conv => lhs; simp -implicitDefEqProofs (maxSteps := 300000) (disch := omega) [-getElem?_pos, -getElem?_neg, h1, ho, hc, ht', hkc, hk0, rb]
          try (with_reducible refine Run.ret ?_)
          apply zz
          apply Cd.ite rfl
          · conv => lhs; simp -implicitDefEqProofs (maxSteps := 300000) (disch := omega) [-getElem?_pos, -getElem?_neg]
          all_goals intro c4
          all_goals try (cases c4; done)
          all_goals try simp only [Bool.not_eq_true', Bool.not_eq_false', decide_eq_true_eq, decide_eq_false_iff_not] at c4
          all_goals apply zz
          · have he : unitAt u xs k = 7 := by unfold unitAt; rw [hx0, hU, hy0]; simp [c4]; omega
            apply zz
            refine Cd.ra (h := ?_)
            apply Run.by_eq
            · intro self
              conv => lhs; simp -implicitDefEqProofs (maxSteps := 300000) (disch := omega) [-getElem?_pos, -getElem?_neg, h4, hg1, rb]
            try (with_reducible refine Run.ret ?_)
            apply zz
            apply Leave.mk (by first | exact .inl rfl | exact .inr rfl) (by simp only [Fr.marks_put, fr0_marks, hm, h4, hg1, rb])
            · conv => lhs; simp -implicitDefEqProofs (disch := omega) [Try.results17, hm, h4, hg1, rb]
            refine ⟨?_, ⟨by (try simp only [pushed_next', upded_next']); omega, fun i hi => by simp -implicitDefEqProofs (disch := omega) [hkpb, rb]⟩⟩
            rw [hfin (by rw [he]; decide), he]
            unfold excV; rw [hfin (by rw [he]; decide), he]; rfl
          · have he : unitAt u xs k = 0 := by unfold unitAt; rw [hx0, hU, hy0]; simp; omega
            apply zz
            refine Cd.ra (h := ?_)
            apply Run.by_eq
            · intro self
              conv => lhs; simp -implicitDefEqProofs (maxSteps := 300000) (disch := omega) [-getElem?_pos, -getElem?_neg, h21]
            try (with_reducible refine Run.ret ?_)
            apply zz
            refine LoopK.nm (xs.length - (k + 1)) (by omega) ⟨k + 1, by omega, rfl, by simp [hm], by simp, by simp [h20], by simp [h19], by simp [h1], by simp [h2], by simp [h4], ⟨by (try simp only [pushed_next', upded_next']); omega, fun i hi => by simp -implicitDefEqProofs (disch := omega) [hkpb, rb]⟩, by (try simp only [pushed_next', upded_next']); omega, ?_, ?_, fun j h1 h2 => ?_⟩
            · simp -implicitDefEqProofs (disch := omega) [hg0, rb]
            · simp -implicitDefEqProofs (disch := omega) [hg1, rb, Mass.cs]
            · by_cases e : j = k
              · subst e; exact he
              · exact hz j h1 (by omega)
    · simp at c2; omega
  · obtain rfl : k = xs.length := by omega
    have hok : unitsErr u fs xs = 0 := by
      unfold unitsErr; rw [if_neg (by omega), if_neg c1']; exact firstNZ_zero fun j a b => hz j a (by omega)
    apply zz
    refine Cd.ra (h := ?_)
    apply Run.by_eq
    · intro self
      conv => lhs; simp -implicitDefEqProofs (maxSteps := 300000) (disch := omega) [-getElem?_pos, -getElem?_neg, h21, h20]
    try (with_reducible refine Run.ret ?_)
    apply zz
    apply Cd.ite rfl
    · conv => lhs; simp -implicitDefEqProofs (maxSteps := 300000) (disch := omega) [-getElem?_pos, -getElem?_neg]
    all_goals intro c2
    all_goals try (cases c2; done)
    all_goals try simp only [Bool.not_eq_true', Bool.not_eq_false', decide_eq_true_eq, decide_eq_false_iff_not] at c2
    all_goals apply zz
    apply zz
    refine Cd.ra (h := ?_)
    apply Run.by_eq
    · intro self
      conv => lhs; simp -implicitDefEqProofs (maxSteps := 300000) (disch := omega) [-getElem?_pos, -getElem?_neg, h2, hg0, h1]
    try (with_reducible refine Run.ret ?_)
    apply zz
    refine Run.call ((excess_ev u v (.slice a' xs.length c') fs xs _ (hf.keep hkp) (hx.keep hkp) (by omega) hlx (checkErr_le hck)).mono fun v wr hv => ?_)
    obtain ⟨rfl, r⟩ := hv
    have ra := r.1
    have rb := r.2
    try simp only [pushed_next', upded_next'] at ra rb
    apply Run.by_eq
    · intro self
      conv => lhs; simp -implicitDefEqProofs (maxSteps := 300000) (disch := omega) [-getElem?_pos, -getElem?_neg, h4, rb, hg1, Mass.v]
    try (with_reducible refine Run.ret ?_)
    apply zz
    apply Leave.mk (by first | exact .inl rfl | exact .inr rfl) (by simp only [Fr.marks_put, fr0_marks, hm, h4])
    · conv => lhs; simp -implicitDefEqProofs (disch := omega) [Try.results17, hm, h4]
    refine ⟨?_, ⟨by (try simp only [pushed_next', upded_next']); omega, fun i hi => by simp -implicitDefEqProofs (disch := omega) [hkpb, rb]⟩⟩
    unfold excV; rw [hok]; rfl
end Go.Proofs.Ytjehpgflhgpalaa
namespace Go.Proofs.Ytjehpgflhgpalaa
open Go Kern
def Mass.tim (t : Int) (p : Mass) : Mass := ⟨t * p.a, t * p.b, t * p.c, t * p.d⟩
theorem isB_end {u n : Int} (h : 1 ≤ u) : isB n (-1) (u - 1) = endB u n := by
  unfold isB endB unitB
  by_cases h1 : n = -1
  · subst h1; simp; omega
  · rw [decide_eq_false h1, Bool.false_or]
    congr 1 <;> simp only [decide_eq_decide] <;> omega
theorem isB_unit {u n : Int} : isB n 0 (u - 1) = unitB u n := by
  unfold isB unitB
  congr 1; simp only [decide_eq_decide]; omega
end Go.Proofs.Ytjehpgflhgpalaa
namespace Go.Proofs.Ytjehpgflhgpalaa
open Go Kern
abbrev BoolsAt (s : St) (v : Value) (bs : List Bool) : Prop := SlAt 1 s v (bs.map fun b => [.bool b])
theorem BoolsAt.at {s : St} {a : Option Addr} {m c : Nat} {bs : List Bool} (h : BoolsAt s (.slice a m c) bs) {k : Nat} {x : Bool} (hk : bs[k]? = some x) :
    ∃ b off o cs g, a = some ⟨b, off, none⟩ ∧ b < s.next ∧ s.heap.get b = some o ∧ cellsOf o = some (cs, g) ∧ cs[off + k]? = some (.bool x) := by
  obtain ⟨b, off, o, cs, g, h1, h2, h3, h4, h5⟩ := SlAt.at h (k := k) (e := [.bool x]) (by rw [List.getElem?_map, hk]; rfl)
  refine ⟨b, off, o, cs, g, h1, h2, h3, h4, ?_⟩
  have := takeL_one h5
  rw [List.getElem?_drop, Nat.mul_one] at this
  exact this
theorem Mass.tim_one (m : Mass) : m.tim 1 = m := by unfold Mass.tim; cases m; simp
theorem Mass.add_tim (m p : Mass) : m.add (p.tim (-1)) = m.sub p := by unfold Mass.tim Mass.add Mass.sub; cases m; simp; omega
theorem Mass.tim_le {m : Mass} {B : Int} (h : m.le B) : (m.tim (-1)).le B := by unfold Mass.le Mass.tim at *; simp only []; omega
end Go.Proofs.Ytjehpgflhgpalaa
namespace Go.Proofs.Ytjehpgflhgpalaa
open Go Kern
def inL (n : Nat) (ys : List Int) : List Bool := (List.range n).map fun i : Nat => decide ((i : Int) - 1 ∈ ys)
theorem inL_length (n : Nat) (ys : List Int) : (inL n ys).length = n := by simp [inL]
theorem inL_nil (n : Nat) : (inL n []).map Value.bool = List.replicate n (Value.bool false) := by
  apply List.ext_getElem?
  intro i
  by_cases h : i < n <;> simp [inL, h]
theorem inL_set {n : Nat} {ys : List Int} {x : Int} (h0 : 0 ≤ x) (h1 : (x + 1).toNat < n) : ((inL n ys).map Value.bool).set (x + 1).toNat (.bool true) = (inL n (ys ++ [x])).map Value.bool := by
  apply List.ext_getElem?
  intro i
  by_cases hi : i < n
  · rw [List.getElem?_set]
    by_cases e : (x + 1).toNat = i
    · rw [if_pos e]
      have : (i : Int) - 1 = x := by omega
      simp [inL, hi, h1, this]
    · rw [if_neg e]
      have : ¬ (i : Int) - 1 = x := by omega
      simp [inL, hi, this]
  · rw [List.getElem?_eq_none (by simp [inL]; omega), List.getElem?_eq_none (by simp [inL]; omega)]
theorem inL_get {n : Nat} {ys : List Int} {x : Int} (h0 : -1 ≤ x) (h1 : x + 1 < n) : (inL n ys)[(x + 1).toNat]? = some (decide (x ∈ ys)) := by
  have hlt : (x + 1).toNat < n := by omega
  have he : ((x + 1).toNat : Int) - 1 = x := by omega
  simp only [inL, List.getElem?_map, List.getElem?_range hlt, Option.map_some, he]
end Go.Proofs.Ytjehpgflhgpalaa
namespace Go.Proofs.Ytjehpgflhgpalaa
open Go Kern
theorem excV_zero {u : Int} {fs : List FlowD} {xs : List Int} (h : unitsErr u fs xs ≠ 0) : excV u fs xs = Mass.zero := by unfold excV; rw [if_neg h]
theorem unitsErr_ok {u : Int} {fs : List FlowD} {xs : List Int} (h : unitsErr u fs xs = 0) : checkErr u fs = 0 := by
  unfold unitsErr at h
  split at h
  · exact h
  · rename_i h1; simpa using h1
theorem ends_in {u : Int} {fs : List FlowD} (h : checkErr u fs = 0) : ∀ f ∈ fs, (-1 ≤ f.fr ∧ f.fr < u) ∧ (-1 ≤ f.to ∧ f.to < u) := fun f hf => by
  obtain ⟨h1, _, _, h2⟩ := checkErr_ok h
  obtain ⟨a, b, _, _⟩ := flowErr_ok (h2 f hf)
  simp only [endB, unitB, Bool.or_eq_true, Bool.and_eq_true, decide_eq_true_eq] at a b
  omega
def okC (c i : Nat) : Bool := decide (97 ≤ c ∧ c ≤ 122) || (decide (48 ≤ c ∧ c ≤ 57) && !decide (i = 0))
def nameL (l : List UInt8) : Bool := decide (1 ≤ l.length) && (decide (l.length ≤ 10) && (List.range l.length).all fun i => okC (l.getD i 0).toNat i)
theorem nameL_bad {l : List UInt8} {k : Nat} {c : UInt8} (h : l[k]? = some c) (hb : okC c.toNat k = false) : nameL l = false := by
  have hk := (List.getElem?_eq_some_iff.1 h).1
  have hd : l.getD k 0 = c := by simp [List.getD, h]
  have : (List.range l.length).all (fun i => okC (l.getD i 0).toNat i) = false := by
    rw [List.all_eq_false]
    exact ⟨k, by simpa using hk, by rw [hd, hb]; simp⟩
  simp only [nameL, this, Bool.and_false]
theorem nameL_good {l : List UInt8} (h1 : 1 ≤ l.length) (h2 : l.length ≤ 10) (h : ∀ (j : Nat) (c : UInt8), l[j]? = some c → okC c.toNat j = true) : nameL l = true := by
  have : (List.range l.length).all (fun i => okC (l.getD i 0).toNat i) = true := by
    rw [List.all_eq_true]
    intro i hi
    have hil : i < l.length := by simpa using hi
    have he : l[i]? = some l[i] := by simp
    have hd : l.getD i 0 = l[i] := by simp [List.getD, he]
    rw [hd]; exact h i _ he
  simp only [nameL, this, decide_eq_true h1, decide_eq_true h2, Bool.and_self]

end Go.Proofs.Ytjehpgflhgpalaa
namespace Go.Proofs.Ytjehpgflhgpalaa
open Go Kern
/-- What a map of links says: who stands above whom leads to one of which there is none above. -/
def Forest (es : List (Int × Int)) (rt : Int → Int) : Prop :=
  (∀ x, lookI es x = none → rt x = x) ∧ (∀ x y, lookI es x = some y → rt x = rt y) ∧ (∀ x, lookI es (rt x) = none) ∧ ∃ d : Int → Nat, ∀ x y, lookI es x = some y → d y < d x
def uni (rt : Int → Int) (a b : Int) : Int → Int := if rt a = rt b then rt else fun x => if rt x = rt a then rt b else rt x
theorem Forest.empty : Forest [] id := ⟨fun _ _ => rfl, fun x y h => by simp [lookI] at h, fun _ => rfl, fun _ => 0, fun x y h => by simp [lookI] at h⟩
theorem lookI_append (es : List (Int × Int)) (a b x : Int) : lookI (es ++ [(a, b)]) x = match lookI es x with | some y => some y | none => if a = x then some b else none := by
  unfold lookI
  rw [List.find?_append]
  cases h : es.find? (fun p => p.1 == x) with
  | some p => simp
  | none =>
    by_cases e : a = x
    · simp [e]
    · simp [e]
theorem Forest.join {es : List (Int × Int)} {rt : Int → Int} (h : Forest es rt) {a b : Int} (hne : rt a ≠ rt b) : Forest (es ++ [(rt a, rt b)]) (uni rt a b) := by
  obtain ⟨h1, h2, h3, d, h4⟩ := h
  have hrr : ∀ x, rt (rt x) = rt x := fun x => h1 _ (h3 x)
  unfold uni
  rw [if_neg hne]
  refine ⟨fun x hx => ?_, fun x y hx => ?_, fun x => ?_, fun x => if rt x = rt a then d x + d (rt b) + 1 else d x, fun x y hx => ?_⟩
  · rw [lookI_append] at hx
    cases hl : lookI es x with
    | some y => rw [hl] at hx; cases hx
    | none =>
      rw [hl] at hx
      by_cases e : rt a = x
      · simp [e] at hx
      · simp only []
        rw [h1 x hl, if_neg (fun q => e q.symm)]
  · rw [lookI_append] at hx
    cases hl : lookI es x with
    | some z =>
      rw [hl] at hx; cases hx
      simp only [h2 x y hl]
    | none =>
      rw [hl] at hx
      by_cases e : rt a = x
      · simp [e] at hx
        subst e
        subst hx
        simp [hrr, hne.symm]
      · simp [e] at hx
  · rw [lookI_append]
    by_cases e : rt x = rt a
    · simp [e, h3 b, hne]
    · have e' : ¬ rt a = rt x := fun q => e q.symm
      simp [e, h3 x, e']
  · rw [lookI_append] at hx
    cases hl : lookI es x with
    | some z =>
      rw [hl] at hx; cases hx
      have := h4 x y hl
      simp only [h2 x y hl]
      split <;> omega
    | none =>
      rw [hl] at hx
      by_cases e : rt a = x
      · simp [e] at hx
        subst e
        subst hx
        simp [hrr, hne.symm]
        omega
      · simp [e] at hx
theorem mapL2_append : ∀ (es : List (Int × Int)) (a b : Int) (c : Nat), mapL2 (es ++ [(a, b)]) c = mapL2 es c ++ [(.int .i64 a, .int .i64 b, c + es.length)]
  | [], a, b, c => rfl
  | (x, y) :: r, a, b, c => by
    show (_ :: mapL2 (r ++ [(a, b)]) (c + 1)) = _
    rw [mapL2_append r a b (c + 1)]
    simp [mapL2, Nat.add_assoc, Nat.add_comm 1]
def HeadsAt (s : St) (r : Nat) (es : List (Int × Int)) : Prop := r < s.next ∧ s.heap.get r = some (.map (mapL2 es 0) es.length)
theorem HeadsAt.keep {s s' : St} {r : Nat} {es : List (Int × Int)} (hk : Keep s s') (h : HeadsAt s r es) : HeadsAt s' r es := ⟨Nat.lt_of_lt_of_le h.1 hk.1, (hk.2 _ h.1).trans h.2⟩
set_option maxRecDepth 100000 in
set_option maxHeartbeats 1000000 in
theorem head_ev (r : Nat) (es : List (Int × Int)) (rt : Int → Int) (x : Int) (s : St) (hm : HeadsAt s r es) (hF : Forest es rt) :
    Ev TT 67 [.agg #[.map (some r)], .int .i64 x] s fun v s' => v = .int .i64 (rt x) ∧ Keep s s' := by
  obtain ⟨hr, hg⟩ := hm
  obtain ⟨h1, h2, h3, d, h4⟩ := hF
  refine Ev.intro (fn := Try.f67) rfl (by kernel_rfl) rfl rfl ?_
  apply zz
  refine Cd.ra (h := ?_)
  apply Run.by_eq
  · intro self
    conv => lhs; simp -implicitDefEqProofs (maxSteps := 300000) (disch := omega) [-getElem?_pos, -getElem?_neg]
  try (with_reducible refine Run.ret ?_)
  apply zz
  refine Cd.inv (fun z f s' => ∃ y : Int, z = d y ∧ rt y = rt x ∧ f.marks = [] ∧ f.get 1 = .int .i64 y ∧ f.get 2 = .pointer (some ⟨s.next, 0, none⟩) ∧ s' = s.pushed (.cells [.map (some r)] none)) (d x) ?_ ?_
  · exact ⟨x, rfl, rfl, by simp, by simp, by simp, by simp⟩
  rintro z f s' ⟨y, rfl, hry, hmk, f1, f2, rfl⟩
  obtain ⟨q, hq, hq2, hq3⟩ := findK_ints y es 0 0
  cases hl : lookI es y with
  | none =>
    obtain rfl : q = none := hq3.2 hl
    apply zz
    refine Cd.ra (h := ?_)
    apply Run.by_eq
    · intro self
      conv => lhs; simp -implicitDefEqProofs (maxSteps := 300000) (disch := omega) [-getElem?_pos, -getElem?_neg, f1, f2, hg, hq]
    try (with_reducible refine Run.ret ?_)
    apply zz
    refine Cd.ra (h := ?_)
    apply Run.by_eq
    · intro self
      conv => lhs; simp -implicitDefEqProofs (maxSteps := 300000) (disch := omega) [-getElem?_pos, -getElem?_neg]
    try (with_reducible refine Run.ret ?_)
    apply zz
    apply Cd.ite rfl
    · conv => lhs; simp -implicitDefEqProofs (maxSteps := 300000) (disch := omega) [-getElem?_pos, -getElem?_neg]
    all_goals intro c0
    all_goals try (cases c0; done)
    all_goals try simp only [Bool.not_eq_true', Bool.not_eq_false', decide_eq_true_eq, decide_eq_false_iff_not] at c0
    all_goals apply zz
    apply zz
    refine Cd.ra (h := ?_)
    apply Run.by_eq
    · intro self
      conv => lhs; simp -implicitDefEqProofs (maxSteps := 300000) (disch := omega) [-getElem?_pos, -getElem?_neg, f1]
    try (with_reducible refine Run.ret ?_)
    apply zz
    apply Leave.mk (by first | exact .inl rfl | exact .inr rfl) (by simp only [Fr.marks_put, fr0_marks, hmk])
    · conv => lhs; simp -implicitDefEqProofs (disch := omega) [Try.results67, hmk]
    exact ⟨by rw [← hry, h1 y hl]; rfl, (Keep.refl _).pushed _⟩
  | some w =>
    rw [hl] at hq2
    obtain ⟨⟨i, v⟩, rfl⟩ : ∃ p, q = some p := by cases q with | none => simp at hq2 | some p => exact ⟨p, rfl⟩
    obtain rfl : v = .int .i64 w := by simpa using hq2
    apply zz
    refine Cd.ra (h := ?_)
    apply Run.by_eq
    · intro self
      conv => lhs; simp -implicitDefEqProofs (maxSteps := 300000) (disch := omega) [-getElem?_pos, -getElem?_neg, f1, f2, hg, hq]
    try (with_reducible refine Run.ret ?_)
    apply zz
    refine Cd.ra (h := ?_)
    apply Run.by_eq
    · intro self
      conv => lhs; simp -implicitDefEqProofs (maxSteps := 300000) (disch := omega) [-getElem?_pos, -getElem?_neg]
    try (with_reducible refine Run.ret ?_)
    apply zz
    apply Cd.ite rfl
    · conv => lhs; simp -implicitDefEqProofs (maxSteps := 300000) (disch := omega) [-getElem?_pos, -getElem?_neg]
    all_goals intro c0
    all_goals try (cases c0; done)
    all_goals try simp only [Bool.not_eq_true', Bool.not_eq_false', decide_eq_true_eq, decide_eq_false_iff_not] at c0
    all_goals apply zz
    apply zz
    refine Cd.ra (h := ?_)
    apply Run.by_eq
    · intro self
      conv => lhs; simp -implicitDefEqProofs (maxSteps := 300000) (disch := omega) [-getElem?_pos, -getElem?_neg]
    try (with_reducible refine Run.ret ?_)
    apply zz
    exact LoopK.nm (d w) (h4 y w hl) ⟨w, rfl, by rw [← h2 y w hl]; exact hry, by simp [hmk], by simp, by simp [f2], rfl⟩
set_option maxRecDepth 100000 in
set_option maxHeartbeats 1000000 in
theorem joined_ev (r : Nat) (es : List (Int × Int)) (rt : Int → Int) (x y : Int) (s : St) (hm : HeadsAt s r es) (hF : Forest es rt) :
    Ev TT 50 [.agg #[.map (some r)], .int .i64 x, .int .i64 y] s fun v s' => v = .bool (decide (rt x = rt y)) ∧ Keep s s' := by
  have hr := hm.1
  refine Ev.intro (fn := Try.f50) rfl (by kernel_rfl) rfl rfl ?_
  apply zz
  refine Cd.ra (h := ?_)
  apply Run.by_eq
  · intro self
    conv => lhs; simp -implicitDefEqProofs (maxSteps := 300000) (disch := omega) [-getElem?_pos, -getElem?_neg]
  try (with_reducible refine Run.ret ?_)
  apply zz
  refine Cd.drawnH (pl := [(0, 0, false, false), (1, 0, false, false), (3, 0, false, false), (4, 0, false, false), (2, 3, true, false), (5, 31, true, false), (6, 63, false, false), (7, 127, false, false)]) [false, false, true, true, false, false, false, false] (by kernel_rfl) (by decide) (by decide) (by conv => lhs; simp only [List.map_cons, List.map_nil]) (by conv => lhs; simp [strip, orderedG, flagH]) ?_
  apply Run.by_eq
  · intro self
    conv => lhs; simp -implicitDefEqProofs (maxSteps := 300000) (disch := omega) [-getElem?_pos, -getElem?_neg]
  try (with_reducible refine Run.ret ?_)
  apply zz
  refine Run.call ((head_ev r es rt x _ (hm.keep ⟨by (try simp only [pushed_next', upded_next']); omega, fun i hi => by simp -implicitDefEqProofs (disch := omega) []⟩) hF).mono fun v wq hv => ?_)
  obtain ⟨rfl, q⟩ := hv
  have qa := q.1
  have qb := q.2
  try simp only [pushed_next', upded_next'] at qa qb
  apply Run.by_eq
  · intro self
    conv => lhs; simp -implicitDefEqProofs (maxSteps := 300000) (disch := omega) [-getElem?_pos, -getElem?_neg, qb]
  try (with_reducible refine Run.ret ?_)
  apply zz
  refine Run.call ((head_ev r es rt y _ (hm.keep ⟨by (try simp only [pushed_next', upded_next']); omega, fun i hi => by simp -implicitDefEqProofs (disch := omega) [qb]⟩) hF).mono fun v wt hv => ?_)
  obtain ⟨rfl, t⟩ := hv
  have ta := t.1
  have tb := t.2
  try simp only [pushed_next', upded_next'] at ta tb
  apply Run.by_eq
  · intro self
    conv => lhs; simp -implicitDefEqProofs (maxSteps := 300000) (disch := omega) [-getElem?_pos, -getElem?_neg, qb, tb]
  try (with_reducible refine Run.ret ?_)
  apply zz
  apply Leave.mk (by first | exact .inl rfl | exact .inr rfl) (by simp only [Fr.marks_put, fr0_marks])
  · conv => lhs; simp -implicitDefEqProofs (disch := omega) [Try.results50]
  exact ⟨rfl, ⟨by (try simp only [pushed_next', upded_next']); omega, fun i hi => by simp -implicitDefEqProofs (disch := omega) [qb, tb]⟩⟩
set_option maxRecDepth 100000 in
set_option maxHeartbeats 1000000 in
theorem join_ev (r : Nat) (es : List (Int × Int)) (rt : Int → Int) (x y : Int) (s : St) (hm : HeadsAt s r es) (hF : Forest es rt) :
    Ev TT 66 [.agg #[.map (some r)], .int .i64 x, .int .i64 y] s fun v s' => v = .bool (!decide (rt x = rt y)) ∧ s.next ≤ s'.next ∧ (∀ i, i < s.next → i ≠ r → s'.heap.get i = s.heap.get i) ∧ ∃ es', HeadsAt s' r es' ∧ Forest es' (uni rt x y) := by
  have hr := hm.1
  have hg := hm.2
  refine Ev.intro (fn := Try.f66) rfl (by kernel_rfl) rfl rfl ?_
  apply zz
  refine Cd.ra (h := ?_)
  apply Run.by_eq
  · intro self
    conv => lhs; simp -implicitDefEqProofs (maxSteps := 300000) (disch := omega) [-getElem?_pos, -getElem?_neg]
  try (with_reducible refine Run.ret ?_)
  apply zz
  refine Cd.drawnH (pl := [(0, 0, false, false), (1, 0, false, false), (3, 0, false, false), (4, 0, false, false), (2, 3, true, false), (5, 31, true, false), (6, 63, false, false), (7, 127, false, false)]) [false, false, true, true, false, false, false, false] (by kernel_rfl) (by decide) (by decide) (by conv => lhs; simp only [List.map_cons, List.map_nil]) (by conv => lhs; simp [strip, orderedG, flagH]) ?_
  apply Run.by_eq
  · intro self
    conv => lhs; simp -implicitDefEqProofs (maxSteps := 300000) (disch := omega) [-getElem?_pos, -getElem?_neg]
  try (with_reducible refine Run.ret ?_)
  apply zz
  refine Run.call ((head_ev r es rt x _ (hm.keep ⟨by (try simp only [pushed_next', upded_next']); omega, fun i hi => by simp -implicitDefEqProofs (disch := omega) []⟩) hF).mono fun v wq hv => ?_)
  obtain ⟨rfl, q⟩ := hv
  have qa := q.1
  have qb := q.2
  try simp only [pushed_next', upded_next'] at qa qb
  apply Run.by_eq
  · intro self
    conv => lhs; simp -implicitDefEqProofs (maxSteps := 300000) (disch := omega) [-getElem?_pos, -getElem?_neg, qb]
  try (with_reducible refine Run.ret ?_)
  apply zz
  refine Run.call ((head_ev r es rt y _ (hm.keep ⟨by (try simp only [pushed_next', upded_next']); omega, fun i hi => by simp -implicitDefEqProofs (disch := omega) [qb]⟩) hF).mono fun v wt hv => ?_)
  obtain ⟨rfl, t⟩ := hv
  have ta := t.1
  have tb := t.2
  try simp only [pushed_next', upded_next'] at ta tb
  apply Run.by_eq
  · intro self
    conv => lhs; simp -implicitDefEqProofs (maxSteps := 300000) (disch := omega) [-getElem?_pos, -getElem?_neg, qb, tb]
  try (with_reducible refine Run.ret ?_)
  apply zz
  refine Cd.ra (h := ?_)
  apply Run.by_eq
  · intro self
    conv => lhs; simp -implicitDefEqProofs (maxSteps := 300000) (disch := omega) [-getElem?_pos, -getElem?_neg]
  try (with_reducible refine Run.ret ?_)
  apply zz
  apply Cd.ite rfl
  · conv => lhs; simp -implicitDefEqProofs (maxSteps := 300000) (disch := omega) [-getElem?_pos, -getElem?_neg]
  all_goals intro c0
  all_goals try (cases c0; done)
  all_goals try simp only [Bool.not_eq_true', Bool.not_eq_false', decide_eq_true_eq, decide_eq_false_iff_not] at c0
  all_goals apply zz
  · apply zz
    refine Cd.ra (h := ?_)
    apply Run.by_eq
    · intro self
      conv => lhs; simp -implicitDefEqProofs (maxSteps := 300000) (disch := omega) [-getElem?_pos, -getElem?_neg]
    try (with_reducible refine Run.ret ?_)
    apply zz
    apply Leave.mk (by first | exact .inl rfl | exact .inr rfl) (by simp only [Fr.marks_put, fr0_marks])
    · conv => lhs; simp -implicitDefEqProofs (disch := omega) [Try.results66]
    refine ⟨by simp [tupled, c0], by omega, fun i hi _ => ?_, es, ⟨by omega, ?_⟩, ?_⟩
    · simp -implicitDefEqProofs (disch := omega) [qb, tb]
    · simp -implicitDefEqProofs (disch := omega) [qb, tb, hg]
    · unfold uni; rw [if_pos c0]; exact hF
  · obtain ⟨f, hf, hf2, hf3⟩ := findK_ints (rt x) es 0 0
    obtain rfl : f = none := hf3.2 (hF.2.2.1 x)
    apply zz
    refine Cd.ra (h := ?_)
    apply Run.by_eq
    · intro self
      conv => lhs; simp -implicitDefEqProofs (maxSteps := 300000) (disch := omega) [-getElem?_pos, -getElem?_neg, qb, tb, hg, hf]
    try (with_reducible refine Run.ret ?_)
    apply zz
    refine Cd.ra (h := ?_)
    apply Run.by_eq
    · intro self
      conv => lhs; simp -implicitDefEqProofs (maxSteps := 300000) (disch := omega) [-getElem?_pos, -getElem?_neg]
    try (with_reducible refine Run.ret ?_)
    apply zz
    apply Leave.mk (by first | exact .inl rfl | exact .inr rfl) (by simp only [Fr.marks_put, fr0_marks])
    · conv => lhs; simp -implicitDefEqProofs (disch := omega) [Try.results66]
    refine ⟨by simp [tupled, c0], by (try simp only [upded_next']); omega, fun i hi hir => ?_, es ++ [(rt x, rt y)], ⟨by (try simp only [upded_next']); omega, ?_⟩, hF.join c0⟩
    · simp -implicitDefEqProofs (disch := omega) [qb, tb]
    · simp -implicitDefEqProofs (disch := omega) [mapL2_append]
/-- The root after all flows that are not measured, but one, from number i on. -/
def rtF (lo : Int) : List FlowD → Nat → (Int → Int) → (Int → Int)
  | [], _, rt => rt
  | f :: r, i, rt => rtF lo r (i + 1) (if f.me = false ∧ (i : Int) ≠ lo then uni rt f.fr f.to else rt)
def rtStep (lo : Int) (rt : Int → Int) (i : Nat) (f : FlowD) : Int → Int := if f.me = false ∧ (i : Int) ≠ lo then uni rt f.fr f.to else rt
theorem rtF_take (lo : Int) : ∀ (fs : List FlowD) (i : Nat) (rt : Int → Int) (k : Nat) (f : FlowD), fs[k]? = some f → rtF lo (fs.take (k + 1)) i rt = rtStep lo (rtF lo (fs.take k) i rt) (i + k) f
  | [], _, _, _, _, h => by simp at h
  | g :: r, i, rt, 0, f, h => by simp at h; subst h; simp [rtF, rtStep]
  | g :: r, i, rt, k + 1, f, h => by
    show rtF lo (r.take (k + 1)) (i + 1) _ = rtStep lo (rtF lo (r.take k) (i + 1) _) (i + (k + 1)) f
    rw [rtF_take lo r (i + 1) _ k f (by simpa using h)]
    rw [show i + 1 + k = i + (k + 1) by omega]
set_option maxRecDepth 100000 in
set_option maxHeartbeats 2000000 in
theorem joins_ev (u lo : Int) (v : Value) (fs : List FlowD) (s : St) (hf : FlAt s v fs) (hl : fs.length ≤ 1000000) :
    Ev TT 49 [plantV u v, .int .i64 lo] s fun r s' => Keep s s' ∧ ∃ b es, r = .agg #[.map (some b)] ∧ s.next ≤ b ∧ HeadsAt s' b es ∧ Forest es (rtF lo fs 0 id) := by
  obtain ⟨a, c, rfl⟩ := hf.shape
  rw [List.length_map] at hf ⊢
  unfold plantV
  refine Ev.intro (fn := Try.f49) rfl (by kernel_rfl) rfl rfl ?_
  apply zz
  refine Cd.ra (h := ?_)
  apply Run.by_eq
  · intro self
    conv => lhs; simp -implicitDefEqProofs (maxSteps := 300000) (disch := omega) [-getElem?_pos, -getElem?_neg]
  try (with_reducible refine Run.ret ?_)
  apply zz
  refine Cd.ra (h := ?_)
  apply Run.by_eq
  · intro self
    conv => lhs; simp -implicitDefEqProofs (maxSteps := 300000) (disch := omega) [-getElem?_pos, -getElem?_neg]
  try (with_reducible refine Run.ret ?_)
  apply zz
  refine Cd.ra (h := ?_)
  apply Run.by_eq
  · intro self
    conv => lhs; simp -implicitDefEqProofs (maxSteps := 300000) (disch := omega) [-getElem?_pos, -getElem?_neg]
  try (with_reducible refine Run.ret ?_)
  apply zz
  refine Cd.inv (fun z f s' => ∃ k : Nat, k ≤ fs.length ∧ z = fs.length - k ∧ f.marks = [] ∧ f.get 13 = .int .i64 k ∧ f.get 12 = .int .i64 fs.length ∧ f.get 11 = .slice a fs.length c ∧ f.get 1 = .int .i64 lo ∧ f.get 4 = .pointer (some ⟨s.next + 1, 0, none⟩) ∧ f.get 5 = .pointer (some ⟨s.next + 1 + 1 + 1, 0, none⟩) ∧ Keep s s' ∧ s.next + 1 + 1 + 1 < s'.next ∧ s'.heap.get (s.next + 1) = some (.cells [.map none] none) ∧ s'.heap.get (s.next + 1 + 1 + 1) = some (.cells [.map (some (s.next + 1 + 1))] none) ∧ ∃ es, s'.heap.get (s.next + 1 + 1) = some (.map (mapL2 es 0) es.length) ∧ Forest es (rtF lo (fs.take k) 0 id)) fs.length ?_ ?_
  · refine ⟨0, by omega, rfl, by simp, by simp, by simp, by simp, by simp, by simp, by simp, ⟨by (try simp only [pushed_next', upded_next']); omega, fun i hi => by simp -implicitDefEqProofs (disch := omega) []⟩, by simp, by simp -implicitDefEqProofs (disch := omega), by simp -implicitDefEqProofs (disch := omega), [], by simp -implicitDefEqProofs (disch := omega) [mapL2], Forest.empty⟩
  rintro z f s' ⟨k, hk, rfl, hm, h13, h12, h11, h1, h4, h5, hkp, hnx, hg1, hg3, es, hg2, hF⟩
  have hkpa := hkp.1
  have hkpb := hkp.2
  by_cases hlt : k < fs.length
  · obtain ⟨g, hg⟩ : ∃ g, fs[k]? = some g := ⟨fs[k], by simp [hlt]⟩
    have hstep := rtF_take lo fs 0 id k g hg
    rw [Nat.zero_add] at hstep
    obtain ⟨b, off, o, cs, gg, rfl, hb, ho, hc, ht⟩ := FlAt.at (hf.keep hkp) hg
    obtain ⟨g0, g1, gm, m⟩ := g
    rw [FlowD.cs] at ht
    simp only [] at ht
    apply zz
    refine Cd.ra (h := ?_)
    apply Run.by_eq
    · intro self
      conv => lhs; simp -implicitDefEqProofs (maxSteps := 300000) (disch := omega) [-getElem?_pos, -getElem?_neg, h13, h12]
    try (with_reducible refine Run.ret ?_)
    apply zz
    apply Cd.ite rfl
    · conv => lhs; simp -implicitDefEqProofs (maxSteps := 300000) (disch := omega) [-getElem?_pos, -getElem?_neg]
    all_goals intro c0
    all_goals try (cases c0; done)
    all_goals try simp only [Bool.not_eq_true', Bool.not_eq_false', decide_eq_true_eq, decide_eq_false_iff_not] at c0
    all_goals apply zz
    · apply zz
      refine Cd.ra (h := ?_)
      apply Run.by_eq
      · intro self
        conv => lhs; simp -implicitDefEqProofs (maxSteps := 300000) (disch := omega) [-getElem?_pos, -getElem?_neg, h13, h11, ho, hc, ht, hlt]
      try (with_reducible refine Run.ret ?_)
      apply zz
      by_cases hcase : gm = false ∧ (k : Int) ≠ lo
      · obtain ⟨rfl, hne⟩ := hcase
        apply zz
        refine Cd.ra (h := ?_)
        apply Run.by_eq
        · intro self
          conv => lhs; simp -implicitDefEqProofs (maxSteps := 300000) (disch := omega) [-getElem?_pos, -getElem?_neg, h1, hne]
        try (with_reducible refine Run.ret ?_)
        apply zz
        apply Cd.ite rfl
        · conv => lhs; simp -implicitDefEqProofs (maxSteps := 300000) (disch := omega) [-getElem?_pos, -getElem?_neg]
        all_goals intro c1
        all_goals try (cases c1; done)
        all_goals try simp only [Bool.not_eq_true', Bool.not_eq_false', decide_eq_true_eq, decide_eq_false_iff_not] at c1
        all_goals apply zz
        apply zz
        refine Cd.ra (h := ?_)
        apply Run.by_eq
        · intro self
          conv => lhs; simp -implicitDefEqProofs (maxSteps := 300000) (disch := omega) [-getElem?_pos, -getElem?_neg, h5, hg3]
        try (with_reducible refine Run.ret ?_)
        apply zz
        have hHA : HeadsAt ((s'.pushed (.cells [.int .i64 0, .int .i64 0, .bool false, .int .i64 0, .int .i64 0, .int .i64 0, .int .i64 0] none)).upded s'.next (.cells [.int .i64 g0, .int .i64 g1, .bool false, .int .i64 m.a, .int .i64 m.b, .int .i64 m.c, .int .i64 m.d] none)) (s.next + 1 + 1) es := ⟨by (try simp only [pushed_next', upded_next']); omega, by simp -implicitDefEqProofs (disch := omega) [hg2]⟩
        refine Run.call ((join_ev (s.next + 1 + 1) es _ g0 g1 _ hHA hF).mono fun v w1 hv => ?_)
        obtain ⟨rfl, qa, qb, es', hH', hF'⟩ := hv
        simp only [pushed_next', upded_next'] at qa qb
        apply Run.by_eq
        · intro self
          conv => lhs; simp -implicitDefEqProofs (maxSteps := 300000) (disch := omega) [-getElem?_pos, -getElem?_neg]
        try (with_reducible refine Run.ret ?_)
        apply zz
        refine Cd.ra (h := ?_)
        apply Run.by_eq
        · intro self
          conv => lhs; simp -implicitDefEqProofs (maxSteps := 300000) (disch := omega) [-getElem?_pos, -getElem?_neg, h13]
        try (with_reducible refine Run.ret ?_)
        apply zz
        refine LoopK.nm (fs.length - (k + 1)) (by omega) ⟨k + 1, by omega, rfl, by simp [hm], by simp, by simp [h12], by simp [h11], by simp [h1], by simp [h4], by simp [h5], ⟨by omega, fun i hi => by rw [qb i (by omega) (by omega)]; simp -implicitDefEqProofs (disch := omega) [hkpb]⟩, by omega, ?_, ?_, es', hH'.2, ?_⟩
        · rw [qb _ (by omega) (by omega)]; simp -implicitDefEqProofs (disch := omega) [hg1]
        · rw [qb _ (by omega) (by omega)]; simp -implicitDefEqProofs (disch := omega) [hg3]
        · rw [hstep]; unfold rtStep; rw [if_pos ⟨rfl, hne⟩]; exact hF'
      · have hstay : rtF lo (fs.take (k + 1)) 0 id = rtF lo (fs.take k) 0 id := by rw [hstep]; unfold rtStep; rw [if_neg hcase]
        have hfin : LoopK (fun z f s' => ∃ k : Nat, k ≤ fs.length ∧ z = fs.length - k ∧ f.marks = [] ∧ f.get 13 = .int .i64 k ∧ f.get 12 = .int .i64 fs.length ∧ True) 0 (fun _ _ _ => True) .ret f s' := trivial
        clear hfin
        cases gm with
        | true =>
          apply zz
          refine Cd.ra (h := ?_)
          apply Run.by_eq
          · intro self
            conv => lhs; simp -implicitDefEqProofs (maxSteps := 300000) (disch := omega) [-getElem?_pos, -getElem?_neg, h1]
          try (with_reducible refine Run.ret ?_)
          apply zz
          apply Cd.ite rfl
          · conv => lhs; simp -implicitDefEqProofs (maxSteps := 300000) (disch := omega) [-getElem?_pos, -getElem?_neg]
          all_goals intro c1
          all_goals try (cases c1; done)
          all_goals try simp only [Bool.not_eq_true', Bool.not_eq_false', decide_eq_true_eq, decide_eq_false_iff_not] at c1
          all_goals apply zz
          apply zz
          refine Cd.ra (h := ?_)
          apply Run.by_eq
          · intro self
            conv => lhs; simp -implicitDefEqProofs (maxSteps := 300000) (disch := omega) [-getElem?_pos, -getElem?_neg, h13]
          try (with_reducible refine Run.ret ?_)
          apply zz
          refine LoopK.nm (fs.length - (k + 1)) (by omega) ⟨k + 1, by omega, rfl, by simp [hm], by simp, by simp [h12], by simp [h11], by simp [h1], by simp [h4], by simp [h5], ⟨by (try simp only [pushed_next', upded_next']); omega, fun i hi => by simp -implicitDefEqProofs (disch := omega) [hkpb]⟩, by (try simp only [pushed_next', upded_next']); omega, ?_, ?_, es, ?_, ?_⟩
          · simp -implicitDefEqProofs (disch := omega) [hg1]
          · simp -implicitDefEqProofs (disch := omega) [hg3]
          · simp -implicitDefEqProofs (disch := omega) [hg2]
          · rw [hstay]; exact hF
        | false =>
          have heq : (k : Int) = lo := Classical.byContradiction fun h => hcase ⟨rfl, h⟩
          apply zz
          refine Cd.ra (h := ?_)
          apply Run.by_eq
          · intro self
            conv => lhs; simp -implicitDefEqProofs (maxSteps := 300000) (disch := omega) [-getElem?_pos, -getElem?_neg, h1, heq]
          try (with_reducible refine Run.ret ?_)
          apply zz
          apply Cd.ite rfl
          · conv => lhs; simp -implicitDefEqProofs (maxSteps := 300000) (disch := omega) [-getElem?_pos, -getElem?_neg]
          all_goals intro c1
          all_goals try (cases c1; done)
          all_goals try simp only [Bool.not_eq_true', Bool.not_eq_false', decide_eq_true_eq, decide_eq_false_iff_not] at c1
          all_goals apply zz
          apply zz
          refine Cd.ra (h := ?_)
          apply Run.by_eq
          · intro self
            conv => lhs; simp -implicitDefEqProofs (maxSteps := 300000) (disch := omega) [-getElem?_pos, -getElem?_neg, h13]
          try (with_reducible refine Run.ret ?_)
          apply zz
          refine LoopK.nm (fs.length - (k + 1)) (by omega) ⟨k + 1, by omega, rfl, by simp [hm], by simp, by simp [h12], by simp [h11], by simp [h1], by simp [h4], by simp [h5], ⟨by (try simp only [pushed_next', upded_next']); omega, fun i hi => by simp -implicitDefEqProofs (disch := omega) [hkpb]⟩, by (try simp only [pushed_next', upded_next']); omega, ?_, ?_, es, ?_, ?_⟩
          · simp -implicitDefEqProofs (disch := omega) [hg1]
          · simp -implicitDefEqProofs (disch := omega) [hg3]
          · simp -implicitDefEqProofs (disch := omega) [hg2]
          · rw [hstay]; exact hF
    · simp at c0; omega
  · obtain rfl : k = fs.length := by omega
    rw [List.take_length] at hF
    apply zz
    refine Cd.ra (h := ?_)
    apply Run.by_eq
    · intro self
      conv => lhs; simp -implicitDefEqProofs (maxSteps := 300000) (disch := omega) [-getElem?_pos, -getElem?_neg, h13, h12]
    try (with_reducible refine Run.ret ?_)
    apply zz
    apply Cd.ite rfl
    · conv => lhs; simp -implicitDefEqProofs (maxSteps := 300000) (disch := omega) [-getElem?_pos, -getElem?_neg]
    all_goals intro c0
    all_goals try (cases c0; done)
    all_goals try simp only [Bool.not_eq_true', Bool.not_eq_false', decide_eq_true_eq, decide_eq_false_iff_not] at c0
    all_goals apply zz
    apply zz
    refine Cd.ra (h := ?_)
    apply Run.by_eq
    · intro self
      conv => lhs; simp -implicitDefEqProofs (maxSteps := 300000) (disch := omega) [-getElem?_pos, -getElem?_neg, h5, hg3, h4, hg1]
    try (with_reducible refine Run.ret ?_)
    apply zz
    apply Leave.mk (by first | exact .inl rfl | exact .inr rfl) (by simp only [Fr.marks_put, fr0_marks, hm, h4])
    · conv => lhs; simp -implicitDefEqProofs (disch := omega) [Try.results49, hm, h4]
    exact ⟨⟨by (try simp only [pushed_next', upded_next']); omega, fun i hi => by simp -implicitDefEqProofs (disch := omega) [hkpb]⟩, s.next + 1 + 1, es, rfl, by omega, ⟨by (try simp only [upded_next']); omega, by simp -implicitDefEqProofs (disch := omega) [hg2]⟩, hF⟩
end Go.Proofs.Ytjehpgflhgpalaa
namespace Go.Proofs.Ytjehpgflhgpalaa
open Go Kern
/-- Those of the first j that have the root of k. -/
def clsN (rt : Int → Int) (k j : Nat) : List Int := ((List.range j).filter fun x : Nat => decide (rt x = rt k)).map fun x : Nat => (x : Int)
def isLead (rt : Int → Int) (n k : Nat) : Bool := decide ((clsN rt k n).head? = some (k : Int)) && !decide (rt k = rt (-1))
def leads (rt : Int → Int) (n k : Nat) : List Nat := (List.range k).filter (isLead rt n)
theorem clsN_succ (rt : Int → Int) (k j : Nat) : clsN rt k (j + 1) = if rt j = rt k then clsN rt k j ++ [(j : Int)] else clsN rt k j := by
  unfold clsN
  rw [List.range_succ, List.filter_append, List.map_append]
  by_cases h : rt j = rt k <;> simp [h]
theorem leads_succ (rt : Int → Int) (n k : Nat) : leads rt n (k + 1) = if isLead rt n k = true then leads rt n k ++ [k] else leads rt n k := by
  unfold leads
  rw [List.range_succ, List.filter_append]
  by_cases h : isLead rt n k = true <;> simp [h]
theorem cls_self (rt : Int → Int) {n k : Nat} (h : k < n) : clsN rt k n ≠ [] := by
  intro e
  have : (k : Int) ∈ clsN rt k n := by
    unfold clsN
    exact List.mem_map.2 ⟨k, by simp [h], rfl⟩
  rw [e] at this; cases this
theorem clsN_length (rt : Int → Int) (k j : Nat) : (clsN rt k j).length ≤ j := by
  unfold clsN
  rw [List.length_map]
  exact Nat.le_trans (List.length_filter_le _ _) (by simp)
/-- The units that are gathered, in a block of their own. -/
def OwnU (N : Nat) (s : St) (w : Value) (cs : List Int) : Prop :=
  (cs = [] ∧ w = .slice none 0 0) ∨ ∃ b, w = .slice (some ⟨b, 0, none⟩) cs.length cs.length ∧ cs ≠ [] ∧ N ≤ b ∧ b < s.next ∧ s.heap.get b = some (.cells (cs.map (Value.int .i64)) (some 1))
theorem OwnU.ints {N : Nat} {s : St} {w : Value} {cs : List Int} (h : OwnU N s w cs) : IntsAt s w cs := by
  rcases h with ⟨rfl, rfl⟩ | ⟨b, rfl, hne, h1, h2, h3⟩
  · exact .nil 0
  · have := SlAt.mk (n := 1) (s := s) (off := 0) (c := cs.length) (l := cs.map fun x => [.int .i64 x]) h2 h3 rfl (fun i e he => ?_)
    · rw [List.length_map] at this; exact this
    · rw [List.getElem?_map] at he
      cases hb : cs[i]? with
      | none => rw [hb] at he; cases he
      | some y =>
        rw [hb] at he; cases he
        rw [Nat.zero_add, Nat.mul_one]
        have hd : (cs.map (Value.int .i64)).drop i = .int .i64 y :: (cs.map (Value.int .i64)).drop (i + 1) := by
          rw [List.drop_eq_getElem_cons (by simpa using (List.getElem?_eq_some_iff.1 hb).1)]
          have := (List.getElem?_eq_some_iff.1 hb).2
          simp [this]
        rw [hd]; rfl
end Go.Proofs.Ytjehpgflhgpalaa
namespace Go.Proofs.Ytjehpgflhgpalaa
open Go Kern
set_option maxRecDepth 100000 in
theorem parts_ev (u : Int) (v : Value) (s : St) : Ev TT 38 [plantV u v] s fun r s' => Keep s s' ∧ ∃ bp, r = .func (.func 59) #[] #[.pointer (some ⟨bp, 0, none⟩)] ∧ s.next ≤ bp ∧ bp < s'.next ∧ s'.heap.get bp = some (.cells [.int .i64 u, v] none) := by
  unfold plantV
  refine Ev.intro (fn := Try.f38) rfl (by kernel_rfl) rfl rfl ?_
  apply zz
  refine Cd.ra (h := ?_)
  apply Run.by_eq
  · intro self
    conv => lhs; simp -implicitDefEqProofs (maxSteps := 300000) (disch := omega) [-getElem?_pos, -getElem?_neg]
  try (with_reducible refine Run.ret ?_)
  apply zz
  refine Cd.ra (h := ?_)
  apply Run.by_eq
  · intro self
    conv => lhs; simp -implicitDefEqProofs (maxSteps := 300000) (disch := omega) [-getElem?_pos, -getElem?_neg]
  try (with_reducible refine Run.ret ?_)
  apply zz
  apply Leave.mk (by first | exact .inl rfl | exact .inr rfl) (by simp only [Fr.marks_put, fr0_marks])
  · conv => lhs; simp -implicitDefEqProofs (disch := omega) [Try.results38]
  exact ⟨(Keep.refl _).pushed _, s.next, rfl, Nat.le_refl _, by simp, by simp⟩
def idxR (rt : Int → Int) (r : Int) : List Nat → Int → Int
  | [], _ => -1
  | l :: t, i => if rt l = r then i else idxR rt r t (i + 1)
def partAt (rt : Int → Int) (n k x : Nat) : Int := idxR rt (rt x) (leads rt n k) 0
def partL (rt : Int → Int) (n k : Nat) : List Int := (List.range n).map (partAt rt n k)
theorem idxR_none {rt : Int → Int} {r : Int} : ∀ {L : List Nat} (i : Int), (∀ l ∈ L, rt l ≠ r) → idxR rt r L i = -1
  | [], _, _ => rfl
  | l :: t, i, h => by
    simp only [idxR, if_neg (h l (.head _))]
    exact idxR_none (i + 1) fun l hl => h l (.tail _ hl)
theorem idxR_append {rt : Int → Int} {r : Int} {k : Nat} : ∀ {L : List Nat} (i : Int), idxR rt r (L ++ [k]) i = if (∃ l ∈ L, rt l = r) then idxR rt r L i else if rt k = r then i + L.length else -1
  | [], i => by simp [idxR]
  | l :: t, i => by
    by_cases h : rt l = r
    · simp [idxR, h]
    · simp only [List.cons_append, idxR, if_neg h, idxR_append (L := t) (i + 1)]
      have e : (∃ x ∈ l :: t, rt x = r) ↔ ∃ x ∈ t, rt x = r := by simp [h]
      simp only [e, List.length_cons]
      by_cases h2 : ∃ x ∈ t, rt x = r
      · rw [if_pos h2, if_pos h2]
      · rw [if_neg h2, if_neg h2]
        by_cases h3 : rt k = r
        · rw [if_pos h3, if_pos h3]; push_cast; omega
        · rw [if_neg h3, if_neg h3]
theorem mem_leads {rt : Int → Int} {n k l : Nat} : l ∈ leads rt n k ↔ l < k ∧ isLead rt n l = true := by unfold leads; simp
theorem mem_cls {rt : Int → Int} {n k : Nat} {x : Nat} (hx : x < n) : (x : Int) ∈ clsN rt k n ↔ rt x = rt k := by
  unfold clsN
  constructor
  · intro h
    obtain ⟨y, hy, e⟩ := List.mem_map.1 h
    have : y = x := by omega
    subst this
    simpa using (List.mem_filter.1 hy).2
  · intro h
    exact List.mem_map.2 ⟨x, by simp [hx, h], rfl⟩
theorem partL_skip {rt : Int → Int} {n k : Nat} (h : isLead rt n k = false) : partL rt n (k + 1) = partL rt n k := by
  unfold partL partAt
  rw [leads_succ, if_neg (by rw [h]; decide)]
theorem partL_zero (rt : Int → Int) (n : Nat) : partL rt n 0 = List.replicate n (-1) := by
  apply List.ext_getElem?
  intro i
  by_cases h : i < n <;> simp [partL, partAt, leads, idxR, h]
theorem Fr.get_mk (f : Fr) (m : List Nat) (t : Tmp) : Fr.get ⟨f.tmps, m⟩ t = f.get t := rfl
theorem ints_of_cells {s : St} {b c : Nat} {xs : List Int} {g : Option Nat} (h2 : b < s.next) (h3 : s.heap.get b = some (.cells (xs.map (Value.int .i64)) g)) : IntsAt s (.slice (some ⟨b, 0, none⟩) xs.length c) xs := by
  have := SlAt.mk (n := 1) (s := s) (off := 0) (c := c) (l := xs.map fun x => [.int .i64 x]) h2 h3 rfl (fun i e he => ?_)
  · rw [List.length_map] at this; exact this
  · rw [List.getElem?_map] at he
    cases hb : xs[i]? with
    | none => rw [hb] at he; cases he
    | some y =>
      rw [hb] at he; cases he
      rw [Nat.zero_add, Nat.mul_one]
      have hd : (xs.map (Value.int .i64)).drop i = .int .i64 y :: (xs.map (Value.int .i64)).drop (i + 1) := by
        rw [List.drop_eq_getElem_cons (by simpa using (List.getElem?_eq_some_iff.1 hb).1)]
        have := (List.getElem?_eq_some_iff.1 hb).2
        simp [this]
      rw [hd]; rfl
theorem range_set {g h : Nat → Int} {n k : Nat} (hk : k < n) (ho : ∀ x, x < n → x ≠ k → h x = g x) {w : Int} (hw : w = h k) : ((List.range n).map fun x : Nat => Value.int .i64 (g x)).set k (.int .i64 w) = (List.range n).map fun x : Nat => Value.int .i64 (h x) := by
  subst hw
  apply List.ext_getElem?
  intro i
  rw [List.getElem?_set]
  by_cases e : k = i
  · subst e; simp [hk]
  · rw [if_neg e]
    by_cases hi : i < n
    · simp [hi, ho i hi (fun q => e q.symm)]
    · simp [hi]
def partsErrL (u : Int) (fs : List FlowD) : List Int := if checkErr u fs = 0 then partL (rtF (-1) fs 0 id) u.toNat u.toNat else []
end Go.Proofs.Ytjehpgflhgpalaa
namespace Go.Proofs.Ytjehpgflhgpalaa
open Go Kern
theorem takeL_append {α : Type} : ∀ (a b : List α), takeL a.length (a ++ b) = some a
  | [], b => rfl
  | x :: a, b => by show ob (takeL a.length (a ++ b)) (fun r => some (x :: r)) = _; rw [takeL_append a b]; rfl
theorem drop_flat {α : Type} {n : Nat} : ∀ {l : List (List α)} {i : Nat} {e : List α}, (∀ x ∈ l, x.length = n) → l[i]? = some e → takeL n (l.flatten.drop (i * n)) = some e
  | [], i, e, _, h => by simp at h
  | x :: r, 0, e, hl, h => by
    simp at h; subst h
    rw [Nat.zero_mul, List.drop_zero, List.flatten_cons, ← hl x (.head _)]
    exact takeL_append _ _
  | x :: r, i + 1, e, hl, h => by
    have hx := hl x (.head _)
    rw [List.flatten_cons, show (i + 1) * n = x.length + i * n by rw [Nat.add_mul, hx]; omega, ← List.drop_drop, List.drop_left]
    exact drop_flat (fun y hy => hl y (.tail _ hy)) (by simpa using h)
theorem sl_of_cells {n : Nat} {s : St} {b c : Nat} {l : List (List Value)} {g : Option Nat} (h2 : b < s.next) (hl : ∀ x ∈ l, x.length = n) (h3 : s.heap.get b = some (.cells l.flatten g)) : SlAt n s (.slice (some ⟨b, 0, none⟩) l.length c) l :=
  SlAt.mk h2 h3 rfl fun i e he => by rw [Nat.zero_add]; exact drop_flat hl he
def flatF (fs : List FlowD) : List Value := (fs.map FlowD.cs).flatten
theorem flatF_snoc (fs : List FlowD) (f : FlowD) : flatF (fs ++ [f]) = flatF fs ++ f.cs := by simp [flatF]
theorem flatF_length (fs : List FlowD) : (flatF fs).length = fs.length * 7 := by
  induction fs with
  | nil => rfl
  | cons f r ih =>
    have : flatF (f :: r) = f.cs ++ flatF r := by simp [flatF]
    rw [this, List.length_append, ih, List.length_cons]
    simp [FlowD.cs]; omega
def OwnF (N : Nat) (s : St) (w : Value) (fs : List FlowD) : Prop :=
  (fs = [] ∧ w = .slice none 0 0) ∨ ∃ b, w = .slice (some ⟨b, 0, none⟩) fs.length fs.length ∧ fs ≠ [] ∧ N ≤ b ∧ b < s.next ∧ s.heap.get b = some (.cells (flatF fs) (some 7))
theorem OwnF.flows {N : Nat} {s : St} {w : Value} {fs : List FlowD} (h : OwnF N s w fs) : FlAt s w fs := by
  rcases h with ⟨rfl, rfl⟩ | ⟨b, rfl, hne, h1, h2, h3⟩
  · exact .nil 0
  · have := sl_of_cells (n := 7) (c := fs.length) (l := fs.map FlowD.cs) h2 (fun x hx => by obtain ⟨f, _, rfl⟩ := List.mem_map.1 hx; rfl) h3
    rw [List.length_map] at this; exact this
end Go.Proofs.Ytjehpgflhgpalaa
namespace Go.Proofs.Ytjehpgflhgpalaa
open Go Kern
theorem takeL_at {α : Type} : ∀ {n : Nat} {l r : List α} {i : Nat}, takeL n l = some r → i < n → l[i]? = r[i]?
  | 0, _, _, _, _, h => by omega
  | n + 1, [], r, _, h, _ => by cases h
  | n + 1, x :: l, r, i, h, hi => by
    obtain ⟨t, h1, h2⟩ := ob_eq (show ob (takeL n l) (fun t => some (x :: t)) = some r from h)
    cases h2
    cases i with
    | zero => rfl
    | succ i => simpa using takeL_at h1 (by omega)
section
variable {T : Tab} {self : Self} {f : Fr} {s : St} {ρ : Env} {H : Tree AObj}
@[simp] theorem act_max2 (x y : Operand) (tys : Array TypeId) : actO T self (.call ⟨.builtin .max, #[x, y], tys⟩) f s = pureR (vExt true x [y] f.eval s.heap) s := rfl
@[simp] theorem act_min2 (x y : Operand) (tys : Array TypeId) : actO T self (.call ⟨.builtin .min, #[x, y], tys⟩) f s = pureR (vExt false x [y] f.eval s.heap) s := rfl
@[simp] theorem vExt_one (mx : Bool) (x y : Operand) : vExt mx x [y] ρ H = ext2 mx (ρ x) (ρ y) := by
  show ob (ext2 mx (ρ x) (ρ y)) some = _
  cases ext2 mx (ρ x) (ρ y) <;> rfl
@[simp] theorem ext2_max (k : IntKind) (a b : Int) : ext2 true (.int k a) (.int k b) = some (.int k (max a b)) := by
  show some (Value.int k (bt (bt true (intLt a b) (intLt b a)) b a)) = _
  rw [intLt_eq, bt_true]
  by_cases h : a < b
  · rw [decide_eq_true h, bt_true, show max a b = b by omega]
  · rw [decide_eq_false h, bt_false, show max a b = a by omega]
@[simp] theorem ext2_min (k : IntKind) (a b : Int) : ext2 false (.int k a) (.int k b) = some (.int k (min a b)) := by
  show some (Value.int k (bt (bt false (intLt a b) (intLt b a)) b a)) = _
  rw [intLt_eq b a, bt_false]
  by_cases h : b < a
  · rw [decide_eq_true h, bt_true, show min a b = b by omega]
  · rw [decide_eq_false h, bt_false, show min a b = a by omega]
end
def relab (h : Nat → Int) (a b : Int) : Nat → Int := fun x => if h x = max a b then min a b else h x
def labStep (lo : Int) (h : Nat → Int) (i : Nat) (f : FlowD) : Nat → Int :=
  if f.me = true ∨ (i : Int) = lo then h else relab h (h (f.fr + 1).toNat) (h (f.to + 1).toNat)
def labF (lo : Int) : List FlowD → Nat → (Nat → Int) → (Nat → Int)
  | [], _, h => h
  | f :: r, i, h => labF lo r (i + 1) (labStep lo h i f)
theorem labF_take (lo : Int) : ∀ (fs : List FlowD) (i : Nat) (h : Nat → Int) (k : Nat) (f : FlowD), fs[k]? = some f → labF lo (fs.take (k + 1)) i h = labStep lo (labF lo (fs.take k) i h) (i + k) f
  | [], _, _, _, _, h => by simp at h
  | g :: r, i, h, 0, f, e => by simp at e; subst e; simp [labF]
  | g :: r, i, h, k + 1, f, e => by
    show labF lo (r.take (k + 1)) (i + 1) _ = labStep lo (labF lo (r.take k) (i + 1) _) (i + (k + 1)) f
    rw [labF_take lo r (i + 1) _ k f (by simpa using e)]
    rw [show i + 1 + k = i + (k + 1) by omega]
def cellsF (m : Nat) (h : Nat → Int) : List Value := (List.range m).map fun x : Nat => Value.int .i64 (h x)
theorem cellsF_get {m i : Nat} (h : Nat → Int) (hi : i < m) : (cellsF m h)[i]? = some (.int .i64 (h i)) := by simp [cellsF, hi]
theorem cellsF_length (m : Nat) (h : Nat → Int) : (cellsF m h).length = m := by simp [cellsF]
end Go.Proofs.Ytjehpgflhgpalaa
namespace Go.Proofs.Ytjehpgflhgpalaa
open Go Kern
def Same (n : Nat) (rt : Int → Int) (h : Nat → Int) : Prop :=
  (∀ i, i ≤ n → 0 ≤ h i ∧ h i ≤ i ∧ h (h i).toNat = h i) ∧ ∀ i j, i ≤ n → j ≤ n → (h i = h j ↔ rt ((i : Int) - 1) = rt ((j : Int) - 1))
theorem Same.init (n : Nat) : Same n id fun x => x :=
  ⟨fun i hi => ⟨by dsimp only; omega, by dsimp only; omega, by dsimp only; omega⟩, fun i j _ _ => by simp only [id]; omega⟩
theorem Same.step {n : Nat} {rt : Int → Int} {h : Nat → Int} (hs : Same n rt h) {x y : Int} (hx : -1 ≤ x ∧ x < n) (hy : -1 ≤ y ∧ y < n) : Same n (uni rt x y) (relab h (h (x + 1).toNat) (h (y + 1).toNat)) := by
  obtain ⟨h1, h2⟩ := hs
  have px : (x + 1).toNat ≤ n := by omega
  have py : (y + 1).toNat ≤ n := by omega
  have ex : (((x + 1).toNat : Nat) : Int) - 1 = x := by omega
  have ey : (((y + 1).toNat : Nat) : Int) - 1 = y := by omega
  have hab := h2 _ _ px py
  rw [ex, ey] at hab
  have ha := h1 _ px
  have hb := h1 _ py
  have ca : ∀ i, i ≤ n → (h i = h (x + 1).toNat ↔ rt ((i : Int) - 1) = rt x) := fun i hi => by have := h2 i _ hi px; rw [ex] at this; exact this
  have cb : ∀ i, i ≤ n → (h i = h (y + 1).toNat ↔ rt ((i : Int) - 1) = rt y) := fun i hi => by have := h2 i _ hi py; rw [ey] at this; exact this
  generalize h (x + 1).toNat = A at *
  generalize h (y + 1).toNat = B at *
  unfold uni relab
  by_cases hr : rt x = rt y
  · have hAB : A = B := hab.2 hr
    subst hAB
    rw [if_pos hr]
    have hid : (fun z => if h z = max A A then min A A else h z) = h := by funext z; by_cases e : h z = A <;> simp [e]
    rw [hid]
    exact ⟨h1, h2⟩
  · have hAB : A ≠ B := fun e => hr (hab.1 e)
    rw [if_neg hr]
    refine ⟨fun i hi => ?_, fun i j hi hj => ?_⟩
    · obtain ⟨b1, b2, b3⟩ := h1 i hi
      by_cases e : h i = max A B
      · simp only [e, if_true]
        refine ⟨by omega, by omega, ?_⟩
        have hm : h (min A B).toNat = min A B := by
          by_cases q : A ≤ B
          · rw [show min A B = A by omega]; exact ha.2.2
          · rw [show min A B = B by omega]; exact hb.2.2
        rw [hm, if_neg (by omega)]
      · simp only [e, if_false]
        exact ⟨b1, b2, by rw [b3, if_neg e]⟩
    · have hij := h2 i j hi hj
      have ci := ca i hi
      have cj := ca j hj
      have di := cb i hi
      have dj := cb j hj
      have hry : rt y ≠ rt x := fun e => hr e.symm
      by_cases i1 : rt ((i : Int) - 1) = rt x
      · have hi1 := ci.2 i1
        by_cases j1 : rt ((j : Int) - 1) = rt x
        · have hj1 := cj.2 j1
          simp [i1, j1, hi1, hj1]
        · have hj1 : h j ≠ A := fun e => j1 (cj.1 e)
          by_cases j2 : rt ((j : Int) - 1) = rt y
          · have hj2 := dj.2 j2
            simp only [i1, if_true, j2, hry, if_false, hi1, hj2, iff_true]
            by_cases q : A ≤ B
            · rw [if_neg (by omega), if_pos (by omega)]; omega
            · rw [if_pos (by omega), if_neg (by omega)]; omega
          · have hj2 : h j ≠ B := fun e => j2 (dj.1 e)
            simp only [i1, if_true, j1, if_false, hi1]
            rw [if_neg (show ¬ h j = max A B by omega)]
            constructor
            · intro e; split at e <;> omega
            · intro e; exact absurd e.symm j2
      · have hi1 : h i ≠ A := fun e => i1 (ci.1 e)
        by_cases i2 : rt ((i : Int) - 1) = rt y
        · have hi2 := di.2 i2
          by_cases j1 : rt ((j : Int) - 1) = rt x
          · have hj1 := cj.2 j1
            simp only [i2, hry, if_false, j1, if_true, hi2, hj1, iff_true]
            by_cases q : A ≤ B
            · rw [if_pos (by omega), if_neg (by omega)]; omega
            · rw [if_neg (by omega), if_pos (by omega)]; omega
          · have hj1 : h j ≠ A := fun e => j1 (cj.1 e)
            by_cases j2 : rt ((j : Int) - 1) = rt y
            · have hj2 := dj.2 j2
              simp [i2, j2, hi2, hj2]
            · have hj2 : h j ≠ B := fun e => j2 (dj.1 e)
              simp only [i2, hry, if_false, j1, hi2]
              rw [if_neg (show ¬ h j = max A B by omega)]
              constructor
              · intro e; split at e <;> omega
              · intro e; exact absurd e.symm j2
        · have hi2 : h i ≠ B := fun e => i2 (di.1 e)
          simp only [i1, if_false]
          rw [if_neg (show ¬ h i = max A B by omega)]
          by_cases j1 : rt ((j : Int) - 1) = rt x
          · have hj1 := cj.2 j1
            simp only [j1, if_true, hj1]
            constructor
            · intro e; split at e <;> omega
            · intro e; exact absurd e i2
          · have hj1 : h j ≠ A := fun e => j1 (cj.1 e)
            simp only [j1, if_false]
            by_cases j2 : rt ((j : Int) - 1) = rt y
            · have hj2 := dj.2 j2
              rw [hj2]
              constructor
              · intro e; split at e <;> omega
              · intro e; exact absurd (e.trans j2) i2
            · have hj2 : h j ≠ B := fun e => j2 (dj.1 e)
              rw [if_neg (show ¬ h j = max A B by omega)]
              exact hij
theorem Same.flows {n : Nat} {lo : Int} : ∀ {fs : List FlowD} {i : Nat} {rt : Int → Int} {h : Nat → Int}, Same n rt h → (∀ f ∈ fs, (-1 ≤ f.fr ∧ f.fr < n) ∧ (-1 ≤ f.to ∧ f.to < n)) → Same n (rtF lo fs i rt) (labF lo fs i h)
  | [], _, _, _, hs, _ => hs
  | f :: r, i, rt, h, hs, hf => by
    have h0 := hf f (.head _)
    show Same n (rtF lo r (i + 1) _) (labF lo r (i + 1) _)
    refine Same.flows ?_ fun g hg => hf g (.tail _ hg)
    unfold labStep
    by_cases hm : f.me = false ∧ (i : Int) ≠ lo
    · rw [if_pos hm, if_neg (by rw [hm.1]; simp; exact hm.2)]
      exact hs.step h0.1 h0.2
    · rw [if_neg hm, if_pos (by cases hme : f.me <;> simp_all)]
      exact hs
def refO (L : Nat → Int) : Nat → List Int × Int
  | 0 => ([], 0)
  | x + 1 => if L (x + 1) = 0 then ((refO L x).1 ++ [-1], (refO L x).2) else if L (x + 1) = (x : Int) + 1 then ((refO L x).1 ++ [(refO L x).2], (refO L x).2 + 1) else ((refO L x).1 ++ [(refO L x).1.getD (L (x + 1) - 1).toNat 0], (refO L x).2)
theorem refO_length (L : Nat → Int) : ∀ k, (refO L k).1.length = k
  | 0 => rfl
  | k + 1 => by
    unfold refO
    split
    · simp [refO_length L k]
    · split <;> simp [refO_length L k]
theorem isLead_of {rt : Int → Int} {n k : Nat} (hk : k < n) (h : ∀ l : Nat, l < k → rt l ≠ rt k) (ho : rt k ≠ rt (-1)) : isLead rt n k = true := by
  unfold isLead
  rw [Bool.and_eq_true, decide_eq_true_eq]
  refine ⟨?_, by simpa using ho⟩
  unfold clsN
  have hsplit : List.range n = List.range k ++ k :: (List.range n).drop (k + 1) := by
    have h1 : (List.range n).drop k = k :: (List.range n).drop (k + 1) := by
      rw [List.drop_eq_getElem_cons (by simpa using hk)]
      simp
    rw [← h1]
    have h2 : List.range k = (List.range n).take k := by rw [List.take_range, show min k n = k by omega]
    rw [h2, List.take_append_drop]
  rw [hsplit, List.filter_append]
  have : (List.range k).filter (fun x : Nat => decide (rt x = rt k)) = [] := by
    rw [List.filter_eq_nil_iff]
    intro l hl
    simpa using h l (by simpa using hl)
  rw [this]
  simp
end Go.Proofs.Ytjehpgflhgpalaa
namespace Go.Proofs.Ytjehpgflhgpalaa
open Go Kern
set_option maxRecDepth 100000 in
set_option maxHeartbeats 4000000 in
theorem iterJ_ev (n : Nat) (v yv : Value) (fs : List FlowD) (bp : Nat) (s : St) (X : Nat → Prop) (J : Nat → St → Prop) (B : Nat → St → Prop) (hn : n ≤ 8) (hf : FlAt s v fs) (hl : fs.length ≤ 1000000)
    (hbp : bp < s.next) (hgp : s.heap.get bp = some (.cells [.int .i64 n, v] none)) (hX : ∀ i, X i → i < s.next) (hXp : ¬ X bp) (hJ0 : J 0 s)
    (hJs : ∀ k s1 s2, J k s1 → s1.next ≤ s2.next → (∀ i, i < s.next → s2.heap.get i = s1.heap.get i) → J k s2)
    (hskip : ∀ k s1, k < n → isLead (rtF (-1) fs 0 id) n k = false → J k s1 → J (k + 1) s1)
    (hyield : ∀ k s1 w, k < n → isLead (rtF (-1) fs 0 id) n k = true → J k s1 → s.next ≤ s1.next → IntsAt s1 w (clsN (rtF (-1) fs 0 id) k n) → (∃ bw, s.next ≤ bw ∧ w = .slice (some ⟨bw, 0, none⟩) (clsN (rtF (-1) fs 0 id) k n).length (clsN (rtF (-1) fs 0 id) k n).length) →
      Evn TT (fun self => callV self yv [.int .i64 (leads (rtF (-1) fs 0 id) n k).length, w] s1) fun p => ((p.1 = .bool true ∧ J (k + 1) p.2) ∨ (p.1 = .bool false ∧ B k p.2)) ∧ s1.next ≤ p.2.next ∧ ∀ i, i < s1.next → ¬ X i → p.2.heap.get i = s1.heap.get i) :
    Ev TT 59 [yv, .pointer (some ⟨bp, 0, none⟩)] s fun _ s' => (J n s' ∨ ∃ k, k < n ∧ isLead (rtF (-1) fs 0 id) n k = true ∧ B k s') ∧ s.next ≤ s'.next ∧ ∀ i, i < s.next → ¬ X i → s'.heap.get i = s.heap.get i := by
  refine Ev.intro (fn := Try.f59) rfl (by kernel_rfl) rfl rfl ?_
  apply zz
  refine Cd.ra (h := ?_)
  apply Run.by_eq
  · intro self
    conv => lhs; simp -implicitDefEqProofs (maxSteps := 300000) (disch := omega) [-getElem?_pos, -getElem?_neg, hgp]
  try (with_reducible refine Run.ret ?_)
  apply zz
  refine Run.call ((joins_ev n (-1) v fs _ hf hl).mono fun r w1 hv => ?_)
  obtain ⟨hk1, b, es, rfl, hbs, hH, hF⟩ := hv
  generalize rtF (-1) fs 0 id = rt at *
  have k1a := hk1.1
  have k1b := hk1.2
  have hHl := hH.1
  apply Run.by_eq
  · intro self
    conv => lhs; simp -implicitDefEqProofs (maxSteps := 300000) (disch := omega) [-getElem?_pos, -getElem?_neg]
  try (with_reducible refine Run.ret ?_)
  apply zz
  refine Cd.ra (h := ?_)
  apply Run.by_eq
  · intro self
    conv => lhs; simp -implicitDefEqProofs (maxSteps := 300000) (disch := omega) [-getElem?_pos, -getElem?_neg]
  try (with_reducible refine Run.ret ?_)
  apply zz
  refine Cd.ra (h := ?_)
  apply Run.by_eq
  · intro self
    conv => lhs; simp -implicitDefEqProofs (maxSteps := 300000) (disch := omega) [-getElem?_pos, -getElem?_neg, k1b, hgp]
  try (with_reducible refine Run.ret ?_)
  apply zz
  refine Cd.inv (fun z f s' => ∃ k : Nat, k ≤ n ∧ z = n - k ∧ f.marks = [] ∧ f.get 12 = .int .i64 k ∧ f.get 11 = .int .i64 n ∧ f.get 0 = yv ∧ f.get 1 = .pointer (some ⟨bp, 0, none⟩) ∧ f.get 3 = .pointer (some ⟨w1.next, 0, none⟩) ∧ f.get 4 = .int .i64 (leads rt n k).length ∧ w1.next < s'.next ∧ (∀ i, i < s.next → ¬ X i → s'.heap.get i = s.heap.get i) ∧ s'.heap.get w1.next = some (.cells [.map (some b)] none) ∧ HeadsAt s' b es ∧ J k s') n ?_ ?_
  · refine ⟨0, by omega, rfl, by simp, by simp, by simp, by simp, by simp, by simp, by simp [leads], by simp, fun i hi hx => ?_, by simp, ⟨by (try simp only [pushed_next', upded_next']); omega, ?_⟩, hJs 0 s _ hJ0 (by (try simp only [pushed_next', upded_next']); omega) fun i hi => ?_⟩
    · simp -implicitDefEqProofs (disch := omega) [k1b]
    · simp -implicitDefEqProofs (disch := omega) [hH.2]
    · simp -implicitDefEqProofs (disch := omega) [k1b]
  rintro z f s' ⟨k, hk, rfl, hm, h12, h11, h0, h1, h3, h4, hnx, hold, hgh, hHA, hJ⟩
  have hgp' : s'.heap.get bp = some (.cells [.int .i64 n, v] none) := (hold bp hbp hXp).trans hgp
  by_cases hlt : k < n
  · apply zz
    refine Cd.ra (h := ?_)
    apply Run.by_eq
    · intro self
      conv => lhs; simp -implicitDefEqProofs (maxSteps := 300000) (disch := omega) [-getElem?_pos, -getElem?_neg, h12, h11]
    try (with_reducible refine Run.ret ?_)
    apply zz
    apply Cd.ite rfl
    · conv => lhs; simp -implicitDefEqProofs (maxSteps := 300000) (disch := omega) [-getElem?_pos, -getElem?_neg]
    all_goals intro c0
    all_goals try (cases c0; done)
    all_goals try simp only [Bool.not_eq_true', Bool.not_eq_false', decide_eq_true_eq, decide_eq_false_iff_not] at c0
    all_goals apply zz
    · apply zz
      refine Cd.ra (h := ?_)
      apply Run.by_eq
      · intro self
        conv => lhs; simp -implicitDefEqProofs (maxSteps := 300000) (disch := omega) [-getElem?_pos, -getElem?_neg, h12]
      try (with_reducible refine Run.ret ?_)
      apply zz
      refine Cd.ra (h := ?_)
      apply Run.by_eq
      · intro self
        conv => lhs; simp -implicitDefEqProofs (maxSteps := 300000) (disch := omega) [-getElem?_pos, -getElem?_neg]
      try (with_reducible refine Run.ret ?_)
      apply zz
      refine Cd.ra (h := ?_)
      apply Run.by_eq
      · intro self
        conv => lhs; simp -implicitDefEqProofs (maxSteps := 300000) (disch := omega) [-getElem?_pos, -getElem?_neg, h1, hgp']
      try (with_reducible refine Run.ret ?_)
      apply zz
      refine Cd.inv (fun z2 f2 s2 => ∃ j : Nat, j ≤ n ∧ z2 = n - j ∧ f2.marks = [] ∧ f2.get 17 = .int .i64 j ∧ f2.get 16 = .int .i64 n ∧ f2.get 12 = .int .i64 k ∧ f2.get 11 = .int .i64 n ∧ f2.get 0 = yv ∧ f2.get 1 = .pointer (some ⟨bp, 0, none⟩) ∧ f2.get 3 = .pointer (some ⟨w1.next, 0, none⟩) ∧ f2.get 4 = .int .i64 (leads rt n k).length ∧ f2.get 5 = .int .i64 k ∧ OwnU (w1.next + 1) s2 (f2.get 6) (clsN rt k j) ∧ w1.next < s2.next ∧ (∀ i, i < s.next → ¬ X i → s2.heap.get i = s.heap.get i) ∧ s2.heap.get w1.next = some (.cells [.map (some b)] none) ∧ HeadsAt s2 b es ∧ J k s2) n ?_ ?_
      · refine ⟨0, by omega, rfl, by simp [hm], by simp, by simp, by simp [h12], by simp [h11], by simp [h0], by simp [h1], by simp [h3], by simp [h4], by simp, .inl ⟨rfl, by simp⟩, hnx, hold, hgh, hHA, hJ⟩
      rintro z2 f2 s2 ⟨j, hj, rfl, gm, g17, g16, g12, g11, g0, g1, g3, g4, g5, hU, gnx, gold, ggh, gHA, gJ⟩
      have gHl := gHA.1
      by_cases hjn : j < n
      · apply zz
        refine Cd.ra (h := ?_)
        apply Run.by_eq
        · intro self
          conv => lhs; simp -implicitDefEqProofs (maxSteps := 300000) (disch := omega) [-getElem?_pos, -getElem?_neg, g17, g16]
        try (with_reducible refine Run.ret ?_)
        apply zz
        apply Cd.ite rfl
        · conv => lhs; simp -implicitDefEqProofs (maxSteps := 300000) (disch := omega) [-getElem?_pos, -getElem?_neg]
        all_goals intro d0
        all_goals try (cases d0; done)
        all_goals try simp only [Bool.not_eq_true', Bool.not_eq_false', decide_eq_true_eq, decide_eq_false_iff_not] at d0
        all_goals apply zz
        · apply zz
          refine Cd.ra (h := ?_)
          apply Run.by_eq
          · intro self
            conv => lhs; simp -implicitDefEqProofs (maxSteps := 300000) (disch := omega) [-getElem?_pos, -getElem?_neg, g17]
          try (with_reducible refine Run.ret ?_)
          apply zz
          refine Cd.ra (h := ?_)
          apply Run.by_eq
          · intro self
            conv => lhs; simp -implicitDefEqProofs (maxSteps := 300000) (disch := omega) [-getElem?_pos, -getElem?_neg, g3, ggh, g5]
          try (with_reducible refine Run.ret ?_)
          apply zz
          refine Run.call ((joined_ev b es rt j k _ gHA hF).mono fun v wq hv => ?_)
          obtain ⟨rfl, q⟩ := hv
          have qa := q.1
          have qb := q.2
          try simp only [pushed_next', upded_next'] at qa qb
          apply Run.by_eq
          · intro self
            conv => lhs; simp -implicitDefEqProofs (maxSteps := 300000) (disch := omega) [-getElem?_pos, -getElem?_neg]
          try (with_reducible refine Run.ret ?_)
          apply zz
          have hcn := clsN_succ rt k j
          by_cases hr : rt j = rt k
          · rw [if_pos hr] at hcn
            apply zz
            apply Cd.ite rfl
            · conv => lhs; simp -implicitDefEqProofs (maxSteps := 300000) (disch := omega) [-getElem?_pos, -getElem?_neg, hr]
            all_goals intro d1
            all_goals try (cases d1; done)
            all_goals try simp only [Bool.not_eq_true', Bool.not_eq_false', decide_eq_true_eq, decide_eq_false_iff_not] at d1
            all_goals apply zz
            rcases hU with ⟨hce, hw⟩ | ⟨bu, hw, hne, hb1, hb2, hb3⟩
            · apply zz
              refine Cd.ra (h := ?_)
              apply Run.by_eq
              · intro self
                conv => lhs; simp -implicitDefEqProofs (maxSteps := 300000) (disch := omega) [-getElem?_pos, -getElem?_neg, hw, appV_nil (size := 1) (g := none) (new := [.int .i64 (j : Int)]) (get_pushed_new _ _) rfl rfl]
              try (with_reducible refine Run.ret ?_)
              apply zz
              refine Cd.ra (h := ?_)
              apply Run.by_eq
              · intro self
                conv => lhs; simp -implicitDefEqProofs (maxSteps := 300000) (disch := omega) [-getElem?_pos, -getElem?_neg, g17]
              try (with_reducible refine Run.ret ?_)
              apply zz
              refine LoopK.nm (n - (j + 1)) (by omega) ⟨j + 1, by omega, rfl, by simp [gm], by simp, by simp [g16], by simp [g12], by simp [g11], by simp [g0], by simp [g1], by simp [g3], by simp [g4], by simp [g5], ?_, by (try simp only [pushed_next', upded_next']); omega, fun i hi hx => ?_, ?_, ⟨by (try simp only [pushed_next', upded_next']); omega, ?_⟩, hJs k s2 _ gJ (by (try simp only [pushed_next', upded_next']); omega) fun i hi => ?_⟩
              · rw [hcn, hce]
                exact .inr ⟨wq.next + 1, by simp, by simp, by omega, by simp, by simp⟩
              · rw [← gold i hi hx]; simp -implicitDefEqProofs (disch := omega) [qb]
              · simp -implicitDefEqProofs (disch := omega) [qb, ggh]
              · simp -implicitDefEqProofs (disch := omega) [qb, gHA.2]
              · simp -implicitDefEqProofs (disch := omega) [qb]
            · have hcl := clsN_length rt k j
              have hm1 : (wq.pushed (.cells [.int .i64 (j : Int)] none)).heap.get bu = some (.cells ((clsN rt k j).map (Value.int .i64)) (some 1)) := by simp -implicitDefEqProofs (disch := omega) [qb, hb3]
              have hap := appV_more (size := 1) (n := (clsN rt k j).length) (b2 := wq.next) hm1 (get_pushed_new _ _) rfl rfl (by simp) (by omega)
              apply zz
              refine Cd.ra (h := ?_)
              apply Run.by_eq
              · intro self
                conv => lhs; simp -implicitDefEqProofs (maxSteps := 300000) (disch := omega) [-getElem?_pos, -getElem?_neg, hw, hap]
              try (with_reducible refine Run.ret ?_)
              apply zz
              refine Cd.ra (h := ?_)
              apply Run.by_eq
              · intro self
                conv => lhs; simp -implicitDefEqProofs (maxSteps := 300000) (disch := omega) [-getElem?_pos, -getElem?_neg, g17]
              try (with_reducible refine Run.ret ?_)
              apply zz
              refine LoopK.nm (n - (j + 1)) (by omega) ⟨j + 1, by omega, rfl, by simp [gm], by simp, by simp [g16], by simp [g12], by simp [g11], by simp [g0], by simp [g1], by simp [g3], by simp [g4], by simp [g5], ?_, by (try simp only [pushed_next', upded_next']); omega, fun i hi hx => ?_, ?_, ⟨by (try simp only [pushed_next', upded_next']); omega, ?_⟩, hJs k s2 _ gJ (by (try simp only [pushed_next', upded_next']); omega) fun i hi => ?_⟩
              · rw [hcn]
                exact .inr ⟨wq.next + 1, by simp, by simp, by omega, by simp, by simp⟩
              · rw [← gold i hi hx]; simp -implicitDefEqProofs (disch := omega) [qb]
              · simp -implicitDefEqProofs (disch := omega) [qb, ggh]
              · simp -implicitDefEqProofs (disch := omega) [qb, gHA.2]
              · simp -implicitDefEqProofs (disch := omega) [qb]
          · rw [if_neg hr] at hcn
            apply zz
            apply Cd.ite rfl
            · conv => lhs; simp -implicitDefEqProofs (maxSteps := 300000) (disch := omega) [-getElem?_pos, -getElem?_neg, hr]
            all_goals intro d1
            all_goals try (cases d1; done)
            all_goals try simp only [Bool.not_eq_true', Bool.not_eq_false', decide_eq_true_eq, decide_eq_false_iff_not] at d1
            all_goals apply zz
            apply zz
            refine Cd.ra (h := ?_)
            apply Run.by_eq
            · intro self
              conv => lhs; simp -implicitDefEqProofs (maxSteps := 300000) (disch := omega) [-getElem?_pos, -getElem?_neg, g17]
            try (with_reducible refine Run.ret ?_)
            apply zz
            refine LoopK.nm (n - (j + 1)) (by omega) ⟨j + 1, by omega, rfl, by simp [gm], by simp, by simp [g16], by simp [g12], by simp [g11], by simp [g0], by simp [g1], by simp [g3], by simp [g4], by simp [g5], ?_, by (try simp only [pushed_next', upded_next']); omega, fun i hi hx => ?_, ?_, ⟨by (try simp only [pushed_next', upded_next']); omega, ?_⟩, hJs k s2 _ gJ (by (try simp only [pushed_next', upded_next']); omega) fun i hi => ?_⟩
            · rw [hcn]
              rcases hU with ⟨hce, hw⟩ | ⟨bu, hw, hne, hb1, hb2, hb3⟩
              · exact .inl ⟨hce, by simp [hw]⟩
              · exact .inr ⟨bu, by simp [hw], hne, hb1, by omega, by rw [qb _ hb2]; exact hb3⟩
            · rw [← gold i hi hx]; simp -implicitDefEqProofs (disch := omega) [qb]
            · simp -implicitDefEqProofs (disch := omega) [qb, ggh]
            · simp -implicitDefEqProofs (disch := omega) [qb, gHA.2]
            · simp -implicitDefEqProofs (disch := omega) [qb]
        · simp at d0; omega
      · obtain rfl : j = n := by omega
        apply zz
        refine Cd.ra (h := ?_)
        apply Run.by_eq
        · intro self
          conv => lhs; simp -implicitDefEqProofs (maxSteps := 300000) (disch := omega) [-getElem?_pos, -getElem?_neg, g17, g16]
        try (with_reducible refine Run.ret ?_)
        apply zz
        apply Cd.ite rfl
        · conv => lhs; simp -implicitDefEqProofs (maxSteps := 300000) (disch := omega) [-getElem?_pos, -getElem?_neg]
        all_goals intro d0
        all_goals try (cases d0; done)
        all_goals try simp only [Bool.not_eq_true', Bool.not_eq_false', decide_eq_true_eq, decide_eq_false_iff_not] at d0
        all_goals apply zz
        obtain ⟨hd, tl, hcl⟩ : ∃ hd tl, clsN rt k j = hd :: tl := by
          cases hc : clsN rt k j with
          | nil => exact absurd hc (cls_self rt hlt)
          | cons a l => exact ⟨a, l, rfl⟩
        have hints := hU.ints
        rcases hU with ⟨hce, hw⟩ | ⟨bu, hw, hne, hb1, hb2, hb3⟩
        · rw [hcl] at hce; cases hce
        rw [hcl] at hb3 hw
        simp only [List.map_cons, List.length_cons] at hb3 hw
        rw [hw] at hints
        have hskipEnd : isLead rt j k = false → ∀ (f3 : Fr) (s3 : St), f3.marks = [] → f3.get 12 = .int .i64 k → f3.get 11 = .int .i64 j → f3.get 0 = yv → f3.get 1 = .pointer (some ⟨bp, 0, none⟩) → f3.get 3 = .pointer (some ⟨w1.next, 0, none⟩) → f3.get 4 = .int .i64 (leads rt j k).length → Keep s2 s3 →
            ∃ k' : Nat, k' = k + 1 ∧ (leads rt j k').length = (leads rt j k).length ∧ w1.next < s3.next ∧ (∀ i, i < s.next → ¬ X i → s3.heap.get i = s.heap.get i) ∧ s3.heap.get w1.next = some (.cells [.map (some b)] none) ∧ HeadsAt s3 b es ∧ J k' s3 := fun hL f3 s3 _ _ _ _ _ _ _ hk3 => by
          refine ⟨k + 1, rfl, by rw [leads_succ, hL]; rfl, Nat.lt_of_lt_of_le gnx hk3.1, fun i hi hx => (hk3.2 i (by omega)).trans (gold i hi hx), (hk3.2 _ gnx).trans ggh, gHA.keep hk3, hskip k s3 hlt hL (hJs k s2 s3 gJ hk3.1 fun i hi => hk3.2 i (by omega))⟩
        by_cases hdk : hd = (k : Int)
        · subst hdk
          apply zz
          refine Cd.ra (h := ?_)
          apply Run.by_eq
          · intro self
            conv => lhs; simp -implicitDefEqProofs (maxSteps := 300000) (disch := omega) [-getElem?_pos, -getElem?_neg, hw, hb3, g5, g3, ggh]
          try (with_reducible refine Run.ret ?_)
          apply zz
          refine Run.call ((joined_ev b es rt k (-1) _ gHA hF).mono fun v wq hv => ?_)
          obtain ⟨rfl, q⟩ := hv
          have qa := q.1
          have qb := q.2
          try simp only [pushed_next', upded_next'] at qa qb
          apply Run.by_eq
          · intro self
            conv => lhs; simp -implicitDefEqProofs (maxSteps := 300000) (disch := omega) [-getElem?_pos, -getElem?_neg]
          try (with_reducible refine Run.ret ?_)
          apply zz
          by_cases hro : rt k = rt (-1)
          · have hL : isLead rt j k = false := by unfold isLead; simp [hro]
            apply zz
            apply Cd.ite rfl
            · conv => lhs; simp -implicitDefEqProofs (maxSteps := 300000) (disch := omega) [-getElem?_pos, -getElem?_neg, hro]
            all_goals intro d2
            all_goals try (cases d2; done)
            all_goals try simp only [Bool.not_eq_true', Bool.not_eq_false', decide_eq_true_eq, decide_eq_false_iff_not] at d2
            all_goals apply zz
            apply zz
            refine Cd.ra (h := ?_)
            apply Run.by_eq
            · intro self
              conv => lhs; simp -implicitDefEqProofs (maxSteps := 300000) (disch := omega) [-getElem?_pos, -getElem?_neg, g12]
            try (with_reducible refine Run.ret ?_)
            apply zz
            obtain ⟨k', rfl, e1, e2, e3, e4, e5, e6⟩ := hskipEnd hL f2 wq gm g12 g11 g0 g1 g3 g4 q
            exact LoopK.nm (j - (k + 1)) (by omega) ⟨k + 1, by omega, rfl, by simp [gm], by simp, by simp [g11], by simp [g0], by simp [g1], by simp [g3], by simp [g4, e1], e2, e3, e4, e5, e6⟩
          · have hL : isLead rt j k = true := by unfold isLead; simp [hro, hcl]
            apply zz
            apply Cd.ite rfl
            · conv => lhs; simp -implicitDefEqProofs (maxSteps := 300000) (disch := omega) [-getElem?_pos, -getElem?_neg, hro]
            all_goals intro d2
            all_goals try (cases d2; done)
            all_goals try simp only [Bool.not_eq_true', Bool.not_eq_false', decide_eq_true_eq, decide_eq_false_iff_not] at d2
            all_goals apply zz
            apply zz
            refine Cd.ra (h := ?_)
            apply Run.by_eq
            · intro self
              conv => lhs; simp -implicitDefEqProofs (maxSteps := 300000) (disch := omega) [-getElem?_pos, -getElem?_neg, g0, g4, hw]
            try (with_reducible refine Run.ret ?_)
            apply zz
            refine Run.callV ((hyield k wq _ hlt hL (hJs k s2 wq gJ q.1 fun i hi => q.2 i (by omega)) (by omega) (hints.keep q) ⟨bu, by omega, by rw [hcl]; rfl⟩).mono fun p hp => ?_)
            obtain ⟨pv, ps⟩ := p
            obtain ⟨p1, p2, p3⟩ := hp
            simp only [] at p1 p2 p3
            have hll : (leads rt j k).length ≤ k := by unfold leads; exact Nat.le_trans (List.length_filter_le _ _) (by simp)
            have hXo : ∀ i, s.next ≤ i → ¬ X i := fun i hi hx => absurd (hX i hx) (by omega)
            rcases p1 with ⟨rfl, p1⟩ | ⟨rfl, p1⟩
            · apply Run.by_eq
              · intro self
                conv => lhs; simp -implicitDefEqProofs (maxSteps := 300000) (disch := omega) [-getElem?_pos, -getElem?_neg]
              try (with_reducible refine Run.ret ?_)
              apply zz
              apply Cd.ite rfl
              · conv => lhs; simp -implicitDefEqProofs (maxSteps := 300000) (disch := omega) [-getElem?_pos, -getElem?_neg]
              all_goals intro d3
              all_goals try (cases d3; done)
              all_goals try simp only [Bool.not_eq_true', Bool.not_eq_false', decide_eq_true_eq, decide_eq_false_iff_not] at d3
              all_goals apply zz
              apply zz
              refine Cd.ra (h := ?_)
              apply Run.by_eq
              · intro self
                conv => lhs; simp -implicitDefEqProofs (maxSteps := 300000) (disch := omega) [-getElem?_pos, -getElem?_neg, g4]
              try (with_reducible refine Run.ret ?_)
              apply zz
              refine Cd.ra (h := ?_)
              apply Run.by_eq
              · intro self
                conv => lhs; simp -implicitDefEqProofs (maxSteps := 300000) (disch := omega) [-getElem?_pos, -getElem?_neg, g12]
              try (with_reducible refine Run.ret ?_)
              apply zz
              refine LoopK.nm (j - (k + 1)) (by omega) ⟨k + 1, by omega, rfl, by simp [gm], by simp, by simp [g11], by simp [g0], by simp [g1], by simp [g3], ?_, by omega, fun i hi hx => ?_, ?_, ⟨by omega, ?_⟩, p1⟩
              · rw [leads_succ, hL]; simp
              · rw [p3 i (by omega) hx, qb i (by omega)]; exact gold i hi hx
              · rw [p3 _ (by omega) (hXo _ (by omega)), qb _ (by omega)]; exact ggh
              · rw [p3 _ (by omega) (hXo _ hbs), qb _ (by omega)]; exact gHA.2
            · apply Run.by_eq
              · intro self
                conv => lhs; simp -implicitDefEqProofs (maxSteps := 300000) (disch := omega) [-getElem?_pos, -getElem?_neg]
              try (with_reducible refine Run.ret ?_)
              apply zz
              apply Cd.ite rfl
              · conv => lhs; simp -implicitDefEqProofs (maxSteps := 300000) (disch := omega) [-getElem?_pos, -getElem?_neg]
              all_goals intro d3
              all_goals try (cases d3; done)
              all_goals try simp only [Bool.not_eq_true', Bool.not_eq_false', decide_eq_true_eq, decide_eq_false_iff_not] at d3
              all_goals apply zz
              apply Leave.mk (by first | exact .inl rfl | exact .inr rfl) (by simp only [Fr.marks_put, fr0_marks, gm])
              · conv => lhs; simp -implicitDefEqProofs (disch := omega) [Try.results59, gm]
              refine ⟨.inr ⟨k, hlt, hL, p1⟩, by omega, fun i hi hx => ?_⟩
              rw [p3 i (by omega) hx, qb i (by omega)]; exact gold i hi hx
        · have hL : isLead rt j k = false := by unfold isLead; simp [hcl, hdk]
          apply zz
          refine Cd.ra (h := ?_)
          apply Run.by_eq
          · intro self
            conv => lhs; simp -implicitDefEqProofs (maxSteps := 300000) (disch := omega) [-getElem?_pos, -getElem?_neg, hw, hb3, g5, hdk]
          try (with_reducible refine Run.ret ?_)
          apply zz
          apply Cd.ite rfl
          · conv => lhs; simp -implicitDefEqProofs (maxSteps := 300000) (disch := omega) [-getElem?_pos, -getElem?_neg]
          all_goals intro d2
          all_goals try (cases d2; done)
          all_goals try simp only [Bool.not_eq_true', Bool.not_eq_false', decide_eq_true_eq, decide_eq_false_iff_not] at d2
          all_goals apply zz
          apply zz
          refine Cd.ra (h := ?_)
          apply Run.by_eq
          · intro self
            conv => lhs; simp -implicitDefEqProofs (maxSteps := 300000) (disch := omega) [-getElem?_pos, -getElem?_neg, g12]
          try (with_reducible refine Run.ret ?_)
          apply zz
          obtain ⟨k', rfl, e1, e2, e3, e4, e5, e6⟩ := hskipEnd hL f2 s2 gm g12 g11 g0 g1 g3 g4 (Keep.refl _)
          exact LoopK.nm (j - (k + 1)) (by omega) ⟨k + 1, by omega, rfl, by simp [gm], by simp, by simp [g11], by simp [g0], by simp [g1], by simp [g3], by simp [g4, e1], e2, e3, e4, e5, e6⟩
    · simp at c0; omega
  · obtain rfl : k = n := by omega
    apply zz
    refine Cd.ra (h := ?_)
    apply Run.by_eq
    · intro self
      conv => lhs; simp -implicitDefEqProofs (maxSteps := 300000) (disch := omega) [-getElem?_pos, -getElem?_neg, h12, h11]
    try (with_reducible refine Run.ret ?_)
    apply zz
    apply Cd.ite rfl
    · conv => lhs; simp -implicitDefEqProofs (maxSteps := 300000) (disch := omega) [-getElem?_pos, -getElem?_neg]
    all_goals intro c0
    all_goals try (cases c0; done)
    all_goals try simp only [Bool.not_eq_true', Bool.not_eq_false', decide_eq_true_eq, decide_eq_false_iff_not] at c0
    all_goals apply zz
    apply Leave.mk (by first | exact .inl rfl | exact .inr rfl) (by simp only [Fr.marks_put, fr0_marks, hm])
    · conv => lhs; simp -implicitDefEqProofs (disch := omega) [Try.results59, hm]
    exact ⟨.inl hJ, by omega, hold⟩
end Go.Proofs.Ytjehpgflhgpalaa
namespace Go.Proofs.Ytjehpgflhgpalaa
open Go Kern
/-- The first kind of which there is something. -/
def nzK (m : Mass) : Option Nat := if m.a ≠ 0 then some 0 else if m.b ≠ 0 then some 1 else if m.c ≠ 0 then some 2 else if m.d ≠ 0 then some 3 else none
theorem nzK_none {m : Mass} : nzK m = none ↔ m = Mass.zero := by
  obtain ⟨a, b, c, d⟩ := m
  unfold nzK Mass.zero
  by_cases ha : a = 0 <;> by_cases hb : b = 0 <;> by_cases hc : c = 0 <;> by_cases hd : d = 0 <;> simp_all
theorem nzK_at {m : Mass} {k : Nat} (hk : k < 4) (hz : ∀ j, j < k → m.at j = 0) (h : m.at k ≠ 0) : nzK m = some k := by
  match k, hk with
  | 0, _ => simp only [Mass.at] at h; simp [nzK, h]
  | 1, _ => have h0 := hz 0 (by omega); simp only [Mass.at] at h h0; simp [nzK, h, h0]
  | 2, _ => have h0 := hz 0 (by omega); have h1 := hz 1 (by omega); simp only [Mass.at] at h h0 h1; simp [nzK, h, h0, h1]
  | 3, _ => have h0 := hz 0 (by omega); have h1 := hz 1 (by omega); have h2 := hz 2 (by omega); simp only [Mass.at] at h h0 h1 h2; simp [nzK, h, h0, h1, h2]
theorem nzK_zero {m : Mass} (h : ∀ j, j < 4 → m.at j = 0) : nzK m = none := by
  have h0 := h 0 (by omega); have h1 := h 1 (by omega); have h2 := h 2 (by omega); have h3 := h 3 (by omega)
  simp only [Mass.at] at h0 h1 h2 h3
  simp [nzK, h0, h1, h2, h3]
theorem nzK_some {m : Mass} {k : Nat} (h : nzK m = some k) : k < 4 ∧ m.at k ≠ 0 := by
  unfold nzK at h
  repeat' split at h
  all_goals first | (cases h; done) | (cases h; exact ⟨by omega, by simp_all [Mass.at]⟩)
/-- What proves that there is no balance, if it is part k. -/
def provAt (rt : Int → Int) (fs : List FlowD) (n k : Nat) : Option (List Int × Nat) :=
  if isLead rt n k = true then (nzK (excM (clsN rt k n) fs)).map fun j => (clsN rt k n, j) else none
def provF (rt : Int → Int) (fs : List FlowD) (n : Nat) : Nat → Nat → Option (List Int × Nat)
  | 0, _ => none
  | c + 1, k => match provAt rt fs n k with
    | some p => some p
    | none => provF rt fs n c (k + 1)
theorem provF_none {rt : Int → Int} {fs : List FlowD} {n : Nat} : ∀ {c k : Nat}, (∀ j, k ≤ j → j < k + c → provAt rt fs n j = none) → provF rt fs n c k = none
  | 0, _, _ => rfl
  | c + 1, k, h => by
    unfold provF
    rw [h k (Nat.le_refl _) (by omega)]
    exact provF_none fun j h1 h2 => h j (by omega) (by omega)
theorem provF_at {rt : Int → Int} {fs : List FlowD} {n : Nat} {p : List Int × Nat} : ∀ {c i k : Nat}, (∀ j, i ≤ j → j < k → provAt rt fs n j = none) → i ≤ k → k < i + c → provAt rt fs n k = some p → provF rt fs n c i = some p
  | 0, _, _, _, h1, h2, _ => by omega
  | c + 1, i, k, h, h1, h2, hp => by
    unfold provF
    by_cases e : i = k
    · subst e; rw [hp]
    · rw [h i (Nat.le_refl _) (by omega)]
      exact provF_at (fun j a b => h j (by omega) b) (by omega) (by omega) hp
theorem provF_some {rt : Int → Int} {fs : List FlowD} {n : Nat} {p : List Int × Nat} : ∀ {c i : Nat}, provF rt fs n c i = some p → ∃ k, k < i + c ∧ provAt rt fs n k = some p
  | 0, _, h => by cases h
  | c + 1, i, h => by
    unfold provF at h
    split at h
    · rename_i q hq; cases h; exact ⟨i, by omega, hq⟩
    · obtain ⟨k, h1, h2⟩ := provF_some h; exact ⟨k, by omega, h2⟩
/-- What is found: units, kind and error. -/
def proveR (u : Int) (fs : List FlowD) : List Int × Int × Int :=
  if checkErr u fs ≠ 0 then ([], 0, checkErr u fs) else match provF (rtF (-1) fs 0 id) fs u.toNat u.toNat 0 with
    | some p => (p.1, p.2, 0)
    | none => ([], 0, 5)
def leakB (xs : List Int) (f : FlowD) : Bool := !f.me && (decide (f.fr ∈ xs) != decide (f.to ∈ xs))
def refutesR (u : Int) (fs : List FlowD) (xs : List Int) (kind : Int) : Int :=
  if unitsErr u fs xs ≠ 0 then unitsErr u fs xs else if kind < 0 ∨ 4 ≤ kind then 18 else if (excM xs fs).at kind.toNat = 0 ∨ fs.any (leakB xs) = true then 11 else 0
theorem uni_same {rt : Int → Int} {a b x y : Int} (h : rt x = rt y) : uni rt a b x = uni rt a b y := by
  unfold uni
  split
  · exact h
  · simp only [h]
theorem uni_ends (rt : Int → Int) (a b : Int) : uni rt a b a = uni rt a b b := by
  unfold uni
  by_cases h : rt a = rt b
  · rw [if_pos h]; exact h
  · rw [if_neg h]
    simp only [if_true]
    rw [if_neg (fun q => h q.symm)]
theorem rtF_same (lo : Int) {x y : Int} : ∀ (fs : List FlowD) (i : Nat) (rt : Int → Int), rt x = rt y → rtF lo fs i rt x = rtF lo fs i rt y
  | [], _, _, h => h
  | f :: r, i, rt, h => by
    unfold rtF
    refine rtF_same lo r (i + 1) _ ?_
    split
    · exact uni_same h
    · exact h
theorem rtF_ends (lo : Int) : ∀ (fs : List FlowD) (i : Nat) (rt : Int → Int) (k : Nat) (f : FlowD), fs[k]? = some f → f.me = false → ((i + k : Nat) : Int) ≠ lo → rtF lo fs i rt f.fr = rtF lo fs i rt f.to
  | [], _, _, _, _, h, _, _ => by simp at h
  | g :: r, i, rt, 0, f, h, hm, hl => by
    simp at h; subst h
    unfold rtF
    rw [if_pos ⟨hm, hl⟩]
    exact rtF_same lo r (i + 1) _ (uni_ends rt g.fr g.to)
  | g :: r, i, rt, k + 1, f, h, hm, hl => by
    unfold rtF
    exact rtF_ends lo r (i + 1) _ k f (by simpa using h) hm (by rw [show i + 1 + k = i + (k + 1) by omega]; exact hl)
theorem clsN_sorted (rt : Int → Int) (k n : Nat) : (clsN rt k n).Pairwise (· < ·) := by
  unfold clsN
  rw [List.pairwise_map]
  exact (List.pairwise_lt_range.filter _).imp fun h => by omega
end Go.Proofs.Ytjehpgflhgpalaa
