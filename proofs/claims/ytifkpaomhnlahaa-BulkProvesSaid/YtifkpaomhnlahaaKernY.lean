/-
  Straight code, calls, loops and regions that draw their order, as rules. It holds of every program whose table of types and functions fits (TabOk).
-/
import Derived.Test.YtifkpaomhnlahaaKernX
namespace Go.Proofs.Ytifkpaomhnlahaa.Kern
open Go

/-! ## Runs of straight code, calls, loops -/
section
variable {T : Tab} {rd : Bool} {n : Nat} {f : Fr} {s : St} {Q : Ex → Fr → St → Prop}
def Run (T : Tab) (F : Self → Option (Fr × St)) (Q : Fr → St → Prop) : Prop := Evn T F fun p => Q p.1 p.2
theorem Run.by_eq {F G : Self → Option (Fr × St)} {Q : Fr → St → Prop} (e : ∀ self, G self = F self) (h : Run T F Q) : Run T G Q := Evn.congr h e
theorem Run.ret {f : Fr} {s : St} {Q : Fr → St → Prop} (h : Q f s) : Run T (fun _ => some (f, s)) Q := Evn.ret h
theorem Run.call {g : FuncId} {args : List Value} {s : St} {G : Value × St → Self → Option (Fr × St)} {Q : Fr → St → Prop} (h : Ev T g args s fun v s' => Run T (G (v, s')) Q) : Run T (fun self => ob (self.call g args s) fun p => G p self) Q := Evn.bind h
theorem Run.mono {F : Self → Option (Fr × St)} {Q R : Fr → St → Prop} (h : Run T F Q) (k : ∀ f s, Q f s → R f s) : Run T F R := Evn.mono h fun _ => k _ _
theorem Cd.reg {id : Nat} {ops : Array Oper} {ds : List (Option Tmp)} {L : List SOp} (hc : okOps T n ops = true) (hd : ops.toList.map (·.dst) = ds) (hl : ops.toList.map strip = L) (h : Run T (fun self => stepsF T self ds L f s) fun f s => Q .normal f s) : Cd T rd n (.region id ops false) f s Q := Cd.region hc hd hl h
theorem SeqK.nm {b : Code} (h : Cd T rd n b f s Q) : SeqK T rd n b Q .normal f s := h
theorem SeqK.x {b : Code} {i : Nat} (h : Q (.exit i) f s) : SeqK T rd n b Q (.exit i) f s := h
theorem SeqK.g {b : Code} {i : Nat} (h : Q (.goto i) f s) : SeqK T rd n b Q (.goto i) f s := h
theorem SeqK.r {b : Code} (h : Q .ret f s) : SeqK T rd n b Q .ret f s := h
theorem BlockK.nm {i : Nat} (h : Q .normal f s) : BlockK i Q .normal f s := h
theorem BlockK.same {i : Nat} (h : Q .normal f s) : BlockK i Q (.exit i) f s := by show (if i = i then _ else _); rw [if_pos rfl]; exact h
theorem BlockK.other {i j : Nat} (e : Nat.beq j i = false) (h : Q (.exit j) f s) : BlockK i Q (.exit j) f s := by
  show (if j = i then _ else _); rw [if_neg (fun q => by subst q; simp at e)]; exact h
theorem BlockK.r {i : Nat} (h : Q .ret f s) : BlockK i Q .ret f s := h
theorem BlockK.g {i l : Nat} (h : Q (.goto l) f s) : BlockK i Q (.goto l) f s := h
/-- What a round leaves: the relation again, with a lesser number, or the loop is left. -/
def LoopK (I : Nat → Fr → St → Prop) (m : Nat) (Q : Ex → Fr → St → Prop) : Ex → Fr → St → Prop
  | .normal, f, s => ∃ m', m' < m ∧ I m' f s
  | .exit i, f, s => Q (.exit i) f s
  | .goto l, f, s => Q (.goto l) f s
  | .ret, f, s => Q .ret f s
theorem LoopK.nm {I : Nat → Fr → St → Prop} {m : Nat} (m' : Nat) (h1 : m' < m) (h : I m' f s) : LoopK I m Q .normal f s := ⟨m', h1, h⟩
theorem LoopK.x {I : Nat → Fr → St → Prop} {m i : Nat} (h : Q (.exit i) f s) : LoopK I m Q (.exit i) f s := h
theorem LoopK.r {I : Nat → Fr → St → Prop} {m : Nat} (h : Q .ret f s) : LoopK I m Q .ret f s := h
theorem LoopK.g {I : Nat → Fr → St → Prop} {m l : Nat} (h : Q (.goto l) f s) : LoopK I m Q (.goto l) f s := h
theorem Cd.inv {c : Code} (I : Nat → Fr → St → Prop) (m : Nat) (h0 : I m f s) (step : ∀ m f s, I m f s → Cd T rd n c f s (LoopK I m Q)) : Cd T rd n (.loop c) f s Q := by
  induction m using Nat.strongRecOn generalizing f s with
  | _ m ih =>
    refine Cd.loop ((step m f s h0).mono fun e f s h => ?_)
    cases e with
    | normal => obtain ⟨m', h1, h2⟩ := h; exact ih m' h1 h2
    | exit i => exact h
    | goto l => exact h
    | ret => exact h
end

theorem Leave.mk {T : Tab} {rs : List ResultVar} {Q : Value → St → Prop} {e : Ex} {f : Fr} {s : St} {vs : List Value} (he : e = .normal ∨ e = .ret) (hm : f.marks = []) (hv : resF T f s rs = some vs) (hq : Q (tupled vs) s) : Leave T rs Q e f s := ⟨he, s, by rw [hm]; rfl, vs, hv, hq⟩
theorem Leave.one {T : Tab} {rs : List ResultVar} {Q : Value → St → Prop} {e : Ex} {f : Fr} {s : St} {vs : List Value} {m : Nat} (he : e = .normal ∨ e = .ret) (hm : f.marks = [m]) (hg : s.heap.get m = some (.deferred true)) (hv : resF T f (s.upded m .dead) rs = some vs) (hq : Q (tupled vs) (s.upded m .dead)) : Leave T rs Q e f s := by
  refine ⟨he, s.upded m .dead, ?_, vs, hv, hq⟩
  rw [hm]
  show ob (s.heap.get m) (fun o => gd (isLive o) (ob (s.upd m .dead) fun s => some s)) = _
  rw [hg]
  show ob (gd (bt (romAt s.heap m) false true) _) _ = _
  rw [romAt_some hg]; rfl

theorem Cd.ite {T : Tab} {rd : Bool} {n : Nat} {f : Fr} {s : St} {Q : Ex → Fr → St → Prop} {o : Operand} {a b : Code} {x : Bool} (hc : constOk o = true) (hx : f.eval o = .bool x) (h1 : x = true → Cd T rd n a f s Q) (h2 : x = false → Cd T rd n b f s Q) : Cd T rd n (.cond o a b) f s Q := Cd.cond x hc hx h1 h2

/-! ## Loops over functions -/
section
variable {T : Tab} {n : Nat} {f : Fr} {s : St} {Q : Ex → Fr → St → Prop}
theorem Cd.range {g : Operand} {ps : Array Tmp} {assign body : Code} {gi : FuncId} {first captured : Array Value} (hc : constOk g = true) (hfv : f.eval g = .func (.func gi) first captured)
    (h : Ev T gi (first.toList ++ [.func (.yield (s.next + 1)) #[] #[]] ++ captured.toList) ((s.pushed (.deferred true)).pushed (.loop ⟨true, none, n, f.tmps, ps.toList, assign, body⟩)) fun _ s' => ∃ r, s'.heap.get (s.next + 1) = some (.loop r) ∧ r.ready = true ∧ r.jump = none ∧ Q .normal ⟨f.tmps, s.next :: f.marks⟩ (s'.upded (s.next + 1) .dead)) :
    Cd T false n (.rangeFunc g ps assign body) f s Q := by
  refine Evn.code ?_
  obtain ⟨m, ⟨v, s'⟩, h1, r, h2, h3, h4, h5⟩ := h
  refine ⟨m, (.normal, ⟨f.tmps, s.next :: f.marks⟩, s'.upded (s.next + 1) .dead), fun k hk => ?_, h5⟩
  show gd true (gd (constOk g) (ob (s.push (.deferred true)) fun s1 => ob (s1.push (.loop ⟨true, none, n, f.tmps, ps.toList, assign, body⟩)) fun s2 => ob (funcOf (f.eval g)) fun q => ob ((run T k).call q.1 (q.2.1 ++ [.func (.yield s1.next) #[] #[]] ++ q.2.2) s2) fun p => cEnd (run T k) n s1.next s.next f p.2)) = _
  rw [hc, hfv]
  show ob ((run T k).call gi (first.toList ++ [.func (.yield (s.next + 1)) #[] #[]] ++ captured.toList) ((s.pushed (.deferred true)).pushed (.loop ⟨true, none, n, f.tmps, ps.toList, assign, body⟩))) (fun p => cEnd (run T k) n (s.next + 1) s.next f p.2) = _
  rw [show (run T k).call gi _ _ = some (v, s') from h1 k hk]
  show ob (ob (s'.heap.get (s.next + 1)) loopOf) (fun r => gd (r.ready || r.jump.isSome) (ob (s'.upd (s.next + 1) .dead) fun s2 => cJump (run T k) n r.jump ⟨f.tmps, s.next :: f.marks⟩ s2)) = _
  rw [h2]
  show gd (r.ready || r.jump.isSome) _ = _
  rw [h3]
  show ob (gd (bt (romAt s'.heap (s.next + 1)) false true) _) (fun s2 => cJump (run T k) n r.jump ⟨f.tmps, s.next :: f.marks⟩ s2) = _
  rw [romAt_some h2, h4]
  rfl
theorem callV_yield {self : Self} (l : Nat) (args : List Value) (s : St) : callV self (.func (.yield l) #[] #[]) args s = exRound self l args s := rfl
/-- A round. -/
theorem Evn.round {l : Nat} {args : List Value} {r : ALoop} {P : Value × St → Prop} (hl : s.heap.get l = some (.loop r))
    (ha : (Nat.beq (lenL args) (lenL r.params) && r.params.all (fun t => Nat.blt t r.n) && Nat.blt r.n top) = true)
    (h : Cd T true r.n r.assign (putAll r.params args ⟨r.tmps, []⟩) s fun e f1 s1 => e = .normal ∧ ∃ r1, s1.heap.get l = some (.loop r1) ∧ r1.ready = true ∧ r1.jump = none ∧
      Cd T true r.n r.body f1 (s1.upded l (.loop ⟨false, none, r1.n, r1.tmps, r1.params, r1.assign, r1.body⟩)) fun e _ s3 => e = .normal ∧ ∃ r2, s3.heap.get l = some (.loop r2) ∧ P (.bool true, s3.upded l (.loop ⟨true, none, r2.n, r2.tmps, r2.params, r2.assign, r2.body⟩))) :
    Evn T (fun self => exRound self l args s) P := by
  obtain ⟨m, ⟨e, f1, s1⟩, k1, rfl, r1, k2, k3, k4, m2, ⟨e2, f2, s3⟩, k5, rfl, r2, k6, k7⟩ := h
  refine ⟨max m m2, _, fun k hk => ?_, k7⟩
  show ob (ob (s.heap.get l) loopOf) _ = _
  rw [hl]
  show gd _ (ob ((run T k).code true r.n r.assign (putAll r.params args ⟨r.tmps, []⟩) s) _) = _
  rw [ha, show (run T k).code true r.n r.assign (putAll r.params args ⟨r.tmps, []⟩) s = some (.normal, f1, s1) from k1 k (by omega)]
  show gd true (ob (ob (s1.heap.get l) loopOf) fun r1 => gd (r1.ready && r1.jump.isNone) (ob (s1.upd l (.loop ⟨false, none, r1.n, r1.tmps, r1.params, r1.assign, r1.body⟩)) fun s => exBody (run T k) l r f1 s)) = _
  rw [k2]
  show gd (r1.ready && r1.jump.isNone) (ob (gd (bt (romAt s1.heap l) false true) _) _) = _
  rw [k3, k4, romAt_some k2]
  show ob ((run T k).code true r.n r.body f1 (s1.upded l (.loop ⟨false, none, r1.n, r1.tmps, r1.params, r1.assign, r1.body⟩))) _ = _
  rw [show (run T k).code true r.n r.body f1 (s1.upded l (.loop ⟨false, none, r1.n, r1.tmps, r1.params, r1.assign, r1.body⟩)) = some (.normal, f2, s3) from k5 k (by omega)]
  show ob (ob (s3.heap.get l) loopOf) (fun r2 => ob (s3.upd l (.loop ⟨true, none, r2.n, r2.tmps, r2.params, r2.assign, r2.body⟩)) fun s => some (Value.bool true, s)) = _
  rw [k6]
  show ob (gd (bt (romAt s3.heap l) false true) _) _ = _
  rw [romAt_some k6]; rfl
/-- A round that may leave the loop. -/
theorem Evn.roundJ {l : Nat} {args : List Value} {r : ALoop} {P : Value × St → Prop} (hl : s.heap.get l = some (.loop r))
    (ha : (Nat.beq (lenL args) (lenL r.params) && r.params.all (fun t => Nat.blt t r.n) && Nat.blt r.n top) = true)
    (h : Cd T true r.n r.assign (putAll r.params args ⟨r.tmps, []⟩) s fun e f1 s1 => e = .normal ∧ ∃ r1, s1.heap.get l = some (.loop r1) ∧ r1.ready = true ∧ r1.jump = none ∧
      Cd T true r.n r.body f1 (s1.upded l (.loop ⟨false, none, r1.n, r1.tmps, r1.params, r1.assign, r1.body⟩)) fun e _ s3 => ∃ r2, s3.heap.get l = some (.loop r2) ∧ P (.bool (jumpOf e).isNone, s3.upded l (.loop ⟨(jumpOf e).isNone, jumpOf e, r2.n, r2.tmps, r2.params, r2.assign, r2.body⟩))) :
    Evn T (fun self => exRound self l args s) P := by
  obtain ⟨m, ⟨e, f1, s1⟩, k1, rfl, r1, k2, k3, k4, m2, ⟨e2, f2, s3⟩, k5, r2, k6, k7⟩ := h
  refine ⟨max m m2, _, fun k hk => ?_, k7⟩
  show ob (ob (s.heap.get l) loopOf) _ = _
  rw [hl]
  show gd _ (ob ((run T k).code true r.n r.assign (putAll r.params args ⟨r.tmps, []⟩) s) _) = _
  rw [ha, show (run T k).code true r.n r.assign (putAll r.params args ⟨r.tmps, []⟩) s = some (.normal, f1, s1) from k1 k (by omega)]
  show gd true (ob (ob (s1.heap.get l) loopOf) fun r1 => gd (r1.ready && r1.jump.isNone) (ob (s1.upd l (.loop ⟨false, none, r1.n, r1.tmps, r1.params, r1.assign, r1.body⟩)) fun s => exBody (run T k) l r f1 s)) = _
  rw [k2]
  show gd (r1.ready && r1.jump.isNone) (ob (gd (bt (romAt s1.heap l) false true) _) _) = _
  rw [k3, k4, romAt_some k2]
  show ob ((run T k).code true r.n r.body f1 (s1.upded l (.loop ⟨false, none, r1.n, r1.tmps, r1.params, r1.assign, r1.body⟩))) _ = _
  rw [show (run T k).code true r.n r.body f1 (s1.upded l (.loop ⟨false, none, r1.n, r1.tmps, r1.params, r1.assign, r1.body⟩)) = some (e2, f2, s3) from k5 k (by omega)]
  show ob (ob (s3.heap.get l) loopOf) (fun r2 => ob (s3.upd l (.loop ⟨(jumpOf e2).isNone, jumpOf e2, r2.n, r2.tmps, r2.params, r2.assign, r2.body⟩)) fun s => some (Value.bool (jumpOf e2).isNone, s)) = _
  rw [k6]
  show ob (gd (bt (romAt s3.heap l) false true) _) _ = _
  rw [romAt_some k6]; rfl
/-- A loop over a function that may be left. -/
theorem Cd.rangeJ {g : Operand} {ps : Array Tmp} {assign body : Code} {gi : FuncId} {first captured : Array Value} (hc : constOk g = true) (hfv : f.eval g = .func (.func gi) first captured)
    (h : Ev T gi (first.toList ++ [.func (.yield (s.next + 1)) #[] #[]] ++ captured.toList) ((s.pushed (.deferred true)).pushed (.loop ⟨true, none, n, f.tmps, ps.toList, assign, body⟩)) fun _ s' => ∃ r, s'.heap.get (s.next + 1) = some (.loop r) ∧
      ((r.ready = true ∧ r.jump = none ∧ Q .normal ⟨f.tmps, s.next :: f.marks⟩ (s'.upded (s.next + 1) .dead)) ∨ (r.jump = some .ret ∧ Q .ret ⟨f.tmps, s.next :: f.marks⟩ (s'.upded (s.next + 1) .dead)) ∨ ∃ i, r.jump = some (.exit i) ∧ Q (.exit i) ⟨f.tmps, s.next :: f.marks⟩ (s'.upded (s.next + 1) .dead))) :
    Cd T false n (.rangeFunc g ps assign body) f s Q := by
  refine Evn.code ?_
  obtain ⟨m, ⟨v, s'⟩, h1, r, h2, h3⟩ := h
  have key : ∀ (e : Ex) (k : Nat), m ≤ k → (r.ready || r.jump.isSome) = true → cJump (run T k) n r.jump ⟨f.tmps, s.next :: f.marks⟩ (s'.upded (s.next + 1) .dead) = some (e, ⟨f.tmps, s.next :: f.marks⟩, s'.upded (s.next + 1) .dead) → codeF T (run T k) false n (.rangeFunc g ps assign body) f s = some (e, ⟨f.tmps, s.next :: f.marks⟩, s'.upded (s.next + 1) .dead) := fun e k hk hj he => by
    show gd true (gd (constOk g) (ob (s.push (.deferred true)) fun s1 => ob (s1.push (.loop ⟨true, none, n, f.tmps, ps.toList, assign, body⟩)) fun s2 => ob (funcOf (f.eval g)) fun q => ob ((run T k).call q.1 (q.2.1 ++ [.func (.yield s1.next) #[] #[]] ++ q.2.2) s2) fun p => cEnd (run T k) n s1.next s.next f p.2)) = _
    rw [hc, hfv]
    show ob ((run T k).call gi (first.toList ++ [.func (.yield (s.next + 1)) #[] #[]] ++ captured.toList) ((s.pushed (.deferred true)).pushed (.loop ⟨true, none, n, f.tmps, ps.toList, assign, body⟩))) (fun p => cEnd (run T k) n (s.next + 1) s.next f p.2) = _
    rw [show (run T k).call gi _ _ = some (v, s') from h1 k hk]
    show ob (ob (s'.heap.get (s.next + 1)) loopOf) (fun r => gd (r.ready || r.jump.isSome) (ob (s'.upd (s.next + 1) .dead) fun s2 => cJump (run T k) n r.jump ⟨f.tmps, s.next :: f.marks⟩ s2)) = _
    rw [h2]
    show gd (r.ready || r.jump.isSome) _ = _
    rw [hj]
    show ob (gd (bt (romAt s'.heap (s.next + 1)) false true) _) (fun s2 => cJump (run T k) n r.jump ⟨f.tmps, s.next :: f.marks⟩ s2) = _
    rw [romAt_some h2]
    exact he
  rcases h3 with ⟨h3, h4, h5⟩ | ⟨h4, h5⟩ | ⟨i, h4, h5⟩
  · exact ⟨m, _, fun k hk => key .normal k hk (by rw [h3]; rfl) (by rw [h4]; rfl), h5⟩
  · refine ⟨m + 1, _, fun k hk => key .ret k (by omega) (by rw [h4]; simp) ?_, h5⟩
    obtain ⟨j, rfl⟩ : ∃ j, k = j + 1 := ⟨k - 1, by omega⟩
    rw [h4]; rfl
  · refine ⟨m + 1, _, fun k hk => key (.exit i) k (by omega) (by rw [h4]; simp) ?_, h5⟩
    obtain ⟨j, rfl⟩ : ∃ j, k = j + 1 := ⟨k - 1, by omega⟩
    rw [h4]; rfl
/-- A call of a function value, in straight code. -/
theorem Run.callV {fv : Value} {args : List Value} {G : Value × St → Self → Option (Fr × St)} {R : Fr → St → Prop} (h : Evn T (fun self => callV self fv args s) fun p => Run T (G p) R) : Run T (fun self => ob (Kern.callV self fv args s) fun p => G p self) R := Evn.bind h
end

/-! ## Slices in memory -/
/-- A slice whose elements have n cells each. -/
inductive SlAt (n : Nat) (s : St) : Value → List (List Value) → Prop
  | nil (c : Nat) : SlAt n s (.slice none 0 c) []
  | mk {b off c : Nat} {o : AObj} {cs : List Value} {g : Option Nat} {l : List (List Value)} (hb : b < s.next) (ho : s.heap.get b = some o) (hc : cellsOf o = some (cs, g)) (he : ∀ i e, l[i]? = some e → takeL n (cs.drop (off + i * n)) = some e) : SlAt n s (.slice (some ⟨b, off, none⟩) l.length c) l
theorem SlAt.keep {n : Nat} {s s' : St} {v : Value} {l : List (List Value)} (hk : Keep s s') (h : SlAt n s v l) : SlAt n s' v l := by
  cases h with
  | nil c => exact .nil c
  | mk hb ho hc he => exact .mk (Nat.lt_of_lt_of_le hb hk.1) ((hk.2 _ hb).trans ho) hc he
theorem SlAt.shape {n : Nat} {s : St} {v : Value} {l : List (List Value)} (h : SlAt n s v l) : ∃ a c, v = .slice a l.length c := by
  cases h with
  | nil c => exact ⟨none, c, rfl⟩
  | mk hb ho hc he => exact ⟨_, _, rfl⟩
theorem SlAt.at {n : Nat} {s : St} {a : Option Addr} {m c : Nat} {l : List (List Value)} (h : SlAt n s (.slice a m c) l) {k : Nat} {e : List Value} (hk : l[k]? = some e) :
    ∃ b off o cs g, a = some ⟨b, off, none⟩ ∧ b < s.next ∧ s.heap.get b = some o ∧ cellsOf o = some (cs, g) ∧ takeL n (cs.drop (off + k * n)) = some e := by
  cases h with
  | nil c => simp at hk
  | mk hb ho hc he => exact ⟨_, _, _, _, _, rfl, hb, ho, hc, he k e hk⟩
theorem SlAt.len {n : Nat} {s : St} {a : Option Addr} {m c : Nat} {l : List (List Value)} (h : SlAt n s (.slice a m c) l) : m = l.length := by
  cases h <;> rfl
theorem takeL_one {cs : List Value} {x : Value} (h : takeL 1 cs = some [x]) : cs[0]? = some x := by
  cases cs with
  | nil => cases h
  | cons y r => cases h; rfl

/-! ## Regions that draw their order -/
section
variable (T : Tab)
structure DRec where
  idx : Nat
  nw : Bool
  oper : SOp
  fr : Fr
  val : Value
  at_ : Nat
noncomputable def itemD (self : Self) (ds : List (Option Tmp)) (o : SOp) (f : Fr) (s : St) : Option (Value × St) := bt (wantS ds f o.g) (actO T self o.op f s) (some (undef, s))
noncomputable def isNewA (a : CAct) : Bool := CAct.rec (motive := fun _ => Bool) (fun _ => false) (fun _ => true) (fun _ => false) a
noncomputable def valEq : Option (Value × St) → Value → Bool
  | some p, v => veq 5 p.1 v
  | none, _ => false
noncomputable def objEq : Option AObj → Option AObj → Bool
  | some a, some b => oeq a b
  | _, _ => false
noncomputable def newObj (op : Op) (f : Fr) : Option AObj := match compOp T op with
  | some (.new g) => (g f.eval).map (·.1)
  | _ => none
/-- Would it do the same now? -/
noncomputable def recD (self : Self) (ds : List (Option Tmp)) (s : St) (r : DRec) : Bool :=
  bt (wantS ds r.fr r.oper.g) (bt r.nw (objEq (s.heap.get r.at_) (newObj T r.oper.op r.fr)) (valEq (actO T self r.oper.op r.fr s) r.val)) true
noncomputable def stepD (self : Self) (ds : List (Option Tmp)) : List (Nat × Nat × Bool × Bool × SOp) → List DRec → Fr → St → Option (Fr × St)
  | [], pend, f, s => gd (pend.all (recD T self ds s)) (some (f, s))
  | (i, m, h, nw, o) :: r, pend, f, s => bt h
      (gd (pend.all (recD T self ds s)) (ob (itemD T self ds o f s) fun p => stepD self ds r (pend.filter fun q => !m.testBit q.idx) (f.put o.d p.1) p.2))
      (ob (itemD T self ds o f s) fun p => stepD self ds r (⟨i, nw, o, f, p.1, s.next⟩ :: pend) (f.put o.d p.1) p.2)
end
section
variable {T : Tab} {self : Self} {all : List Oper}
/-- An item is made of the operation that it names. -/
def ItemIs (T : Tab) (all : List Oper) (x : PItem) : Prop := guardOf all x.oper = some x.op.guard ∧ x.op.dst = x.oper.dst ∧ comp T x.oper = some x.op.act
def RecMade (r : PRec × Nat) : Prop := wantedF r.1.item.op.guard r.1.fr = true → ∀ g, r.1.item.op.act = .new g → ∃ p, r.1.made = some (r.2, p.1) ∧ g r.1.fr.eval = some p
noncomputable def recOf (r : PRec × Nat) : DRec := ⟨r.1.item.idx, isNewA r.1.item.op.act, strip r.1.item.oper, r.1.fr, r.1.val, r.2⟩
theorem planF_items {n : Nat} : ∀ {l : List (Nat × Oper)} {acc L : List PItem}, planF T n all l acc = some L → ∀ x ∈ L, ItemIs T all x
  | [], _, _, h, x, hx => by cases h; cases hx
  | p :: r, acc, L, h, x, hx => by
    obtain ⟨_, h1⟩ := gd_eq h
    obtain ⟨g, h2, h3⟩ := ob_eq h1
    obtain ⟨a, h4, h5⟩ := ob_eq h3
    obtain ⟨l, h6, h7⟩ := ob_eq h5
    cases h7
    cases hx with
    | head => exact ⟨h2, rfl, h4⟩
    | tail _ hx => exact planF_items h6 x hx
theorem itemD_eq {x : PItem} (h : ItemIs T all x) (f : Fr) (s : St) : itemD T self (all.map (·.dst)) (strip x.oper) f s = itemF self x f s := by
  unfold itemD itemF actO strip
  simp only []
  rw [wantS_eq h.1, ← compOp_eq, h.2.2]; rfl
theorem recD_eq {r : PRec × Nat} (h : ItemIs T all r.1.item) (hm : RecMade r) (hl : heavyA r.1.item.op.act = false) (s : St) (hr : recD T self (all.map (·.dst)) s (recOf r) = true) : recOk s r.1 = true := by
  unfold recD recOf strip at hr
  unfold recOk
  simp only [] at hr
  rw [wantS_eq h.1] at hr
  cases hw : wantedF r.1.item.op.guard r.1.fr with
  | false => rfl
  | true =>
    rw [hw] at hr
    simp only [bt_true] at hr ⊢
    unfold newObj actO at hr
    rw [← compOp_eq, h.2.2] at hr
    cases ha : r.1.item.op.act with
    | pure g =>
      rw [ha] at hr
      change bt false _ (valEq (ob (g r.1.fr.eval s.heap) fun v => some (v, s)) r.1.val) = true at hr
      rw [bt_false] at hr
      show Option.rec (motive := fun _ => Bool) false (fun v => veq 5 v r.1.val) (g r.1.fr.eval s.heap) = true
      cases hg : g r.1.fr.eval s.heap with
      | none => rw [hg] at hr; cases hr
      | some v => rw [hg] at hr; exact hr
    | new g =>
      rw [ha] at hr
      obtain ⟨p, h1, h2⟩ := hm hw g ha
      change bt true (objEq (s.heap.get r.2) ((g r.1.fr.eval).map (·.1))) _ = true at hr
      rw [h2, bt_true] at hr
      show Option.rec (motive := fun _ => Bool) false (fun p => Option.rec (motive := fun _ => Bool) false (fun o => oeq o p.2) (s.heap.get p.1)) r.1.made = true
      rw [h1]
      show Option.rec (motive := fun _ => Bool) false (fun o' => oeq o' p.1) (s.heap.get r.2) = true
      change objEq (s.heap.get r.2) (some p.1) = true at hr
      cases hs : s.heap.get r.2 with
      | none => rw [hs] at hr; cases hr
      | some o' => rw [hs] at hr; exact hr
    | act g => rw [ha] at hl; cases hl
theorem all_rec {pend : List (PRec × Nat)} (hp : ∀ r ∈ pend, ItemIs T all r.1.item ∧ RecMade r ∧ heavyA r.1.item.op.act = false) {s : St} (h : (pend.map recOf).all (recD T self (all.map (·.dst)) s) = true) : (pend.map (·.1)).all (recOk s) = true := by
  rw [List.all_eq_true] at h ⊢
  intro r hr
  obtain ⟨q, hq, rfl⟩ := List.mem_map.1 hr
  obtain ⟨h1, h2, h3⟩ := hp q hq
  exact recD_eq h1 h2 h3 s (h _ (List.mem_map_of_mem hq))
theorem stepD_run : ∀ {L : List PItem} {pend : List (PRec × Nat)} {f : Fr} {s : St} {q : Fr × St}, (∀ x ∈ L, ItemIs T all x) → (∀ r ∈ pend, ItemIs T all r.1.item ∧ RecMade r ∧ heavyA r.1.item.op.act = false) →
    stepD T self (all.map (·.dst)) (L.map fun x => (x.idx, x.mask, heavyA x.op.act, isNewA x.op.act, strip x.oper)) (pend.map recOf) f s = some q → planRun self L (pend.map (·.1)) f s = some q
  | [], pend, f, s, q, _, hp, h => by
    obtain ⟨h1, h2⟩ := gd_eq h
    show gd ((pend.map (·.1)).all (recOk s)) (some (f, s)) = some q
    rw [all_rec hp h1]; exact h2
  | x :: r, pend, f, s, q, hL, hp, h => by
    have hx := hL x (.head _)
    have hr := fun y hy => hL y (.tail _ hy)
    change bt (heavyA x.op.act) (gd ((pend.map recOf).all (recD T self (all.map (·.dst)) s)) (ob (itemD T self (all.map (·.dst)) (strip x.oper) f s) fun p => stepD T self (all.map (·.dst)) (r.map _) ((pend.map recOf).filter fun q => !x.mask.testBit q.idx) (f.put x.oper.dst p.1) p.2))
      (ob (itemD T self (all.map (·.dst)) (strip x.oper) f s) fun p => stepD T self (all.map (·.dst)) (r.map _) (⟨x.idx, isNewA x.op.act, strip x.oper, f, p.1, s.next⟩ :: pend.map recOf) (f.put x.oper.dst p.1) p.2) = some q at h
    show bt (heavyA x.op.act) (gd ((pend.map (·.1)).all (recOk s)) (ob (itemF self x f s) fun p => planRun self r ((pend.map (·.1)).filter fun r => !x.mask.testBit r.item.idx) (f.put x.op.dst p.1) p.2))
      (ob (itemF self x f s) fun p => planRun self r (⟨x, f, p.1, madeF x f s⟩ :: pend.map (·.1)) (f.put x.op.dst p.1) p.2) = some q
    rw [itemD_eq hx] at h
    rw [hx.2.1]
    cases hh : heavyA x.op.act with
    | true =>
      rw [hh] at h
      obtain ⟨h1, h2⟩ := gd_eq h
      obtain ⟨p, h3, h4⟩ := ob_eq h2
      show gd ((pend.map (·.1)).all (recOk s)) _ = _
      rw [all_rec hp h1, h3]
      rw [List.filter_map] at h4
      show planRun self r ((pend.map (·.1)).filter fun r => !x.mask.testBit r.item.idx) _ _ = _
      rw [List.filter_map]
      exact stepD_run (pend := pend.filter fun q => !x.mask.testBit q.1.item.idx) hr (fun r' hr' => hp r' (List.mem_filter.1 hr').1) h4
    | false =>
      rw [hh] at h
      obtain ⟨p, h3, h4⟩ := ob_eq h
      show ob (itemF self x f s) _ = _
      rw [h3]
      refine stepD_run (pend := (⟨x, f, p.1, madeF x f s⟩, s.next) :: pend) hr (fun r' hr' => ?_) h4
      cases hr' with
      | head =>
        refine ⟨hx, fun hw g hg => ?_, hh⟩
        change wantedF x.op.guard f = true at hw
        change x.op.act = .new g at hg
        unfold itemF at h3
        rw [hw] at h3
        change actF self x.op.act f s = some p at h3
        rw [hg] at h3
        obtain ⟨u, h5, h6⟩ := ob_eq (show ob (g f.eval) (fun p => exNew s p.1 p.2) = some p from h3)
        exact ⟨u, by show madeF x f s = _; unfold madeF; rw [hg]; show ob (g f.eval) _ = _; rw [h5]; rfl, h5⟩
      | tail _ hr' => exact hp r' hr'
variable {rd : Bool} {n : Nat} {f : Fr} {s : St} {Q : Ex → Fr → St → Prop}
/-- The order in which a region is calculated: each operation's number, and what lies ahead of it. -/
noncomputable def planL (T : Tab) (n : Nat) (ops : Array Oper) : Option (List (Nat × Nat × Bool × Bool)) := ob (plan T n ops) fun l => some (l.map fun x => (x.idx, x.mask, heavyA x.op.act, isNewA x.op.act))
def ordered (ops : List SOp) : List (Nat × Nat × Bool × Bool) → List (Nat × Nat × Bool × Bool × SOp)
  | [] => []
  | (i, m, h, w) :: r => match ops[i]? with
    | some o => (i, m, h, w, o) :: ordered ops r
    | none => ordered ops r
theorem planF_ord {ops : List Oper} : ∀ {l : List (Nat × Oper)} {acc L : List PItem}, planF T n all l acc = some L → (∀ p ∈ l, ops[p.1]? = some p.2) → ordered (ops.map strip) (L.map fun x => (x.idx, x.mask, heavyA x.op.act, isNewA x.op.act)) = L.map fun x => (x.idx, x.mask, heavyA x.op.act, isNewA x.op.act, strip x.oper)
  | [], _, _, h, _ => by cases h; rfl
  | p :: r, acc, L, h, hp => by
    obtain ⟨_, h1⟩ := gd_eq h
    obtain ⟨g, h2, h3⟩ := ob_eq h1
    obtain ⟨a, h4, h5⟩ := ob_eq h3
    obtain ⟨l, h6, h7⟩ := ob_eq h5
    cases h7
    have ih := planF_ord (ops := ops) h6 fun q hq => hp q (.tail _ hq)
    have hp0 : (ops.map strip)[p.1]? = some (strip p.2) := by rw [List.getElem?_map, hp p (.head _)]; rfl
    simp only [List.map_cons, ordered, hp0, ih]
theorem Cd.drawn {id : Nat} {ops : Array Oper} {pl : List (Nat × Nat × Bool × Bool)} {ds : List (Option Tmp)} {L : List (Nat × Nat × Bool × Bool × SOp)} (hp : planL T n ops = some pl) (hd : ops.toList.map (·.dst) = ds) (hl : ordered (ops.toList.map strip) pl = L) (h : Run T (fun self => stepD T self ds L [] f s) fun f s => Q .normal f s) : Cd T rd n (.region id ops true) f s Q := by
  subst hd; subst hl
  obtain ⟨l, h1, h2⟩ := ob_eq hp
  cases h2
  refine Evn.code ?_
  obtain ⟨m, p, k1, k2⟩ := h
  refine ⟨m, (.normal, p), fun k hk => ?_, k2⟩
  show ob (plan T n ops) (fun l => ob (planRun (run T k) l [] f s) fun p => some (Ex.normal, p)) = _
  rw [h1]
  show ob (planRun (run T k) l [] f s) (fun p => some (Ex.normal, p)) = _
  obtain ⟨l', e1, e2⟩ := ob_eq h1
  obtain ⟨_, e3⟩ := gd_eq e2
  cases e3
  have := planF_ord (ops := ops.toList) e1 (fun p hp => orderF_at _ _ p hp)
  have k1' := k1 k hk
  change stepD T (run T k) (ops.toList.map (·.dst)) (ordered (ops.toList.map strip) (l.map fun x => (x.idx, x.mask, heavyA x.op.act, isNewA x.op.act))) [] f s = some p at k1'
  rw [this] at k1'
  rw [show planRun (run T k) l [] f s = some p from stepD_run (pend := []) (planF_items e1) (fun r hr => by cases hr) k1']
  rfl
end
/-! ### A region of loads and numbers that draws, and one last operation that writes or calls -/
section
variable {T : Tab} {self : Self} {all : List Oper}
noncomputable def stepG (T : Tab) (self : Self) (ds : List (Option Tmp)) : List (Bool × SOp) → Fr → St → Option (Fr × St)
  | [], f, s => some (f, s)
  | (h, o) :: r, f, s => ob (itemD T self ds o f s) fun p => gd (bt h true (veq 5 p.1 p.1)) (stepG T self ds r (f.put o.d p.1) p.2)
def simple : List (Nat × Nat × Bool × Bool) → List Nat → Bool
  | [], _ => true
  | (i, m, h, w) :: r, pend => match h with
    | true => pend.all (fun j => m.testBit j) && simple r []
    | false => !w && simple r (i :: pend)
theorem stepG_run : ∀ {L : List PItem} {pend : List PRec} {f : Fr} {s : St} {q : Fr × St}, (∀ x ∈ L, ItemIs T all x) → pend.all (recOk s) = true →
    simple (L.map fun x => (x.idx, x.mask, heavyA x.op.act, isNewA x.op.act)) (pend.map (·.item.idx)) = true →
    stepG T self (all.map (·.dst)) (L.map fun x => (heavyA x.op.act, strip x.oper)) f s = some q → planRun self L pend f s = some q
  | [], pend, f, s, q, _, hp, _, h => by
    show gd (pend.all (recOk s)) (some (f, s)) = some q
    rw [hp]; exact h
  | x :: r, pend, f, s, q, hL, hp, hs, h => by
    have hx := hL x (.head _)
    have hr := fun y hy => hL y (.tail _ hy)
    obtain ⟨p, h1, h2⟩ := ob_eq (show ob (itemD T self (all.map (·.dst)) (strip x.oper) f s) (fun p => gd (bt (heavyA x.op.act) true (veq 5 p.1 p.1)) (stepG T self (all.map (·.dst)) (r.map _) (f.put x.oper.dst p.1) p.2)) = some q from h)
    obtain ⟨h3, h4⟩ := gd_eq h2
    rw [itemD_eq hx] at h1
    show bt (heavyA x.op.act) (gd (pend.all (recOk s)) (ob (itemF self x f s) fun p => planRun self r (pend.filter fun r => !x.mask.testBit r.item.idx) (f.put x.op.dst p.1) p.2))
      (ob (itemF self x f s) fun p => planRun self r (⟨x, f, p.1, madeF x f s⟩ :: pend) (f.put x.op.dst p.1) p.2) = some q
    rw [hx.2.1, h1]
    simp only [List.map_cons, simple] at hs
    cases hh : heavyA x.op.act with
    | true =>
      rw [hh] at hs
      simp only [Bool.and_eq_true] at hs
      show gd (pend.all (recOk s)) _ = _
      rw [hp]
      have he : pend.filter (fun r => !x.mask.testBit r.item.idx) = [] := by
        rw [List.filter_eq_nil_iff]
        intro a ha
        have := List.all_eq_true.1 hs.1 _ (List.mem_map_of_mem ha)
        simp [this]
      show planRun self r (pend.filter fun r => !x.mask.testBit r.item.idx) _ _ = _
      rw [he]
      exact stepG_run hr rfl hs.2 h4
    | false =>
      rw [hh] at hs h3
      simp only [Bool.and_eq_true, Bool.not_eq_true'] at hs
      have hsame : p.2 = s ∧ recOk s ⟨x, f, p.1, madeF x f s⟩ = true := by
        unfold itemF at h1
        unfold recOk
        simp only []
        cases hw : wantedF x.op.guard f with
        | false => rw [hw] at h1; cases h1; exact ⟨rfl, rfl⟩
        | true =>
          rw [hw] at h1
          simp only [bt_true] at h1 ⊢
          cases ha : x.op.act with
          | pure g =>
            rw [ha] at h1
            obtain ⟨v, k1, k2⟩ := ob_eq (show ob (g f.eval s.heap) (fun v => some (v, s)) = some p from h1)
            cases k2
            refine ⟨rfl, ?_⟩
            show Option.rec (motive := fun _ => Bool) false (fun v' => veq 5 v' v) (g f.eval s.heap) = true
            rw [k1]; exact h3
          | new g => rw [ha] at hs; cases hs.1
          | act g => rw [ha] at hh; cases hh
      show planRun self r (⟨x, f, p.1, madeF x f s⟩ :: pend) _ _ = _
      refine stepG_run hr ?_ hs.2 h4
      rw [hsame.1, List.all_cons, hsame.2, hp]; rfl
variable {rd : Bool} {n : Nat} {f : Fr} {s : St} {Q : Ex → Fr → St → Prop}
def orderedG (ops : List SOp) : List (Nat × Nat × Bool × Bool) → List (Bool × SOp)
  | [] => []
  | (i, _, h, _) :: r => match ops[i]? with
    | some o => (h, o) :: orderedG ops r
    | none => orderedG ops r
theorem planF_ordG {ops : List Oper} : ∀ {l : List (Nat × Oper)} {acc L : List PItem}, planF T n all l acc = some L → (∀ p ∈ l, ops[p.1]? = some p.2) → orderedG (ops.map strip) (L.map fun x => (x.idx, x.mask, heavyA x.op.act, isNewA x.op.act)) = L.map fun x => (heavyA x.op.act, strip x.oper)
  | [], _, _, h, _ => by cases h; rfl
  | p :: r, acc, L, h, hp => by
    obtain ⟨_, h1⟩ := gd_eq h
    obtain ⟨g, h2, h3⟩ := ob_eq h1
    obtain ⟨a, h4, h5⟩ := ob_eq h3
    obtain ⟨l, h6, h7⟩ := ob_eq h5
    cases h7
    have ih := planF_ordG (ops := ops) h6 fun q hq => hp q (.tail _ hq)
    have hp0 : (ops.map strip)[p.1]? = some (strip p.2) := by rw [List.getElem?_map, hp p (.head _)]; rfl
    simp only [List.map_cons, orderedG, hp0, ih]
theorem Cd.drawnG {id : Nat} {ops : Array Oper} {pl : List (Nat × Nat × Bool × Bool)} {ds : List (Option Tmp)} {L : List (Bool × SOp)} (hp : planL T n ops = some pl) (hs : simple pl [] = true) (hd : ops.toList.map (·.dst) = ds) (hl : orderedG (ops.toList.map strip) pl = L)
    (h : Run T (fun self => stepG T self ds L f s) fun f s => Q .normal f s) : Cd T rd n (.region id ops true) f s Q := by
  subst hd; subst hl
  obtain ⟨l, h1, h2⟩ := ob_eq hp
  cases h2
  refine Evn.code ?_
  obtain ⟨m, p, k1, k2⟩ := h
  refine ⟨m, (.normal, p), fun k hk => ?_, k2⟩
  show ob (plan T n ops) (fun l => ob (planRun (run T k) l [] f s) fun p => some (Ex.normal, p)) = _
  rw [h1]
  show ob (planRun (run T k) l [] f s) (fun p => some (Ex.normal, p)) = _
  obtain ⟨l', e1, e2⟩ := ob_eq h1
  obtain ⟨_, e3⟩ := gd_eq e2
  cases e3
  have := planF_ordG (ops := ops.toList) e1 (fun p hp => orderF_at _ _ p hp)
  have k1' := k1 k hk
  change stepG T (run T k) (ops.toList.map (·.dst)) (orderedG (ops.toList.map strip) (l.map fun x => (x.idx, x.mask, heavyA x.op.act, isNewA x.op.act))) f s = some p at k1'
  rw [this] at k1'
  rw [show planRun (run T k) l [] f s = some p from stepG_run (planF_items e1) rfl hs k1']
  rfl
end
@[congr] theorem stepG_congr {T : Tab} {self : Self} {ds : List (Option Tmp)} {L : List (Bool × SOp)} {f : Fr} {s : St} : stepG T self ds L f s = stepG T self ds L f s := rfl
/-! ### The same, where some loads stand free of a call: they are done ahead of it, and looked at again behind it -/
section
variable {T : Tab} {self : Self} {all : List Oper}
structure HRec where
  oper : SOp
  fr : Fr
  val : Value
noncomputable def recH (T : Tab) (self : Self) (ds : List (Option Tmp)) (s : St) (r : HRec) : Bool := bt (wantS ds r.fr r.oper.g) (valEq (actO T self r.oper.op r.fr s) r.val) true
noncomputable def recsH (T : Tab) (self : Self) (ds : List (Option Tmp)) (s : St) : List HRec → Bool
  | [] => true
  | r :: l => recH T self ds s r && recsH T self ds s l
noncomputable def stepH (T : Tab) (self : Self) (ds : List (Option Tmp)) : List (Bool × Bool × SOp) → List HRec → Fr → St → Option (Fr × St)
  | [], _, f, s => some (f, s)
  | (h, late, o) :: r, pend, f, s => bt h
      (ob (itemD T self ds o f s) fun p => gd (recsH T self ds p.2 pend) (stepH T self ds r pend (f.put o.d p.1) p.2))
      (ob (itemD T self ds o f s) fun p => gd (veq 5 p.1 p.1) (stepH T self ds r (bt late (⟨o, f, p.1⟩ :: pend) pend) (f.put o.d p.1) p.2))
def lateOf (l : Bool) (i : Nat) (late : List Nat) : List Nat := if l = true then i :: late else late
/-- The flags say which operations are late. -/
def simpleH : List (Nat × Nat × Bool × Bool) → List Bool → List Nat → List Nat → Bool
  | [], _, _, _ => true
  | _ :: _, [], _, _ => false
  | (i, m, h, w) :: r, l :: ls, pend, late => match h with
    | true => pend.all (fun j => m.testBit j || late.contains j) && simpleH r ls (pend.filter fun j => !m.testBit j) late
    | false => !w && simpleH r ls (i :: pend) (lateOf l i late)
def flagH : List (Bool × SOp) → List Bool → List (Bool × Bool × SOp)
  | (h, o) :: r, l :: ls => (h, l, o) :: flagH r ls
  | _, _ => []
def LateOk (T : Tab) (all : List Oper) (late : List Nat) (hp : List HRec) (r : PRec) : Prop := r.item.idx ∈ late → (⟨strip r.item.oper, r.fr, r.val⟩ : HRec) ∈ hp ∧ ItemIs T all r.item ∧ (∃ g, r.item.op.act = .pure g)
theorem recsH_mem {ds : List (Option Tmp)} {s : St} : ∀ {l : List HRec}, recsH T self ds s l = true → ∀ r ∈ l, recH T self ds s r = true
  | [], _, r, h => by cases h
  | q :: l, h, r, hr => by
    simp only [recsH, Bool.and_eq_true] at h
    cases hr with
    | head => exact h.1
    | tail _ hr => exact recsH_mem h.2 r hr
theorem recH_ok {r : PRec} {s : St} (hi : ItemIs T all r.item) (hg : ∃ g, r.item.op.act = .pure g) (h : recH T self (all.map (·.dst)) s ⟨strip r.item.oper, r.fr, r.val⟩ = true) : recOk s r = true := by
  obtain ⟨g, hg⟩ := hg
  unfold recH strip at h
  simp only [] at h
  rw [wantS_eq hi.1] at h
  unfold recOk
  cases hw : wantedF r.item.op.guard r.fr with
  | false => rfl
  | true =>
    rw [hw] at h
    simp only [bt_true] at h ⊢
    unfold actO at h
    rw [← compOp_eq, hi.2.2, hg] at h
    change valEq (ob (g r.fr.eval s.heap) fun v => some (v, s)) r.val = true at h
    rw [hg]
    show Option.rec (motive := fun _ => Bool) false (fun v => veq 5 v r.val) (g r.fr.eval s.heap) = true
    cases hv : g r.fr.eval s.heap with
    | none => rw [hv] at h; cases h
    | some v => rw [hv] at h; exact h
theorem stepH_run : ∀ {L : List PItem} {fl : List Bool} {pend : List PRec} {hp : List HRec} {late : List Nat} {f : Fr} {s : St} {q : Fr × St}, (∀ x ∈ L, ItemIs T all x) → pend.all (recOk s) = true → (∀ r ∈ pend, LateOk T all late hp r) →
    simpleH (L.map fun x => (x.idx, x.mask, heavyA x.op.act, isNewA x.op.act)) fl (pend.map (·.item.idx)) late = true →
    (∀ j ∈ late, j ∉ L.map (·.idx)) → (∀ r ∈ pend, r.item.idx ∉ L.map (·.idx)) → (L.map (·.idx)).Nodup →
    stepH T self (all.map (·.dst)) (flagH (L.map fun x => (heavyA x.op.act, strip x.oper)) fl) hp f s = some q → planRun self L pend f s = some q
  | [], fl, pend, hp, late, f, s, q, _, hpd, _, _, _, _, _, h => by
    show gd (pend.all (recOk s)) (some (f, s)) = some q
    rw [hpd]
    cases fl <;> exact h
  | x :: r, [], pend, hp, late, f, s, q, _, _, _, hs, _, _, _, _ => by simp [simpleH] at hs
  | x :: r, l :: ls, pend, hp, late, f, s, q, hL, hpd, hlate, hs, hnl, hpn, hnd, h => by
    have hx := hL x (.head _)
    have hr := fun y hy => hL y (.tail _ hy)
    rw [List.map_cons, List.nodup_cons] at hnd
    have hnl2 : ∀ j ∈ late, j ∉ r.map (·.idx) := fun j hj hm => hnl j hj (by rw [List.map_cons]; exact .tail _ hm)
    have hpn2 : ∀ r' ∈ pend, r'.item.idx ∉ r.map (·.idx) := fun a ha hm => hpn a ha (by rw [List.map_cons]; exact .tail _ hm)
    have hpx : ∀ r' ∈ pend, r'.item.idx ≠ x.idx := fun a ha he => hpn a ha (by rw [List.map_cons, he]; exact .head _)
    change bt (heavyA x.op.act) (ob (itemD T self (all.map (·.dst)) (strip x.oper) f s) fun p => gd (recsH T self (all.map (·.dst)) p.2 hp) (stepH T self (all.map (·.dst)) (flagH (r.map _) ls) hp (f.put x.oper.dst p.1) p.2))
      (ob (itemD T self (all.map (·.dst)) (strip x.oper) f s) fun p => gd (veq 5 p.1 p.1) (stepH T self (all.map (·.dst)) (flagH (r.map _) ls) (bt l (⟨strip x.oper, f, p.1⟩ :: hp) hp) (f.put x.oper.dst p.1) p.2)) = some q at h
    rw [itemD_eq hx] at h
    show bt (heavyA x.op.act) (gd (pend.all (recOk s)) (ob (itemF self x f s) fun p => planRun self r (pend.filter fun r => !x.mask.testBit r.item.idx) (f.put x.op.dst p.1) p.2))
      (ob (itemF self x f s) fun p => planRun self r (⟨x, f, p.1, madeF x f s⟩ :: pend) (f.put x.op.dst p.1) p.2) = some q
    rw [hx.2.1]
    simp only [List.map_cons, simpleH] at hs
    cases hh : heavyA x.op.act with
    | true =>
      rw [hh] at hs h
      simp only [Bool.and_eq_true] at hs
      obtain ⟨p, h1, h2⟩ := ob_eq (show ob (itemF self x f s) _ = some q from h)
      obtain ⟨h3, h4⟩ := gd_eq h2
      show gd (pend.all (recOk s)) _ = _
      rw [hpd, h1]
      show planRun self r (pend.filter fun r => !x.mask.testBit r.item.idx) _ _ = _
      refine stepH_run hr ?_ (fun a ha => hlate a (List.mem_filter.1 ha).1) ?_ hnl2 (fun a ha => hpn2 a (List.mem_filter.1 ha).1) hnd.2 h4
      · rw [List.all_eq_true]
        intro a ha
        obtain ⟨ha1, ha2⟩ := List.mem_filter.1 ha
        have hq := List.all_eq_true.1 hs.1 _ (List.mem_map_of_mem ha1)
        have hm : a.item.idx ∈ late := by
          simp only [Bool.not_eq_true'] at ha2
          rw [ha2] at hq
          simpa using hq
        obtain ⟨k1, k2, k3⟩ := hlate a ha1 hm
        exact recH_ok k2 k3 (recsH_mem h3 _ k1)
      · rw [← hs.2, List.filter_map]; rfl
    | false =>
      rw [hh] at hs h
      simp only [Bool.and_eq_true, Bool.not_eq_true'] at hs
      obtain ⟨p, h1, h2⟩ := ob_eq (show ob (itemF self x f s) _ = some q from h)
      obtain ⟨h3, h4⟩ := gd_eq h2
      obtain ⟨g, hg⟩ : ∃ g, x.op.act = .pure g := by
        cases ha : x.op.act with
        | pure g => exact ⟨g, rfl⟩
        | new g => rw [ha] at hs; cases hs.1
        | act g => rw [ha] at hh; cases hh
      have hsame : p.2 = s ∧ recOk s ⟨x, f, p.1, madeF x f s⟩ = true := by
        unfold itemF at h1
        unfold recOk
        simp only []
        cases hw : wantedF x.op.guard f with
        | false => rw [hw] at h1; cases h1; exact ⟨rfl, rfl⟩
        | true =>
          rw [hw] at h1
          simp only [bt_true] at h1 ⊢
          rw [hg] at h1 ⊢
          obtain ⟨v, k1, k2⟩ := ob_eq (show ob (g f.eval s.heap) (fun v => some (v, s)) = some p from h1)
          cases k2
          refine ⟨rfl, ?_⟩
          show Option.rec (motive := fun _ => Bool) false (fun v' => veq 5 v' v) (g f.eval s.heap) = true
          rw [k1]; exact h3
      rw [h1]
      show planRun self r (⟨x, f, p.1, madeF x f s⟩ :: pend) _ _ = _
      have hnx : x.idx ∉ late := fun hm => hnl _ hm (.head _)
      refine stepH_run (late := lateOf l x.idx late) hr ?_ ?_ hs.2 ?_ ?_ hnd.2 h4
      · rw [hsame.1, List.all_cons, hsame.2, hpd]; rfl
      · intro a ha
        cases ha with
        | head =>
          intro hm
          cases l with
          | true => exact ⟨.head _, hx, g, hg⟩
          | false => exact absurd hm hnx
        | tail _ ha =>
          intro hm
          cases l with
          | true =>
            have e : a.item.idx ∈ late := by
              rcases List.mem_cons.1 (show a.item.idx ∈ x.idx :: late from hm) with e | e
              · exact absurd e (hpx a ha)
              · exact e
            obtain ⟨k1, k2, k3⟩ := hlate a ha e
            exact ⟨.tail _ k1, k2, k3⟩
          | false => exact hlate a ha hm
      · intro j hj
        cases l with
        | true =>
          cases hj with
          | head => exact hnd.1
          | tail _ hj => exact hnl2 j hj
        | false => exact hnl2 j hj
      · intro a ha
        cases ha with
        | head => exact hnd.1
        | tail _ ha => exact hpn2 a ha
variable {rd : Bool} {n : Nat} {f : Fr} {s : St} {Q : Ex → Fr → St → Prop}
theorem Cd.drawnH (fl : List Bool) {id : Nat} {ops : Array Oper} {pl : List (Nat × Nat × Bool × Bool)} {ds : List (Option Tmp)} {L : List (Bool × Bool × SOp)} (hp : planL T n ops = some pl) (hs : simpleH pl fl [] [] = true) (hn : (pl.map (·.1)).Nodup) (hd : ops.toList.map (·.dst) = ds) (hl : flagH (orderedG (ops.toList.map strip) pl) fl = L)
    (h : Run T (fun self => stepH T self ds L [] f s) fun f s => Q .normal f s) : Cd T rd n (.region id ops true) f s Q := by
  subst hd; subst hl
  obtain ⟨l, h1, h2⟩ := ob_eq hp
  cases h2
  refine Evn.code ?_
  obtain ⟨m, p, k1, k2⟩ := h
  refine ⟨m, (.normal, p), fun k hk => ?_, k2⟩
  show ob (plan T n ops) (fun l => ob (planRun (run T k) l [] f s) fun p => some (Ex.normal, p)) = _
  rw [h1]
  show ob (planRun (run T k) l [] f s) (fun p => some (Ex.normal, p)) = _
  obtain ⟨l', e1, e2⟩ := ob_eq h1
  obtain ⟨_, e3⟩ := gd_eq e2
  cases e3
  have := planF_ordG (ops := ops.toList) e1 (fun p hp => orderF_at _ _ p hp)
  have k1' := k1 k hk
  change stepH T (run T k) (ops.toList.map (·.dst)) (flagH (orderedG (ops.toList.map strip) (l.map fun x => (x.idx, x.mask, heavyA x.op.act, isNewA x.op.act))) fl) [] f s = some p at k1'
  rw [this] at k1'
  have hn' : (l.map (·.idx)).Nodup := by rw [List.map_map] at hn; exact hn
  rw [show planRun (run T k) l [] f s = some p from stepH_run (pend := []) (late := []) (planF_items e1) rfl (fun r hr => by cases hr) hs (fun j hj => by cases hj) (fun r hr => by cases hr) hn' k1']
  rfl
end
@[congr] theorem stepH_congr {T : Tab} {self : Self} {ds : List (Option Tmp)} {L : List (Bool × Bool × SOp)} {p : List HRec} {f : Fr} {s : St} : stepH T self ds L p f s = stepH T self ds L p f s := rfl
section
variable {T : Tab} {self : Self} {ds : List (Option Tmp)} {pend : List HRec} {f : Fr} {s : St}
@[simp] theorem stepH_nil : stepH T self ds [] pend f s = some (f, s) := rfl
@[simp] theorem stepH_heavy (l : Bool) (o : SOp) (r : List (Bool × Bool × SOp)) : stepH T self ds ((true, l, o) :: r) pend f s = ob (itemD T self ds o f s) fun p => gd (recsH T self ds p.2 pend) (stepH T self ds r pend (f.put o.d p.1) p.2) := rfl
@[simp] theorem stepH_light (o : SOp) (r : List (Bool × Bool × SOp)) : stepH T self ds ((false, false, o) :: r) pend f s = ob (itemD T self ds o f s) fun p => gd (veq 5 p.1 p.1) (stepH T self ds r pend (f.put o.d p.1) p.2) := rfl
@[simp] theorem stepH_late (o : SOp) (r : List (Bool × Bool × SOp)) : stepH T self ds ((false, true, o) :: r) pend f s = ob (itemD T self ds o f s) fun p => gd (veq 5 p.1 p.1) (stepH T self ds r (⟨o, f, p.1⟩ :: pend) (f.put o.d p.1) p.2) := rfl
@[simp] theorem itemD_plain (d : Option Tmp) (op : Op) : itemD T self ds ⟨d, op, none⟩ f s = actO T self op f s := rfl
@[simp] theorem itemD_guard (d : Option Tmp) (op : Op) (j : Nat) (b : Bool) : itemD T self ds ⟨d, op, some (j, b)⟩ f s = bt (guardO b f ds[j]?) (actO T self op f s) (some (undef, s)) := rfl
@[simp] theorem recsH_nil : recsH T self ds s [] = true := rfl
@[simp] theorem recsH_cons (r : HRec) (l : List HRec) : recsH T self ds s (r :: l) = (recH T self ds s r && recsH T self ds s l) := rfl
@[simp] theorem recH_plain (d : Option Tmp) (op : Op) (v : Value) : recH T self ds s ⟨⟨d, op, none⟩, f, v⟩ = valEq (actO T self op f s) v := rfl
@[simp] theorem recH_guard (d : Option Tmp) (op : Op) (v : Value) (j : Nat) (b : Bool) : recH T self ds s ⟨⟨d, op, some (j, b)⟩, f, v⟩ = bt (guardO b f ds[j]?) (valEq (actO T self op f s) v) true := rfl
@[simp] theorem stepG_nil : stepG T self ds [] f s = some (f, s) := rfl
@[simp] theorem stepG_heavy (o : SOp) (r : List (Bool × SOp)) : stepG T self ds ((true, o) :: r) f s = ob (itemD T self ds o f s) fun p => stepG T self ds r (f.put o.d p.1) p.2 := rfl
@[simp] theorem stepG_light (o : SOp) (r : List (Bool × SOp)) : stepG T self ds ((false, o) :: r) f s = ob (itemD T self ds o f s) fun p => gd (veq 5 p.1 p.1) (stepG T self ds r (f.put o.d p.1) p.2) := rfl
end
/-! ### A region that draws, as equations -/
theorem veq_int (n : Nat) (k : IntKind) (a : Int) : veq (n + 1) (.int k a) (.int k a) = true := by
  show (kindEq k k && intEq a a) = true
  rw [kindEq_refl, intEq_eq]; simp
theorem veq_bool (n : Nat) (a : Bool) : veq (n + 1) (.bool a) (.bool a) = true := by
  show boolEq a a = true
  cases a <;> rfl
theorem veq_ptr (n : Nat) (i o : Nat) : veq (n + 1) (.pointer (some ⟨i, o, none⟩)) (.pointer (some ⟨i, o, none⟩)) = true := by
  show addrEq _ _ = true
  simp [addrEq]
theorem veq_slice (n : Nat) (i o l c : Nat) : veq (n + 1) (.slice (some ⟨i, o, none⟩) l c) (.slice (some ⟨i, o, none⟩) l c) = true := by
  show (addrEq _ _ && Nat.beq l l && Nat.beq c c) = true
  simp [addrEq]
theorem veq_sliceN (n : Nat) (l c : Nat) : veq (n + 1) (.slice none l c) (.slice none l c) = true := by
  show (Nat.beq l l && Nat.beq c c) = true
  simp
theorem veq_map (n : Nat) (r : Nat) : veq (n + 1) (.map (some r)) (.map (some r)) = true := by
  show Nat.beq r r = true
  simp
@[simp] theorem veq_string (n : Nat) (b : ByteArray) : veq (n + 1) (.string b) (.string b) = true := by
  show bytesEq b.data.toList b.data.toList = true
  rw [bytesEq_eq]; simp
@[simp] theorem veq_agg (n : Nat) (p : Array Value) : veq (n + 1) (.agg p) (.agg p) = listEq (veq n) p.toList p.toList := rfl
@[simp] theorem veq_tuple (n : Nat) (p : Array Value) : veq (n + 1) (.tuple p) (.tuple p) = listEq (veq n) p.toList p.toList := rfl
@[simp] theorem listEq_nil {α : Type} (f : α → α → Bool) : listEq f [] [] = true := rfl
@[simp] theorem listEq_cons {α : Type} (f : α → α → Bool) (x y : α) (r s : List α) : listEq f (x :: r) (y :: s) = (f x y && listEq f r s) := rfl
@[simp] theorem veq_undef (n : Nat) : veq (n + 1) undef undef = true := rfl
theorem valEq_some (p : Value × St) (v : Value) : valEq (some p) v = veq 5 p.1 v := rfl
theorem bt_same {α : Type} (b : Bool) (x : α) : bt b x x = x := by cases b <;> rfl
@[congr] theorem stepD_congr {T : Tab} {self : Self} {ds : List (Option Tmp)} {L : List (Nat × Nat × Bool × Bool × SOp)} {pend : List DRec} {f : Fr} {s : St} : stepD T self ds L pend f s = stepD T self ds L pend f s := rfl
attribute [simp] veq_int veq_bool veq_ptr veq_slice veq_sliceN veq_map valEq_some
section
variable {T : Tab} {rd : Bool} {n : Nat} {f : Fr} {s : St} {Q : Ex → Fr → St → Prop}
/-! ### Short names: a step of a run goes on by the first that fits -/
theorem Z0 {b : Code} (h : Cd T rd n b f s Q) : SeqK T rd n b Q .normal f s := SeqK.nm h
theorem Z1 {b : Code} {i : Nat} (h : Q (.exit i) f s) : SeqK T rd n b Q (.exit i) f s := SeqK.x h
theorem Z2 {b : Code} (h : Q .ret f s) : SeqK T rd n b Q .ret f s := SeqK.r h
theorem Z3 {b : Code} {i : Nat} (h : Q (.goto i) f s) : SeqK T rd n b Q (.goto i) f s := SeqK.g h
theorem Z4 {i : Nat} (h : Q .normal f s) : BlockK i Q .normal f s := BlockK.nm h
theorem Z5 {i : Nat} (h : Q .normal f s) : BlockK i Q (.exit i) f s := BlockK.same h
theorem Z6 {i j : Nat} (e : Nat.beq j i = false) (h : Q (.exit j) f s) : BlockK i Q (.exit j) f s := BlockK.other e h
theorem Z7 {i : Nat} (h : Q .ret f s) : BlockK i Q .ret f s := BlockK.r h
theorem Z8 {i l : Nat} (h : Q (.goto l) f s) : BlockK i Q (.goto l) f s := BlockK.g h
theorem Z9 {I : Nat → Fr → St → Prop} {m i : Nat} (h : Q (.exit i) f s) : LoopK I m Q (.exit i) f s := LoopK.x h
theorem Z10 {I : Nat → Fr → St → Prop} {m : Nat} (h : Q .ret f s) : LoopK I m Q .ret f s := LoopK.r h
theorem Z11 {a b : Code} (h : Cd T rd n a f s (SeqK T rd n b Q)) : Cd T rd n (.seq a b) f s Q := Cd.seq h
theorem Z12 {id : Nat} {c : Code} (h : Cd T rd n c f s (BlockK id Q)) : Cd T rd n (.block id c) f s Q := Cd.block h
theorem Z13 (h : Q .normal f s) : Cd T rd n .skip f s Q := Cd.skip h
theorem Z14 (h : Q .ret f s) : Cd T rd n .ret f s Q := Cd.ret h
theorem Z15 {id : Nat} (h : Q (.exit id) f s) : Cd T rd n (.exit id) f s Q := Cd.exit h
theorem Z16 {l : Nat} (h : Q .normal f s) : Cd T rd n (.label l) f s Q := Cd.label h
end
end Go.Proofs.Ytifkpaomhnlahaa.Kern
