/-
  Regions in the order of the text are calculated rightly. It holds of every program whose table of types and functions fits (TabOk).
-/
import Derived.Test.YteeamkdblcinnaaKernL
namespace Go.Proofs.Yteeamkdblcinnaa.Kern
open Go Go.RowKit

section
variable {P : Program} {T : Tab}

theorem yielded_eq {ops : Array Oper} {tmps : Array Value} {j d : Nat} {oj : Oper} (hj : ops.toList[j]? = some oj) (hd : oj.dst = some d) : yielded ops tmps j = boolOf (tmps.getD d undef) := by
  have hj' : ops[j]? = some oj := by simpa using hj
  unfold yielded
  simp only [hj', Option.bind_some, hd]
  cases ht : tmps[d]? with
  | none =>
    have : tmps.getD d undef = undef := by simp [Array.getD_eq_getD_getElem?, ht]
    rw [this]; rfl
  | some v =>
    have : tmps.getD d undef = v := by simp [Array.getD_eq_getD_getElem?, ht]
    rw [this]
    cases v <;> rfl
theorem boolOf_rel {σ : Ren} {v v' : Value} (h : VRel σ v v') : boolOf v' = boolOf v := by
  cases h <;> rfl
theorem wantedF_some (t : Tmp) (want : Bool) (f : Fr) : wantedF (some (t, want)) f = (match boolOf (f.get t) with | some b => b == want | none => false) := by
  change Option.rec (motive := fun _ => Bool) false (fun b => bt b want (bt want false true)) (boolOf (f.get t)) = _
  cases boolOf (f.get t) with
  | none => rfl
  | some b => cases b <;> cases want <;> rfl
theorem wanted_ok {σ : Ren} {ops : Array Oper} {o : Oper} {g : Option (Tmp × Bool)} (hg : guardOf ops.toList o = some g) {f : Fr} {tmps : Array Value} (hr : ∀ u b, g = some (u, b) → VRel σ (f.get u) (tmps.getD u undef)) :
    Region.wanted o (yielded ops tmps) = wantedF g f := by
  unfold guardOf at hg
  unfold Region.wanted
  cases ho : o.guard with
  | none =>
    rw [ho] at hg
    cases hg
    rfl
  | some p =>
    rw [ho] at hg
    obtain ⟨oj, h1, h2⟩ := ob_eq hg
    obtain ⟨d, h3, h4⟩ := ob_eq h2
    simp only [Option.some.injEq] at h4
    subst h4
    rw [nthL_eq] at h1
    obtain ⟨j, want⟩ := p
    simp only
    rw [yielded_eq h1 h3, wantedF_some, boolOf_rel (hr d want rfl)]
    cases boolOf (f.get d) with
    | none => rfl
    | some b => cases b <;> cases want <;> rfl

theorem semAt_ok {o : Oper} {act : CAct} (h : comp T o = some act) (F : Fence) (ρ : Operand → Value) : o.semAt F.round ρ = execOp ρ o := Oper.semAt_eq _ _ _ (comp_nodefer h)

/-- One operation, wherever it stands. -/
theorem item_ok (hT : TabOk P T) (hP : T.prog = P) {self : Self} (hself : SelfOk P self) {all : Array Oper} {o : Oper} {i : Nat} {g : Option (Tmp × Bool)} {act : CAct} (hi : all[i]? = some o) (hg : guardOf all.toList o = some g) (hc : comp T o = some act)
    {F : Fence} {rd : Bool} (hF : FOk F rd) {m N : Nat} {σ : Ren} {s s' : St} {w : World} {f : Fr} {a : Act} {v : Value} (hw : WRel N σ s w)
    (hops : ∀ x ∈ o.op.operands.toList, VRel σ (f.eval x) (a.eval x)) (hgr : ∀ u b, g = some (u, b) → VRel σ (f.get u) (a.tmps.getD u undef))
    (h : bt (wantedF g f) (actF self act f s) (some (undef, s)) = some (v, s')) {K : Act → World → Prop} {Q : Exit → Act → World → Prop}
    (hK : ∀ τ w' v', Ext N σ τ s s' w w' → WRel N τ s' w' → VRel τ v v' → K (a.put o.dst v') w') : wpOpIn F m P all Q i K a w := by
  unfold wpOpIn
  simp only [hi]
  rw [wanted_ok hg hgr]
  cases hwf : wantedF g f with
  | false =>
    rw [hwf] at h
    cases h
    simp only [Bool.false_eq_true, if_false]
    exact ⟨fun fn _ => hF.fn fn, hK σ w undef Ext.refl hw undef_rel⟩
  | true =>
    rw [hwf] at h
    simp only [if_true]
    refine ⟨fun fn _ => hF.fn fn, ?_⟩
    rw [semAt_ok hc]
    have hck := comp_ok hT hP self hc
    cases act with
    | pure gg =>
      obtain ⟨v1, h1, h2⟩ := ob_eq (show ob (gg f.eval s.heap) (fun v => some (v, s)) = some (v, s') from h)
      cases h2
      obtain ⟨v', k1, k2⟩ := hck hw hops h1
      rw [k1, Oper.uponIn_value]
      exact hK σ w v' Ext.refl hw k2
    | new gg =>
      obtain ⟨p, h1, h2⟩ := ob_eq (show ob (gg f.eval) (fun p => exNew s p.1 p.2) = some (v, s') from h)
      obtain ⟨s1, h3, h4⟩ := ob_eq h2
      cases h4
      obtain ⟨O, v', k1, _, k2⟩ := hck (w := w) hops h1
      obtain ⟨k3, k4⟩ := k2 (σ.add s.next w.heap.size 0 none) s.next (Ren.le_add (hw.fresh (Nat.le_refl _))) Ren.add_same
      rw [k1, Oper.uponIn_value]
      exact hK _ _ v' (Ext.push hw h3) (hw.push h3 k3) k4
    | act gg =>
      have h' : gg self f.eval s = some (v, s') := h
      rcases hck with hck | ⟨c, fo, ho, hcal, rfl⟩ | ⟨c, r, name, ho, hcal, rfl⟩
      · obtain ⟨τ, w', v', k1, k2, k3, k4⟩ := hck hw hops h'
        rcases k1 with k1 | ⟨k1, rfl⟩
        · rw [k1, Oper.uponIn_value]; exact hK τ w' v' k2 k3 k4
        · rw [k1, Oper.uponIn_skip]; exact hK τ w' undef k2 k3 k4
      · exact callV_ok hself ho hcal hF hw hops h' hK
      · exact invoke_ok hT hself ho hcal hF hw hops h' hK

theorem compOps_cons {n : Nat} {all : List Oper} {o : Oper} {l : List Oper} {r : List COp} (h : compOps T n all (o :: l) = some r) :
    ∃ g a r', dstOk n o.dst = true ∧ o.op.operands.toList.all constOk = true ∧ guardOf all o = some g ∧ comp T o = some a ∧ compOps T n all l = some r' ∧ r = ⟨g, o.dst, a⟩ :: r' := by
  have h' : gd (dstOk n o.dst && o.op.operands.toList.all constOk) (ob (guardOf all o) fun g => ob (comp T o) fun a => ob (compOps T n all l) fun r => some (⟨g, o.dst, a⟩ :: r)) = some r := h
  obtain ⟨h1, h2⟩ := gd_eq h'
  obtain ⟨g, h3, h4⟩ := ob_eq h2
  obtain ⟨a, h5, h6⟩ := ob_eq h4
  obtain ⟨r', h7, h8⟩ := ob_eq h6
  simp only [Bool.and_eq_true] at h1
  cases h8
  exact ⟨g, a, r', h1.1, h1.2, h3, h5, h7, rfl⟩

theorem guard_lt {n : Nat} {f : Fr} {a : Act} {σ : Ren} (hf : FRel σ n f a) (g : Option (Tmp × Bool)) : ∀ u b, g = some (u, b) → VRel σ (f.get u) (a.tmps.getD u undef) := fun u _ _ => hf.tmps u

/-- Operations in the order of the text. -/
theorem ops_ok (hT : TabOk P T) (hP : T.prog = P) {self : Self} (hself : SelfOk P self) {all : Array Oper} {n : Nat} (hn : n < top) {F : Fence} {rd : Bool} (hF : FOk F rd) {m N : Nat} {Q : Exit → Act → World → Prop} {f' : Fr} {s' : St} :
    ∀ (l : List Oper) (is : List Nat) (cl : List COp) {σ : Ren} {s : St} {w : World} {f : Fr} {a : Act}, is.length = l.length → (∀ (k i : Nat) (o : Oper), is[k]? = some i → l[k]? = some o → all[i]? = some o) → compOps T n all.toList l = some cl →
      opsF self cl f s = some (f', s') → FRel σ n f a → WRel N σ s w → (∀ τ a' w', Ext N σ τ s s' w w' → FRel τ n f' a' → WRel N τ s' w' → Q .normal a' w') → wpOpsIn F m P all Q is a w
  | [], [], cl, σ, s, w, f, a, _, _, hc, h, hf, hw, hQ => by
    change some [] = some cl at hc
    cases hc
    change some (f, s) = some (f', s') at h
    cases h
    exact hQ σ a w Ext.refl hf hw
  | [], _ :: _, _, _, _, _, _, _, hl, _, _, _, _, _, _ => by simp at hl
  | _ :: _, [], _, _, _, _, _, _, hl, _, _, _, _, _, _ => by simp at hl
  | o :: l, i :: is, cl, σ, s, w, f, a, hl, hidx, hc, h, hf, hw, hQ => by
    obtain ⟨g, act, r', h1, h2, h3, h4, h5, rfl⟩ := compOps_cons hc
    have h' : ob (bt (wantedF g f) (actF self act f s) (some (undef, s))) (fun p => opsF self r' (f.put o.dst p.1) p.2) = some (f', s') := h
    obtain ⟨⟨v, s1⟩, h6, h7⟩ := ob_eq h'
    rw [wpOpsIn_cons]
    have hops : ∀ x ∈ o.op.operands.toList, VRel σ (f.eval x) (a.eval x) := fun x hx => hf.eval (List.all_eq_true.1 h2 x hx)
    refine item_ok hT hP hself (hidx 0 i o rfl rfl) h3 h4 hF hw hops (guard_lt hf g) h6 ?_
    intro τ w' v' hx hw' hv
    exact ops_ok hT hP hself hn hF l is r' (by simpa using hl) (fun k i' o' a b => hidx (k + 1) i' o' (by simpa using a) (by simpa using b)) h5 h7 ((hf.mono hx.le).put hn h1 hv) hw'
      (fun τ2 a2 w2 x2 f2 hw2 => hQ τ2 a2 w2 (hx.trans x2) f2 hw2)
end
end Go.Proofs.Yteeamkdblcinnaa.Kern
