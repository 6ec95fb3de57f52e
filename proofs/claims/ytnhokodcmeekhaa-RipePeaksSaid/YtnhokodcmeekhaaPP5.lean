/-
  . They hold with no condition but those that are written in each theorem.
-/
import Derived.Test.YtnhokodcmeekhaaPP1
import Derived.Test.YtnhokodcmeekhaaPP2
import Derived.Test.YtnhokodcmeekhaaPP3
import Derived.Test.YtnhokodcmeekhaaPP4
set_option linter.unusedSimpArgs false
set_option linter.unusedVariables false
namespace Go.Proofs.Ytnhokodcmeekhaa
open Go Kern
theorem lowF_congr {n w : Nat} {L M : Nat → Frac} (h : ∀ i, i < n → L i = M i) (hw : w < n) : lowF n L w = lowF n M w := by
  unfold lowF
  rw [h w hw]
  congr 1
  refine List.map_congr_left fun p hp => ?_
  have := across_mem.1 hp
  rw [h p.1 (by omega), h p.2 (by omega)]
theorem rupF_congr {n w : Nat} {L H M K : Nat → Frac} (h : ∀ i, i < n → L i = M i) (h2 : ∀ i, i < n → H i = K i) (hw : w < n) : rupF n L H w = rupF n M K w := by
  unfold rupF
  rw [h2 w hw]
  congr 1
  refine List.map_congr_left fun p hp => ?_
  have := rtoward_mem.1 hp
  rw [h p.1 (by omega), h2 p.2 (by omega)]
theorem row_ref {m : Nat} {lo hi : Int} {ss : List SampD} (h1 : fieldErr m lo hi ss = 0) {w : Nat} (hw : w < m) :
    knownRow m lo hi ss w = [.int .i64 (flF (lowF m (wF fun w => (endN lo hi ss w).1) w)), .int .i64 (ceF (rupF m (wF fun w => (endN lo hi ss w).1) (wF fun w => (endN lo hi ss w).2) w))] := by
  obtain ⟨hm, hb⟩ := base_ok h1
  have e1 : ∀ i, i < m → (bndN m lo hi ss).1 i = wF (fun w => (endN lo hi ss w).1) i := fun i hi => (bnd_end h1 i hi).1
  have e2 : ∀ i, i < m → (bndN m lo hi ss).2 i = wF (fun w => (endN lo hi ss w).2) i := fun i hi => (bnd_end h1 i hi).2
  have hL : ∀ i, i < m → 0 < ((bndN m lo hi ss).1 i).u := fun i hi => (hb i hi).1.mid.2.1
  have hH : ∀ i, i < m → 0 < ((bndN m lo hi ss).2 i).u := fun i hi => (hb i hi).2.1.mid.2.1
  unfold knownRow spC
  rw [← lowF_congr e1 hw, ← rupF_congr e1 e2 hw, ce_eqv (up_pos hL hH hw) (rup_pos hL hH hw) (up_eqv hL hH hw)]
theorem rvals_ok {m : Nat} {lo hi : Int} {ss : List SampD} (h1 : fieldErr m lo hi ss = 0) {w : Nat} (hw : w < m) :
    Mid 3600000 30 (lowF m (wF fun w => (endN lo hi ss w).1) w) ∧ Mid 3600000 30 (rupF m (wF fun w => (endN lo hi ss w).1) (wF fun w => (endN lo hi ss w).2) w) := by
  have hE := fun w => endN_all h1 w
  obtain ⟨hm, _⟩ := base_ok h1
  have hL : ∀ i, i < m → Mid 60000 1 (wF (fun w => (endN lo hi ss w).1) i) := fun i _ => wF_mid (hE i).1
  have hH : ∀ i, i < m → Mid 60000 1 (wF (fun w => (endN lo hi ss w).2) i) := fun i _ => wF_mid (hE i).2
  refine ⟨low_mid (by omega) hw (by decide) (by decide) (by decide) hL, ?_⟩
  exact fore_mid ((hH w hw).mono (by decide) (by decide)) (lines_fit (x0 := wF (fun w => (endN lo hi ss w).2) w) (items := rtowardL m w) (by omega) hw (by decide) (by decide) (by decide) hL hH (hH w hw) fun p hp => by have := rtoward_mem.1 hp; omega).1
theorem OwnG.keepK {n N : Nat} {s s' : St} {w : Value} {l : List (List Value)} (h : OwnG n N s w l) (k : Keep s s') : OwnG n N s' w l := h.keep k.1 fun i _ hi => k.2 i hi
set_option maxRecDepth 100000 in
set_option maxHeartbeats 4000000 in
theorem refKnown_ev (n lo hi : Int) (v : Value) (ss : List SampD) (s : St) (hs : SmAt s v ss) (hl : ss.length ≤ 1000000) : Ev TT 15 [fieldV n lo hi v] s fun r s' => Keep s s' ∧ ∃ w e, r = .tuple #[w, .int .i64 e] ∧ KnownA n lo hi ss w e s' := by
  have hck := refCheck_ev n lo hi v ss
  have hbo := fun (m : Nat) (e : n = m) (s : St) (h : SmAt s v ss) hc => ends_ev m lo hi v ss s h hc
  obtain ⟨a, c, rfl⟩ := hs.shape
  rw [List.length_map] at hs hck hbo ⊢
  unfold fieldV at hck hbo ⊢
  refine Ev.intro (fn := Try.f15) rfl (by kernel_rfl) rfl rfl ?_
  apply zz
  refine Cd.ra (h := ?_)
  apply Run.by_eq
  · intro self
    conv => lhs; simp -implicitDefEqProofs (maxSteps := 300000) (disch := omega) [-getElem?_pos, -getElem?_neg]
  try (with_reducible refine Run.ret ?_)
  apply zz
  refine Cd.ra (h := ?_)
  apply Run.by_eq
  · intro self
    conv => lhs; simp -implicitDefEqProofs (maxSteps := 300000) (disch := omega) [-getElem?_pos, -getElem?_neg]
  try (with_reducible refine Run.ret ?_)
  apply zz
  refine Run.call ((hck _ (hs.keep ⟨by (try simp only [pushed_next', upded_next']); omega, fun i hi => by simp -implicitDefEqProofs (disch := omega) []⟩) hl).mono fun v wy hv => ?_)
  obtain ⟨rfl, y⟩ := hv
  have ya := y.1
  have yb := y.2
  try simp only [pushed_next', upded_next'] at ya yb
  apply Run.by_eq
  · intro self
    conv => lhs; simp -implicitDefEqProofs (maxSteps := 300000) (disch := omega) [-getElem?_pos, -getElem?_neg, yb]
  try (with_reducible refine Run.ret ?_)
  apply zz
  by_cases h1 : fieldErr n lo hi ss = 0
  case neg =>
    apply zz
    refine Cd.ra (h := ?_)
    apply Run.by_eq
    · intro self
      conv => lhs; simp -implicitDefEqProofs (maxSteps := 300000) (disch := omega) [-getElem?_pos, -getElem?_neg, h1]
    try (with_reducible refine Run.ret ?_)
    apply zz
    apply Cd.ite rfl
    · conv => lhs; simp -implicitDefEqProofs (maxSteps := 300000) (disch := omega) [-getElem?_pos, -getElem?_neg]
    all_goals intro c0
    all_goals try (cases c0; done)
    all_goals try simp only [Bool.not_eq_true', Bool.not_eq_false', decide_eq_true_eq, decide_eq_false_iff_not] at c0
    all_goals apply zz
    apply zz
    refine Cd.ra (h := ?_)
    apply Run.by_eq
    · intro self
      conv => lhs; simp -implicitDefEqProofs (maxSteps := 300000) (disch := omega) [-getElem?_pos, -getElem?_neg]
    try (with_reducible refine Run.ret ?_)
    apply zz
    apply Leave.mk (by first | exact .inl rfl | exact .inr rfl) (by simp only [Fr.marks_put, fr0_marks])
    · conv => lhs; simp -implicitDefEqProofs (disch := omega) [Try.results15]
    exact ⟨⟨by (try simp only [pushed_next', upded_next']); omega, fun i hi => by simp -implicitDefEqProofs (disch := omega) [yb]⟩, _, _, rfl, .inl ⟨h1, rfl, rfl⟩⟩
  apply zz
  refine Cd.ra (h := ?_)
  apply Run.by_eq
  · intro self
    conv => lhs; simp -implicitDefEqProofs (maxSteps := 300000) (disch := omega) [-getElem?_pos, -getElem?_neg, h1]
  try (with_reducible refine Run.ret ?_)
  apply zz
  apply Cd.ite rfl
  · conv => lhs; simp -implicitDefEqProofs (maxSteps := 300000) (disch := omega) [-getElem?_pos, -getElem?_neg]
  all_goals intro c0
  all_goals try (cases c0; done)
  all_goals try simp only [Bool.not_eq_true', Bool.not_eq_false', decide_eq_true_eq, decide_eq_false_iff_not] at c0
  all_goals apply zz
  obtain ⟨⟨hn1, hn30⟩, hr, _, hss⟩ := fieldErr_ok h1
  obtain ⟨m, rfl⟩ : ∃ m : Nat, n = m := ⟨n.toNat, by omega⟩
  have va : veq 4 (Value.slice a ss.length c) (Value.slice a ss.length c) = true := slAt_veq hs 3
  apply zz
  refine Cd.ra (h := ?_)
  apply Run.by_eq
  · intro self
    conv => lhs; simp -implicitDefEqProofs (maxSteps := 300000) (disch := omega) [-getElem?_pos, -getElem?_neg, yb, va]
  try (with_reducible refine Run.ret ?_)
  apply zz
  refine Run.call ((hbo m rfl _ (hs.keep ⟨by (try simp only [pushed_next', upded_next']); omega, fun i hi => by simp -implicitDefEqProofs (disch := omega) [yb]⟩) h1).mono fun v wz hv => ?_)
  obtain ⟨z, q1, q2, rfl, hq1, hq2⟩ := hv
  have za := z.1
  have zb := z.2
  have hE := fun w => endN_all h1 w
  have hlo := fun w s' (k : Keep wz s') hw => lower_ev m (fun w => (endN lo hi ss w).1) q1 w s' (hq1.keep k) (by omega) hw fun w _ => (hE w).1
  have hup := fun w s' (k : Keep wz s') hw => upper_ev m (fun w => (endN lo hi ss w).1) (fun w => (endN lo hi ss w).2) q1 q2 w s' (hq1.keep k) (hq2.keep k) (by omega) hw (fun w _ => (hE w).1) fun w _ => (hE w).2
  have hrow := fun w (hw : w < m) => row_ref h1 hw
  have hval := fun w (hw : w < m) => rvals_ok h1 hw
  obtain ⟨a1, c1', rfl⟩ := hq1.shape
  obtain ⟨a2, c2', rfl⟩ := hq2.shape
  rw [List.length_map, List.length_map, List.length_range] at hq1 hq2 hlo hup
  rw [List.length_map, List.length_map, List.length_range] at hup
  rw [List.length_map, List.length_map, List.length_map, List.length_map, List.length_range]
  have v1 := slAt_veq hq1 4
  have v2 := slAt_veq hq2 4
  apply Run.by_eq
  · intro self
    conv => lhs; simp -implicitDefEqProofs (maxSteps := 300000) (disch := omega) [-getElem?_pos, -getElem?_neg, zb, yb]
  try (with_reducible refine Run.ret ?_)
  apply zz
  refine Cd.ra (h := ?_)
  apply Run.by_eq
  · intro self
    conv => lhs; simp -implicitDefEqProofs (maxSteps := 300000) (disch := omega) [-getElem?_pos, -getElem?_neg, v1, v2]
  try (with_reducible refine Run.ret ?_)
  apply zz
  refine Run.call ((rclash_ev m _ _ _ _ _ hq1 hq2 (by omega) (fun w _ => (hE w).1) (fun w _ => (hE w).2)).mono fun v wu hv => ?_)
  obtain ⟨u, hu⟩ := hv
  have ua := u.1
  have ub := u.2
  rcases hu with ⟨rfl, hu⟩ | hT
  case inr =>
    have hT0 := hT
    obtain ⟨i, j, k, t1, t2, t3, t4, b, rfl, _⟩ := hT0
    apply Run.by_eq
    · intro self
      conv => lhs; simp -implicitDefEqProofs (maxSteps := 300000) (disch := omega) [-getElem?_pos, -getElem?_neg]
    try (with_reducible refine Run.ret ?_)
    apply zz
    apply Cd.ite rfl
    · conv => lhs; simp -implicitDefEqProofs (maxSteps := 300000) (disch := omega) [-getElem?_pos, -getElem?_neg]
    all_goals intro c5
    all_goals try (cases c5; done)
    all_goals try simp only [Bool.not_eq_true', Bool.not_eq_false', decide_eq_true_eq, decide_eq_false_iff_not] at c5
    all_goals apply zz
    apply zz
    refine Cd.ra (h := ?_)
    apply Run.by_eq
    · intro self
      conv => lhs; simp -implicitDefEqProofs (maxSteps := 300000) (disch := omega) [-getElem?_pos, -getElem?_neg]
    try (with_reducible refine Run.ret ?_)
    apply zz
    apply Leave.mk (by first | exact .inl rfl | exact .inr rfl) (by simp only [Fr.marks_put, fr0_marks])
    · conv => lhs; simp -implicitDefEqProofs (disch := omega) [Try.results15]
    exact ⟨⟨by (try simp only [pushed_next', upded_next']); omega, fun i hi => by simp -implicitDefEqProofs (disch := omega) [ub, zb, yb]⟩, _, _, rfl, .inr (.inl ⟨h1, rfl, rfl, i, j, k, by omega, by omega, by omega, t4⟩)⟩
  apply Run.by_eq
  · intro self
    conv => lhs; simp -implicitDefEqProofs (maxSteps := 300000) (disch := omega) [-getElem?_pos, -getElem?_neg]
  try (with_reducible refine Run.ret ?_)
  apply zz
  apply Cd.ite rfl
  · conv => lhs; simp -implicitDefEqProofs (maxSteps := 300000) (disch := omega) [-getElem?_pos, -getElem?_neg]
  all_goals intro c5
  all_goals try (cases c5; done)
  all_goals try simp only [Bool.not_eq_true', Bool.not_eq_false', decide_eq_true_eq, decide_eq_false_iff_not] at c5
  all_goals apply zz
  apply zz
  refine Cd.ra (h := ?_)
  apply Run.by_eq
  · intro self
    conv => lhs; simp -implicitDefEqProofs (maxSteps := 300000) (disch := omega) [-getElem?_pos, -getElem?_neg]
  try (with_reducible refine Run.ret ?_)
  apply zz
  refine Cd.ra (h := ?_)
  apply Run.by_eq
  · intro self
    conv => lhs; simp -implicitDefEqProofs (maxSteps := 300000) (disch := omega) [-getElem?_pos, -getElem?_neg]
  try (with_reducible refine Run.ret ?_)
  apply zz
  generalize hLR : lowF m (wF fun w => (endN lo hi ss w).1) = LR at *
  generalize hUR : rupF m (wF fun w => (endN lo hi ss w).1) (wF fun w => (endN lo hi ss w).2) = UR at *
  refine Cd.inv (fun z f s' => ∃ k : Nat, k ≤ m ∧ z = m - k ∧ f.marks = [] ∧ f.get 1 = .pointer (some ⟨s.next, 0, none⟩) ∧ f.get 5 = .slice a1 m c1' ∧ f.get 6 = .slice a2 m c2' ∧ f.get 8 = .int .i64 k ∧ Keep wu s' ∧ OwnG 2 wu.next s' (f.get 7) ((List.range k).map (knownRow m lo hi ss))) m ?_ ?_
  · exact ⟨0, by omega, rfl, by simp, by simp, by simp, by simp, by simp, Keep.refl _, .inl ⟨rfl, by simp⟩⟩
  have hwg : wu.heap.get s.next = some (.cells [.int .i64 m, .int .i64 lo, .int .i64 hi, .slice a ss.length c] none) := by rw [ub _ (by omega), zb _ (by omega), yb _ (by (try simp only [pushed_next']); omega)]; simp -implicitDefEqProofs (disch := omega)
  rintro zz0 f s1 ⟨k, hk, rfl, hmk, g1, g5, g6, g8, hkp, hO⟩
  have hkpa := hkp.1
  have hkpb := hkp.2
  have hg0 := (hkpb _ (by omega)).trans hwg
  by_cases hlt : k < m
  · have hlt' : (k : Int) < m := by omega
    have hrl : ((List.range k).map (knownRow m lo hi ss)).length = k := by simp
    have hrn : (List.range (k + 1)).map (knownRow m lo hi ss) = (List.range k).map (knownRow m lo hi ss) ++ [knownRow m lo hi ss k] := by rw [List.range_succ, List.map_append]; rfl
    have hrw : ∀ y ∈ (List.range k).map (knownRow m lo hi ss), y.length = 2 := fun y hy => by obtain ⟨j, _, rfl⟩ := List.mem_map.1 hy; rfl
    rw [hrow k hlt] at hrn
    have hvk := hval k hlt
    unfold Mid at hvk
    generalize (List.range k).map (knownRow m lo hi ss) = rows at *
    apply zz
    refine Cd.ra (h := ?_)
    apply Run.by_eq
    · intro self
      conv => lhs; simp -implicitDefEqProofs (maxSteps := 300000) (disch := omega) [-getElem?_pos, -getElem?_neg, g8, g1, hg0, hlt']
    try (with_reducible refine Run.ret ?_)
    apply zz
    apply Cd.ite rfl
    · conv => lhs; simp -implicitDefEqProofs (maxSteps := 300000) (disch := omega) [-getElem?_pos, -getElem?_neg]
    all_goals intro c0
    all_goals try (cases c0; done)
    all_goals try simp only [Bool.not_eq_true', Bool.not_eq_false', decide_eq_true_eq, decide_eq_false_iff_not] at c0
    all_goals apply zz
    apply zz
    refine Cd.ra (h := ?_)
    apply Run.by_eq
    · intro self
      conv => lhs; simp -implicitDefEqProofs (maxSteps := 300000) (disch := omega) [-getElem?_pos, -getElem?_neg, g5, g6, g8]
    try (with_reducible refine Run.ret ?_)
    apply zz
    refine Run.call ((hlo k _ (Keep.trans u hkp) hlt).mono fun v wp hv => ?_)
    obtain ⟨rfl, p⟩ := hv
    have pa := p.1
    have pb := p.2
    try simp only [pushed_next', upded_next'] at pa pb
    apply Run.by_eq
    · intro self
      conv => lhs; simp -implicitDefEqProofs (maxSteps := 300000) (disch := omega) [-getElem?_pos, -getElem?_neg]
    try (with_reducible refine Run.ret ?_)
    apply zz
    refine Run.call ((floor_ev (LR k) _ hvk.1.2.1 (by omega)).mono fun v wq hv => ?_)
    obtain ⟨rfl, q⟩ := hv
    have qa := q.1
    have qb := q.2
    try simp only [pushed_next', upded_next'] at qa qb
    have kq : Keep s1 wq := ⟨by omega, fun i hi => (qb i (by omega)).trans (pb i hi)⟩
    apply Run.by_eq
    · intro self
      conv => lhs; simp -implicitDefEqProofs (maxSteps := 300000) (disch := omega) [-getElem?_pos, -getElem?_neg]
    try (with_reducible refine Run.ret ?_)
    apply zz
    refine Run.call ((hup k _ (Keep.trans (Keep.trans u hkp) kq) hlt).mono fun v wt hv => ?_)
    obtain ⟨rfl, t⟩ := hv
    have ta := t.1
    have tb := t.2
    try simp only [pushed_next', upded_next'] at ta tb
    apply Run.by_eq
    · intro self
      conv => lhs; simp -implicitDefEqProofs (maxSteps := 300000) (disch := omega) [-getElem?_pos, -getElem?_neg]
    try (with_reducible refine Run.ret ?_)
    apply zz
    refine Run.call ((ceil_ev (UR k) _ hvk.2.2.1 (by omega)).mono fun v wx hv => ?_)
    obtain ⟨rfl, x⟩ := hv
    have xa := x.1
    have xb := x.2
    try simp only [pushed_next', upded_next'] at xa xb
    have kx : Keep s1 wx := ⟨by omega, fun i hi => (xb i (by omega)).trans ((tb i (by omega)).trans (kq.2 i hi))⟩
    have kx2 : Keep s1 (wx.pushed (.cells [.int .i64 (flF (LR k)), .int .i64 (ceF (UR k))] none)) := kx.pushed _
    obtain ⟨s4, happ, hn4, hk4, hO4⟩ := app_one (n := 2) (b2 := wx.next) (x := [.int .i64 (flF (LR k)), .int .i64 (ceF (UR k))]) (g := none) (hO.keepK kx2) hrw rfl rfl (get_pushed_new _ _) (by (try simp only [pushed_next']); omega) (by omega)
    simp only [pushed_next', hrl] at happ hn4 hO4
    apply Run.by_eq
    · intro self
      conv => lhs; simp -implicitDefEqProofs (maxSteps := 300000) (disch := omega) [-getElem?_pos, -getElem?_neg, happ]
    try (with_reducible refine Run.ret ?_)
    apply zz
    refine Cd.ra (h := ?_)
    apply Run.by_eq
    · intro self
      conv => lhs; simp -implicitDefEqProofs (maxSteps := 300000) (disch := omega) [-getElem?_pos, -getElem?_neg, g8]
    try (with_reducible refine Run.ret ?_)
    apply zz
    refine LoopK.nm (m - (k + 1)) (by omega) ⟨k + 1, by omega, rfl, by simp [hmk], by simp [g1], by simp [g5], by simp [g6], by simp, ⟨by have := kx2.1; (try simp only [pushed_next'] at *); omega, fun i hi => (hk4 i hi).trans ((kx2.2 i (by omega)).trans (hkpb i hi))⟩, ?_⟩
    rw [hrn]; simpa using hO4
  · obtain rfl : k = m := by omega
    have hrw : ∀ y ∈ (List.range k).map (knownRow k lo hi ss), y.length = 2 := fun y hy => by obtain ⟨j, _, rfl⟩ := List.mem_map.1 hy; rfl
    have ho1 : oneV (f.get 7) = true := by
      rcases hO with ⟨_, e3⟩ | ⟨_, e3, _⟩ <;> rw [e3] <;> rfl
    apply zz
    refine Cd.ra (h := ?_)
    apply Run.by_eq
    · intro self
      conv => lhs; simp -implicitDefEqProofs (maxSteps := 300000) (disch := omega) [-getElem?_pos, -getElem?_neg, g8, g1, hg0]
    try (with_reducible refine Run.ret ?_)
    apply zz
    apply Cd.ite rfl
    · conv => lhs; simp -implicitDefEqProofs (maxSteps := 300000) (disch := omega) [-getElem?_pos, -getElem?_neg]
    all_goals intro c0
    all_goals try (cases c0; done)
    all_goals try simp only [Bool.not_eq_true', Bool.not_eq_false', decide_eq_true_eq, decide_eq_false_iff_not] at c0
    all_goals apply zz
    apply zz
    refine Cd.ra (h := ?_)
    apply Run.by_eq
    · intro self
      conv => lhs; simp -implicitDefEqProofs (maxSteps := 300000) (disch := omega) [-getElem?_pos, -getElem?_neg]
    try (with_reducible refine Run.ret ?_)
    apply zz
    apply Leave.mk (by first | exact .inl rfl | exact .inr rfl) (by simp only [Fr.marks_put, fr0_marks, hmk])
    · conv => lhs; simp -implicitDefEqProofs (disch := omega) [Try.results15, hmk]
    exact ⟨⟨by (try simp only [pushed_next'] at *); omega, fun i hi => by rw [hkpb i (by omega), ub i (by omega), zb i (by omega), yb i (by (try simp only [pushed_next']); omega)]; simp -implicitDefEqProofs (disch := omega)⟩, _, _, rfl, .inr (.inr ⟨h1, rfl, by rw [Int.toNat_natCast]; exact hO.sl hrw, fun i j k hi hj hk => by rw [Int.toNat_natCast] at hi hj hk; exact hu i j k hi hj hk⟩)⟩
end Go.Proofs.Ytnhokodcmeekhaa
namespace Go.Proofs.Ytnhokodcmeekhaa
open Go Kern
/-! Comparing spans, and lists -/
theorem unA23 : ∃ f0 f1 : Field, Try.prog.underlying 23 = some (.struct #[f0, f1]) ∧ (f0.type = 3 ∧ f0.offset = 0 ∧ (f0.name != "_") = true) ∧ (f1.type = 3 ∧ f1.offset = 1 ∧ (f1.name != "_") = true) := ⟨_, _, Try.underlying23, ⟨rfl, rfl, by kernel_rfl⟩, rfl, rfl, by kernel_rfl⟩
theorem ceA23 : Try.prog.cellsOf 23 = 2 := by kernel_rfl
theorem unA3 : Try.prog.underlying 3 = some (.int .i64) := by kernel_rfl
theorem ceA3 : Try.prog.cellsOf 3 = 1 := by kernel_rfl
theorem keyLitA3 {d : Nat} {a : Int} (h : (Lit.int .i64 a).wf = true) : Try.prog.keyLits (d + 1) 3 [.int .i64 a] = some [.int .i64 a] := by
  unfold Program.keyLits; rw [unA3]; simp [h]
def In62 (a : Int) : Prop := -4611686018427387904 ≤ a ∧ a ≤ 4611686018427387904
theorem wfA_of {a : Int} (h : In62 a) : (Lit.int .i64 a).wf = true := by
  unfold In62 at h
  simp [Lit.wf, IntKind.min, IntKind.max, IntKind.bits, IntKind.signed]
  omega
theorem keyLits23 {a b : Int} (ha : In62 a) (hb : In62 b) : Try.prog.keyLits 21 23 [.int .i64 a, .int .i64 b] = some [.int .i64 a, .int .i64 b] := by
  obtain ⟨f0, f1, hu, ⟨t0, o0, n0⟩, t1, o1, n1⟩ := unA23
  have k0 := keyLitA3 (d := 19) (wfA_of ha)
  have k1 := keyLitA3 (d := 19) (wfA_of hb)
  unfold Program.keyLits; rw [hu]
  simp only [ceA23, List.length_cons, List.length_nil]
  rw [if_pos (by simp [n0, n1])]
  simp [t0, o0, t1, o1, ceA3, k0, k1]
theorem formed23 (x y : Value) : Value.formed Try.prog 23 (.agg #[x, y]) = true := by
  obtain ⟨f0, f1, hu, _⟩ := unA23
  simp [Value.formed, hu, ceA23]
theorem aggEq23 {a b c d : Int} (ha : In62 a) (hb : In62 b) (hc : In62 c) (hd : In62 d) : aggEq TT 23 #[.int .i64 a, .int .i64 b] #[.int .i64 c, .int .i64 d] = some (decide (a = c ∧ b = d)) := by
  unfold aggEq
  have h1 := keyLits23 ha hb
  have h2 := keyLits23 hc hd
  change gd _ (ob (Try.prog.keyLits 21 23 _) fun la => ob (Try.prog.keyLits 21 23 _) fun lb => some (litsEq la lb)) = _
  rw [h1, h2, show Value.formed TT.prog 23 (.agg #[.int .i64 a, .int .i64 b]) = true from formed23 _ _, show Value.formed TT.prog 23 (.agg #[.int .i64 c, .int .i64 d]) = true from formed23 _ _]
  show gd (_ && true && true) (some (litsEq _ _)) = _
  have : litsEq [.int .i64 a, .int .i64 b] [.int .i64 c, .int .i64 d] = decide (a = c ∧ b = d) := by
    rw [Bool.eq_iff_iff, litsEq_iff, decide_eq_true_eq]
    constructor
    · intro h; simp at h; exact ⟨h.1, h.2⟩
    · rintro ⟨rfl, rfl⟩; rfl
  rw [this]; rfl
theorem flagA23 : (TT.prog.keyTypeAt 20 23 && !TT.prog.eqGuardType TT.prog.depth 23) = true := by kernel_rfl
@[simp] theorem binVal_23ne (f0 f1 : Field) (a b : Array Value) : binVal TT (.struct #[f0, f1]) 23 (TT.prog.keyTypeAt 20 23 && !TT.prog.eqGuardType TT.prog.depth 23) .neq (.agg a) (.agg b) = ob (aggEq TT 23 a b) fun r => some (.bool (!r)) := by
  rw [flagA23]; rfl
def spP (p : Int × Int) : List Value := [.int .i64 p.1, .int .i64 p.2]
abbrev SpAt (s : St) (v : Value) (l : List (Int × Int)) : Prop := SlAt 2 s v (l.map spP)
theorem SpAt.at {s : St} {a : Option Addr} {m c : Nat} {fs : List (Int × Int)} (h : SpAt s (.slice a m c) fs) {k : Nat} {x : Int × Int} (hk : fs[k]? = some x) :
    ∃ b off o cs g, a = some ⟨b, off, none⟩ ∧ b < s.next ∧ s.heap.get b = some o ∧ cellsOf o = some (cs, g) ∧ takeL 2 (cs.drop (off + k * 2)) = some [.int .i64 x.1, .int .i64 x.2] :=
  SlAt.at h (by rw [List.getElem?_map, hk]; rfl)
def SmallP (l : List (Int × Int)) : Prop := ∀ x ∈ l, In62 x.1 ∧ In62 x.2
set_option maxRecDepth 100000 in
set_option maxHeartbeats 4000000 in
theorem spans_ev (v1 v2 : Value) (l1 l2 : List (Int × Int)) (s : St) (h1 : SpAt s v1 l1) (h2 : SpAt s v2 l2) (s1 : SmallP l1) (s2 : SmallP l2) (hl : l1.length ≤ 1000000) (hl2 : l2.length ≤ 1000000) :
    Ev TT 17 [v1, v2] s fun r s' => r = .bool (decide (l1 = l2)) ∧ Keep s s' := by
  obtain ⟨a, c, rfl⟩ := h1.shape
  obtain ⟨a2, c2, rfl⟩ := h2.shape
  rw [List.length_map] at h1 h2 ⊢
  rw [List.length_map]
  have e1 := slAt_veq h1 4
  have e2 := slAt_veq h2 4
  refine Ev.intro (fn := Try.f17) rfl (by kernel_rfl) rfl rfl ?_
  apply zz
  refine Cd.ra (h := ?_)
  apply Run.by_eq
  · intro self
    conv => lhs; simp -implicitDefEqProofs (maxSteps := 300000) (disch := omega) [-getElem?_pos, -getElem?_neg]
  try (with_reducible refine Run.ret ?_)
  apply zz
  by_cases hne : l1.length = l2.length
  case neg =>
    have hne' : ¬ (l1.length : Int) = l2.length := by omega
    have hd : decide (l1 = l2) = false := by simp; intro e; exact hne (by rw [e])
    rw [hd]
    apply zz
    refine Cd.ra (h := ?_)
    apply Run.by_eq
    · intro self
      conv => lhs; simp -implicitDefEqProofs (maxSteps := 300000) (disch := omega) [-getElem?_pos, -getElem?_neg, hne']
    try (with_reducible refine Run.ret ?_)
    apply zz
    apply Cd.ite rfl
    · conv => lhs; simp -implicitDefEqProofs (maxSteps := 300000) (disch := omega) [-getElem?_pos, -getElem?_neg]
    all_goals intro c0
    all_goals try (cases c0; done)
    all_goals try simp only [Bool.not_eq_true', Bool.not_eq_false', decide_eq_true_eq, decide_eq_false_iff_not] at c0
    all_goals apply zz
    apply zz
    refine Cd.ra (h := ?_)
    apply Run.by_eq
    · intro self
      conv => lhs; simp -implicitDefEqProofs (maxSteps := 300000) (disch := omega) [-getElem?_pos, -getElem?_neg]
    try (with_reducible refine Run.ret ?_)
    apply zz
    apply Leave.mk (by first | exact .inl rfl | exact .inr rfl) (by simp only [Fr.marks_put, fr0_marks])
    · conv => lhs; simp -implicitDefEqProofs (disch := omega) [Try.results17]
    exact ⟨rfl, ⟨by (try simp only [pushed_next', upded_next']); omega, fun i hi => by simp -implicitDefEqProofs (disch := omega) []⟩⟩
  have hne' : (l1.length : Int) = l2.length := by omega
  apply zz
  refine Cd.ra (h := ?_)
  apply Run.by_eq
  · intro self
    conv => lhs; simp -implicitDefEqProofs (maxSteps := 300000) (disch := omega) [-getElem?_pos, -getElem?_neg, hne']
  try (with_reducible refine Run.ret ?_)
  apply zz
  apply Cd.ite rfl
  · conv => lhs; simp -implicitDefEqProofs (maxSteps := 300000) (disch := omega) [-getElem?_pos, -getElem?_neg]
  all_goals intro c0
  all_goals try (cases c0; done)
  all_goals try simp only [Bool.not_eq_true', Bool.not_eq_false', decide_eq_true_eq, decide_eq_false_iff_not] at c0
  all_goals apply zz
  apply zz
  refine Cd.ra (h := ?_)
  apply Run.by_eq
  · intro self
    conv => lhs; simp -implicitDefEqProofs (maxSteps := 300000) (disch := omega) [-getElem?_pos, -getElem?_neg]
  try (with_reducible refine Run.ret ?_)
  apply zz
  refine Cd.inv (fun z f s' => ∃ k : Nat, k ≤ l1.length ∧ z = l1.length - k ∧ f.marks = [] ∧ f.get 0 = .slice a l1.length c ∧ f.get 1 = .slice a2 l2.length c2 ∧ f.get 5 = .int .i64 k ∧ Keep s s' ∧ l1.take k = l2.take k) l1.length ?_ ?_
  · exact ⟨0, by omega, rfl, by simp, by simp, by simp, by simp, ⟨by (try simp only [pushed_next', upded_next']); omega, fun i hi => by simp -implicitDefEqProofs (disch := omega) []⟩, by simp⟩
  rintro z f s' ⟨k, hk, rfl, hm, g0, g1, g5, hkp, hz⟩
  by_cases hlt : k < l1.length
  · have hlt2 : k < l2.length := by omega
    have hlt' : (k : Int) < l1.length := by omega
    obtain ⟨x, hx⟩ : ∃ x, l1[k]? = some x := ⟨l1[k], by simp [hlt]⟩
    obtain ⟨y, hy⟩ : ∃ y, l2[k]? = some y := ⟨l2[k], by simp [hlt2]⟩
    obtain ⟨b, off, o, cs, gg, rfl, hb, ho, hc, ht⟩ := SpAt.at (h1.keep hkp) hx
    obtain ⟨b', off', o', cs', gg', rfl, hb', ho', hc', ht'⟩ := SpAt.at (h2.keep hkp) hy
    have q1 := s1 x (List.mem_of_getElem? hx)
    have q2 := s2 y (List.mem_of_getElem? hy)
    have hEq := aggEq23 q1.1 q1.2 q2.1 q2.2
    apply zz
    refine Cd.ra (h := ?_)
    apply Run.by_eq
    · intro self
      conv => lhs; simp -implicitDefEqProofs (maxSteps := 300000) (disch := omega) [-getElem?_pos, -getElem?_neg, g5, g0, hlt']
    try (with_reducible refine Run.ret ?_)
    apply zz
    apply Cd.ite rfl
    · conv => lhs; simp -implicitDefEqProofs (maxSteps := 300000) (disch := omega) [-getElem?_pos, -getElem?_neg]
    all_goals intro c1
    all_goals try (cases c1; done)
    all_goals try simp only [Bool.not_eq_true', Bool.not_eq_false', decide_eq_true_eq, decide_eq_false_iff_not] at c1
    all_goals apply zz
    by_cases hxy : x = y
    · have hd : decide (x.1 = y.1 ∧ x.2 = y.2) = true := by simp [hxy]
      rw [hd] at hEq
      apply zz
      refine Cd.drawn (pl := [(0, 0, false, false), (1, 0, false, false), (2, 3, false, false), (3, 7, false, false), (4, 0, false, false), (5, 0, false, false), (6, 48, false, false), (7, 112, false, false), (8, 255, false, false)]) (by kernel_rfl) (by conv => lhs; simp only [List.map_cons, List.map_nil]) (by conv => lhs; simp [strip, ordered]) ?_
      apply Run.by_eq
      · intro self
        conv => lhs; simp -implicitDefEqProofs (maxSteps := 300000) (disch := omega) [filter_bt, -getElem?_pos, -getElem?_neg, g0, g1, g5, hlt, hlt2, ho, hc, ht, ho', hc', ht', hEq, e1, e2]
      try (with_reducible refine Run.ret ?_)
      apply zz
      apply Cd.ite rfl
      · conv => lhs; simp -implicitDefEqProofs (maxSteps := 300000) (disch := omega) [-getElem?_pos, -getElem?_neg]
      all_goals intro c2
      all_goals try (cases c2; done)
      all_goals try simp only [Bool.not_eq_true', Bool.not_eq_false', decide_eq_true_eq, decide_eq_false_iff_not] at c2
      all_goals apply zz
      apply zz
      refine Cd.ra (h := ?_)
      apply Run.by_eq
      · intro self
        conv => lhs; simp -implicitDefEqProofs (maxSteps := 300000) (disch := omega) [-getElem?_pos, -getElem?_neg, g5]
      try (with_reducible refine Run.ret ?_)
      apply zz
      refine LoopK.nm (l1.length - (k + 1)) (by omega) ⟨k + 1, by omega, rfl, by simp [hm], by simp [g0], by simp [g1], by simp, hkp, ?_⟩
      rw [List.take_add_one, List.take_add_one, hx, hy, hz, hxy]
    · have hd : decide (x.1 = y.1 ∧ x.2 = y.2) = false := by
        simp only [decide_eq_false_iff_not]; rintro ⟨p1, p2⟩; exact hxy (Prod.ext p1 p2)
      have hd2 : decide (l1 = l2) = false := by
        simp only [decide_eq_false_iff_not]; rintro rfl; rw [hx] at hy; cases hy; exact hxy rfl
      rw [hd] at hEq
      rw [hd2]
      apply zz
      refine Cd.drawn (pl := [(0, 0, false, false), (1, 0, false, false), (2, 3, false, false), (3, 7, false, false), (4, 0, false, false), (5, 0, false, false), (6, 48, false, false), (7, 112, false, false), (8, 255, false, false)]) (by kernel_rfl) (by conv => lhs; simp only [List.map_cons, List.map_nil]) (by conv => lhs; simp [strip, ordered]) ?_
      apply Run.by_eq
      · intro self
        conv => lhs; simp -implicitDefEqProofs (maxSteps := 300000) (disch := omega) [filter_bt, -getElem?_pos, -getElem?_neg, g0, g1, g5, hlt, hlt2, ho, hc, ht, ho', hc', ht', hEq, e1, e2]
      try (with_reducible refine Run.ret ?_)
      apply zz
      apply Cd.ite rfl
      · conv => lhs; simp -implicitDefEqProofs (maxSteps := 300000) (disch := omega) [-getElem?_pos, -getElem?_neg]
      all_goals intro c2
      all_goals try (cases c2; done)
      all_goals try simp only [Bool.not_eq_true', Bool.not_eq_false', decide_eq_true_eq, decide_eq_false_iff_not] at c2
      all_goals apply zz
      apply zz
      refine Cd.ra (h := ?_)
      apply Run.by_eq
      · intro self
        conv => lhs; simp -implicitDefEqProofs (maxSteps := 300000) (disch := omega) [-getElem?_pos, -getElem?_neg]
      try (with_reducible refine Run.ret ?_)
      apply zz
      apply Leave.mk (by first | exact .inl rfl | exact .inr rfl) (by simp only [Fr.marks_put, fr0_marks, hm])
      · conv => lhs; simp -implicitDefEqProofs (disch := omega) [Try.results17, hm]
      exact ⟨rfl, hkp⟩
  · obtain rfl : k = l1.length := by omega
    have hd : decide (l1 = l2) = true := by
      rw [List.take_length, hne, List.take_length] at hz; simp [hz]
    rw [hd]
    apply zz
    refine Cd.ra (h := ?_)
    apply Run.by_eq
    · intro self
      conv => lhs; simp -implicitDefEqProofs (maxSteps := 300000) (disch := omega) [-getElem?_pos, -getElem?_neg, g5, g0]
    try (with_reducible refine Run.ret ?_)
    apply zz
    apply Cd.ite rfl
    · conv => lhs; simp -implicitDefEqProofs (maxSteps := 300000) (disch := omega) [-getElem?_pos, -getElem?_neg]
    all_goals intro c1
    all_goals try (cases c1; done)
    all_goals try simp only [Bool.not_eq_true', Bool.not_eq_false', decide_eq_true_eq, decide_eq_false_iff_not] at c1
    all_goals apply zz
    apply zz
    refine Cd.ra (h := ?_)
    apply Run.by_eq
    · intro self
      conv => lhs; simp -implicitDefEqProofs (maxSteps := 300000) (disch := omega) [-getElem?_pos, -getElem?_neg]
    try (with_reducible refine Run.ret ?_)
    apply zz
    apply Leave.mk (by first | exact .inl rfl | exact .inr rfl) (by simp only [Fr.marks_put, fr0_marks, hm])
    · conv => lhs; simp -implicitDefEqProofs (disch := omega) [Try.results17, hm]
    exact ⟨rfl, hkp⟩
end Go.Proofs.Ytnhokodcmeekhaa
namespace Go.Proofs.Ytnhokodcmeekhaa
open Go Kern
/-! Lists of weeks -/
def wkL (m : Nat) (p : Nat → Bool) : List Int := ((List.range m).filter p).map fun w : Nat => (w : Int)
theorem wkL_succ (k : Nat) (p : Nat → Bool) : wkL (k + 1) p = if p k = true then wkL k p ++ [(k : Int)] else wkL k p := by
  unfold wkL
  rw [List.range_succ, List.filter_append, List.map_append]
  cases h : p k <;> simp [h]
theorem wkL_len (m : Nat) (p : Nat → Bool) : (wkL m p).length ≤ m := by
  unfold wkL
  rw [List.length_map]
  have := List.length_filter_le p (List.range m)
  simpa using this
abbrev iC (l : List Int) : List (List Value) := l.map fun x => [Value.int .i64 x]
theorem iC_len (l : List Int) : ∀ y ∈ iC l, y.length = 1 := fun y hy => by obtain ⟨m, _, rfl⟩ := List.mem_map.1 hy; rfl
theorem iC_snoc (l : List Int) (x : Int) : iC (l ++ [x]) = iC l ++ [[.int .i64 x]] := by simp [iC]
set_option maxRecDepth 100000 in
set_option maxHeartbeats 4000000 in
theorem numbers_ev (v1 v2 : Value) (l1 l2 : List Int) (s : St) (h1 : IntsAt s v1 l1) (h2 : IntsAt s v2 l2) (hl : l1.length ≤ 1000000) (hl2 : l2.length ≤ 1000000) :
    Ev TT 28 [v1, v2] s fun r s' => r = .bool (decide (l1 = l2)) ∧ Keep s s' := by
  obtain ⟨a, c, rfl⟩ := h1.shape
  obtain ⟨a2, c2, rfl⟩ := h2.shape
  rw [List.length_map] at h1 h2 ⊢
  rw [List.length_map]
  have e1 := slAt_veq h1 4
  have e2 := slAt_veq h2 4
  refine Ev.intro (fn := Try.f28) rfl (by kernel_rfl) rfl rfl ?_
  apply zz
  refine Cd.ra (h := ?_)
  apply Run.by_eq
  · intro self
    conv => lhs; simp -implicitDefEqProofs (maxSteps := 300000) (disch := omega) [-getElem?_pos, -getElem?_neg]
  try (with_reducible refine Run.ret ?_)
  apply zz
  by_cases hne : l1.length = l2.length
  case neg =>
    have hne' : ¬ (l1.length : Int) = l2.length := by omega
    have hd : decide (l1 = l2) = false := by simp; intro e; exact hne (by rw [e])
    rw [hd]
    apply zz
    refine Cd.ra (h := ?_)
    apply Run.by_eq
    · intro self
      conv => lhs; simp -implicitDefEqProofs (maxSteps := 300000) (disch := omega) [-getElem?_pos, -getElem?_neg, hne']
    try (with_reducible refine Run.ret ?_)
    apply zz
    apply Cd.ite rfl
    · conv => lhs; simp -implicitDefEqProofs (maxSteps := 300000) (disch := omega) [-getElem?_pos, -getElem?_neg]
    all_goals intro c0
    all_goals try (cases c0; done)
    all_goals try simp only [Bool.not_eq_true', Bool.not_eq_false', decide_eq_true_eq, decide_eq_false_iff_not] at c0
    all_goals apply zz
    apply zz
    refine Cd.ra (h := ?_)
    apply Run.by_eq
    · intro self
      conv => lhs; simp -implicitDefEqProofs (maxSteps := 300000) (disch := omega) [-getElem?_pos, -getElem?_neg]
    try (with_reducible refine Run.ret ?_)
    apply zz
    apply Leave.mk (by first | exact .inl rfl | exact .inr rfl) (by simp only [Fr.marks_put, fr0_marks])
    · conv => lhs; simp -implicitDefEqProofs (disch := omega) [Try.results28]
    exact ⟨rfl, ⟨by (try simp only [pushed_next', upded_next']); omega, fun i hi => by simp -implicitDefEqProofs (disch := omega) []⟩⟩
  have hne' : (l1.length : Int) = l2.length := by omega
  apply zz
  refine Cd.ra (h := ?_)
  apply Run.by_eq
  · intro self
    conv => lhs; simp -implicitDefEqProofs (maxSteps := 300000) (disch := omega) [-getElem?_pos, -getElem?_neg, hne']
  try (with_reducible refine Run.ret ?_)
  apply zz
  apply Cd.ite rfl
  · conv => lhs; simp -implicitDefEqProofs (maxSteps := 300000) (disch := omega) [-getElem?_pos, -getElem?_neg]
  all_goals intro c0
  all_goals try (cases c0; done)
  all_goals try simp only [Bool.not_eq_true', Bool.not_eq_false', decide_eq_true_eq, decide_eq_false_iff_not] at c0
  all_goals apply zz
  apply zz
  refine Cd.ra (h := ?_)
  apply Run.by_eq
  · intro self
    conv => lhs; simp -implicitDefEqProofs (maxSteps := 300000) (disch := omega) [-getElem?_pos, -getElem?_neg]
  try (with_reducible refine Run.ret ?_)
  apply zz
  refine Cd.inv (fun z f s' => ∃ k : Nat, k ≤ l1.length ∧ z = l1.length - k ∧ f.marks = [] ∧ f.get 0 = .slice a l1.length c ∧ f.get 1 = .slice a2 l2.length c2 ∧ f.get 5 = .int .i64 k ∧ Keep s s' ∧ l1.take k = l2.take k) l1.length ?_ ?_
  · exact ⟨0, by omega, rfl, by simp, by simp, by simp, by simp, ⟨by (try simp only [pushed_next', upded_next']); omega, fun i hi => by simp -implicitDefEqProofs (disch := omega) []⟩, by simp⟩
  rintro z f s' ⟨k, hk, rfl, hm, g0, g1, g5, hkp, hz⟩
  by_cases hlt : k < l1.length
  · have hlt2 : k < l2.length := by omega
    have hlt' : (k : Int) < l1.length := by omega
    obtain ⟨x, hx⟩ : ∃ x, l1[k]? = some x := ⟨l1[k], by simp [hlt]⟩
    obtain ⟨y, hy⟩ : ∃ y, l2[k]? = some y := ⟨l2[k], by simp [hlt2]⟩
    obtain ⟨b, off, o, cs, gg, rfl, hb, ho, hc, ht⟩ := IntsAt.at (h1.keep hkp) hx
    obtain ⟨b', off', o', cs', gg', rfl, hb', ho', hc', ht'⟩ := IntsAt.at (h2.keep hkp) hy
    apply zz
    refine Cd.ra (h := ?_)
    apply Run.by_eq
    · intro self
      conv => lhs; simp -implicitDefEqProofs (maxSteps := 300000) (disch := omega) [-getElem?_pos, -getElem?_neg, g5, g0, hlt']
    try (with_reducible refine Run.ret ?_)
    apply zz
    apply Cd.ite rfl
    · conv => lhs; simp -implicitDefEqProofs (maxSteps := 300000) (disch := omega) [-getElem?_pos, -getElem?_neg]
    all_goals intro c1
    all_goals try (cases c1; done)
    all_goals try simp only [Bool.not_eq_true', Bool.not_eq_false', decide_eq_true_eq, decide_eq_false_iff_not] at c1
    all_goals apply zz
    by_cases hxy : x = y
    · apply zz
      refine Cd.drawnH (pl := [(0, 0, false, false), (1, 0, false, false), (2, 3, false, false), (3, 7, false, false), (4, 0, false, false), (5, 0, false, false), (6, 48, false, false), (7, 112, false, false), (8, 255, false, false)]) [false, false, false, false, false, false, false, false, false] (by kernel_rfl) (by decide) (by decide) (by conv => lhs; simp only [List.map_cons, List.map_nil]) (by conv => lhs; simp [strip, orderedG, flagH]) ?_
      apply Run.by_eq
      · intro self
        conv => lhs; simp -implicitDefEqProofs (maxSteps := 300000) (disch := omega) [-getElem?_pos, -getElem?_neg, g0, g1, g5, hlt, hlt2, ho, hc, ht, ho', hc', ht', hxy, e1, e2]
      try (with_reducible refine Run.ret ?_)
      apply zz
      apply Cd.ite rfl
      · conv => lhs; simp -implicitDefEqProofs (maxSteps := 300000) (disch := omega) [-getElem?_pos, -getElem?_neg]
      all_goals intro c2
      all_goals try (cases c2; done)
      all_goals try simp only [Bool.not_eq_true', Bool.not_eq_false', decide_eq_true_eq, decide_eq_false_iff_not] at c2
      all_goals apply zz
      apply zz
      refine Cd.ra (h := ?_)
      apply Run.by_eq
      · intro self
        conv => lhs; simp -implicitDefEqProofs (maxSteps := 300000) (disch := omega) [-getElem?_pos, -getElem?_neg, g5]
      try (with_reducible refine Run.ret ?_)
      apply zz
      refine LoopK.nm (l1.length - (k + 1)) (by omega) ⟨k + 1, by omega, rfl, by simp [hm], by simp [g0], by simp [g1], by simp, hkp, ?_⟩
      rw [List.take_add_one, List.take_add_one, hx, hy, hz, hxy]
    · have hd2 : decide (l1 = l2) = false := by
        simp only [decide_eq_false_iff_not]; rintro rfl; rw [hx] at hy; cases hy; exact hxy rfl
      rw [hd2]
      apply zz
      refine Cd.drawnH (pl := [(0, 0, false, false), (1, 0, false, false), (2, 3, false, false), (3, 7, false, false), (4, 0, false, false), (5, 0, false, false), (6, 48, false, false), (7, 112, false, false), (8, 255, false, false)]) [false, false, false, false, false, false, false, false, false] (by kernel_rfl) (by decide) (by decide) (by conv => lhs; simp only [List.map_cons, List.map_nil]) (by conv => lhs; simp [strip, orderedG, flagH]) ?_
      apply Run.by_eq
      · intro self
        conv => lhs; simp -implicitDefEqProofs (maxSteps := 300000) (disch := omega) [-getElem?_pos, -getElem?_neg, g0, g1, g5, hlt, hlt2, ho, hc, ht, ho', hc', ht', hxy, e1, e2]
      try (with_reducible refine Run.ret ?_)
      apply zz
      apply Cd.ite rfl
      · conv => lhs; simp -implicitDefEqProofs (maxSteps := 300000) (disch := omega) [-getElem?_pos, -getElem?_neg]
      all_goals intro c2
      all_goals try (cases c2; done)
      all_goals try simp only [Bool.not_eq_true', Bool.not_eq_false', decide_eq_true_eq, decide_eq_false_iff_not] at c2
      all_goals apply zz
      apply zz
      refine Cd.ra (h := ?_)
      apply Run.by_eq
      · intro self
        conv => lhs; simp -implicitDefEqProofs (maxSteps := 300000) (disch := omega) [-getElem?_pos, -getElem?_neg]
      try (with_reducible refine Run.ret ?_)
      apply zz
      apply Leave.mk (by first | exact .inl rfl | exact .inr rfl) (by simp only [Fr.marks_put, fr0_marks, hm])
      · conv => lhs; simp -implicitDefEqProofs (disch := omega) [Try.results28, hm]
      exact ⟨rfl, hkp⟩
  · obtain rfl : k = l1.length := by omega
    have hd : decide (l1 = l2) = true := by
      rw [List.take_length, hne, List.take_length] at hz; simp [hz]
    rw [hd]
    apply zz
    refine Cd.ra (h := ?_)
    apply Run.by_eq
    · intro self
      conv => lhs; simp -implicitDefEqProofs (maxSteps := 300000) (disch := omega) [-getElem?_pos, -getElem?_neg, g5, g0]
    try (with_reducible refine Run.ret ?_)
    apply zz
    apply Cd.ite rfl
    · conv => lhs; simp -implicitDefEqProofs (maxSteps := 300000) (disch := omega) [-getElem?_pos, -getElem?_neg]
    all_goals intro c1
    all_goals try (cases c1; done)
    all_goals try simp only [Bool.not_eq_true', Bool.not_eq_false', decide_eq_true_eq, decide_eq_false_iff_not] at c1
    all_goals apply zz
    apply zz
    refine Cd.ra (h := ?_)
    apply Run.by_eq
    · intro self
      conv => lhs; simp -implicitDefEqProofs (maxSteps := 300000) (disch := omega) [-getElem?_pos, -getElem?_neg]
    try (with_reducible refine Run.ret ?_)
    apply zz
    apply Leave.mk (by first | exact .inl rfl | exact .inr rfl) (by simp only [Fr.marks_put, fr0_marks, hm])
    · conv => lhs; simp -implicitDefEqProofs (disch := omega) [Try.results28, hm]
    exact ⟨rfl, hkp⟩
/-- The weeks in which a bound is at least some sweetness. -/
def fromB (g : Nat → Frac) (T : Frac) (w : Nat) : Bool := !aboveB T (g w)
theorem same_k (k : Nat) : ∀ l : List Value, (∀ v ∈ l, ∃ x, v = .int .i64 x) → listEq (veq (k + 1)) l l = true
  | [], _ => rfl
  | v :: r, h => by
    obtain ⟨x, rfl⟩ := h v (.head _)
    rw [listEq_cons, veq_int, same_k k r fun w hw => h w (.tail _ hw)]; rfl
theorem bc_same (n : Nat) (L H : Nat → Frac) (k : Nat) : listEq (veq (k + 1)) (bcells n L H) (bcells n L H) = true := same_k k _ fun v hv => by
  unfold bcells at hv
  cases hv with
  | head => exact ⟨_, rfl⟩
  | tail _ hv =>
    rcases List.mem_append.1 hv with hv | hv
    · exact fracs_ints L v hv
    · exact fracs_ints H v hv
theorem veq_fn {gi : FuncId} {BC : List Value} (h : listEq (veq 3) BC BC = true) : veq 5 (.func (.func gi) #[.agg BC.toArray] #[]) (.func (.func gi) #[.agg BC.toArray] #[]) = true := by
  simp [veq, listEq, h]
set_option maxRecDepth 100000 in
set_option maxHeartbeats 4000000 in
theorem weeksFrom_ev (gi : FuncId) (BC : List Value) (n : Nat) (L H : Nat → Frac) (g : Nat → Frac) (T : Frac) (s : St) (hB : BOk BC n L H) (hS3 : listEq (veq 3) BC BC = true) (hn : n ≤ 30) (hg : ∀ w s, w < n → Ev TT gi [.agg BC.toArray, .int .i64 w] s fun r s' => r = (g w).v ∧ Keep s s') (hF : ∀ w, w < n → Fits (g w) T) :
    Ev TT 58 [.agg BC.toArray, .func (.func gi) #[.agg BC.toArray] #[], T.v] s fun r s' => Keep s s' ∧ IntsAt s' r (wkL n (fromB g T)) := by
  have b1 := takeL_len hB.len
  have b2 := hB.len
  have b3 := hB.ones
  have hwk := hB.wk
  have b4 := veq_fn (gi := gi) hS3
  rw [v_eq]
  refine Ev.intro (fn := Try.f58) rfl (by kernel_rfl) rfl rfl ?_
  apply zz
  refine Cd.ra (h := ?_)
  apply Run.by_eq
  · intro self
    conv => lhs; simp -implicitDefEqProofs (maxSteps := 300000) (disch := omega) [-getElem?_pos, -getElem?_neg, b2, b3]
  try (with_reducible refine Run.ret ?_)
  apply zz
  refine Cd.ra (h := ?_)
  apply Run.by_eq
  · intro self
    conv => lhs; simp -implicitDefEqProofs (maxSteps := 300000) (disch := omega) [-getElem?_pos, -getElem?_neg]
  try (with_reducible refine Run.ret ?_)
  apply zz
  refine Cd.ra (h := ?_)
  apply Run.by_eq
  · intro self
    conv => lhs; simp -implicitDefEqProofs (maxSteps := 300000) (disch := omega) [-getElem?_pos, -getElem?_neg, hwk]
  try (with_reducible refine Run.ret ?_)
  apply zz
  refine Cd.inv (fun z f s' => ∃ k : Nat, k ≤ n ∧ z = n - k ∧ f.marks = [] ∧ f.get 1 = .func (.func gi) #[.agg BC.toArray] #[] ∧ f.get 5 = .pointer (some ⟨s.next + 1, 0, none⟩) ∧ f.get 10 = .int .i64 n ∧ f.get 11 = .int .i64 k ∧ Keep s s' ∧ s.next + 1 < s'.next ∧ s'.heap.get (s.next + 1) = some (.cells [.int .i64 T.o, .int .i64 T.u] none) ∧ OwnG 1 (s.next + 1 + 1) s' (f.get 7) (iC (wkL k (fromB g T)))) n ?_ ?_
  · exact ⟨0, by omega, rfl, by simp, by simp, by simp, by simp, by simp, ⟨by (try simp only [pushed_next', upded_next']); omega, fun i hi => by simp -implicitDefEqProofs (disch := omega) []⟩, by simp, by simp -implicitDefEqProofs (disch := omega), .inl ⟨rfl, by simp⟩⟩
  rintro z f s1 ⟨k, hk, rfl, hm, g1, g5, g10, g11, hkp, hnx, hg1, hO⟩
  have hkpa := hkp.1
  have hkpb := hkp.2
  by_cases hlt : k < n
  · have hlt' : (k : Int) < n := by omega
    have hst := wkL_succ k (fromB g T)
    have hfb : fromB g T k = !aboveB T (g k) := rfl
    have hgk := fun s => hg k s hlt
    have hfk := hF k hlt
    rw [hfb] at hst
    generalize g k = X at *
    apply zz
    refine Cd.ra (h := ?_)
    apply Run.by_eq
    · intro self
      conv => lhs; simp -implicitDefEqProofs (maxSteps := 300000) (disch := omega) [-getElem?_pos, -getElem?_neg, g10, g11, hlt']
    try (with_reducible refine Run.ret ?_)
    apply zz
    apply Cd.ite rfl
    · conv => lhs; simp -implicitDefEqProofs (maxSteps := 300000) (disch := omega) [-getElem?_pos, -getElem?_neg]
    all_goals intro c0
    all_goals try (cases c0; done)
    all_goals try simp only [Bool.not_eq_true', Bool.not_eq_false', decide_eq_true_eq, decide_eq_false_iff_not] at c0
    all_goals apply zz
    apply zz
    refine Cd.ra (h := ?_)
    apply Run.by_eq
    · intro self
      conv => lhs; simp -implicitDefEqProofs (maxSteps := 300000) (disch := omega) [-getElem?_pos, -getElem?_neg, g11]
    try (with_reducible refine Run.ret ?_)
    apply zz
    refine Cd.drawn (pl := [(0, 0, false, false), (1, 0, false, false), (3, 0, false, false), (2, 3, true, false), (4, 15, true, false), (5, 31, false, false)]) (by kernel_rfl) (by conv => lhs; simp only [List.map_cons, List.map_nil]) (by conv => lhs; simp [strip, ordered]) ?_
    apply Run.by_eq
    · intro self
      conv => lhs; simp -implicitDefEqProofs (maxSteps := 300000) (disch := omega) [filter_bt, (show ∀ i, Nat.testBit 3 i = decide (i < 2) from fun i => Nat.testBit_two_pow_sub_one 2 i), (show ∀ i, Nat.testBit 15 i = decide (i < 4) from fun i => Nat.testBit_two_pow_sub_one 4 i), -getElem?_pos, -getElem?_neg, g1, g5, hg1, b4]
    try (with_reducible refine Run.ret ?_)
    apply zz
    refine Run.call ((hgk _).mono fun v wp hv => ?_)
    obtain ⟨rfl, p⟩ := hv
    have pa := p.1
    have pb := p.2
    try simp only [pushed_next', upded_next'] at pa pb
    have p1 := (pb _ (by omega)).trans hg1
    apply Run.by_eq
    · intro self
      conv => lhs; simp -implicitDefEqProofs (maxSteps := 300000) (disch := omega) [-getElem?_pos, -getElem?_neg, g1, g5, p1, b4]
    try (with_reducible refine Run.ret ?_)
    apply zz
    rw [← v_eq]
    refine Run.call ((below_ev X T _ hfk).mono fun v wq hv => ?_)
    obtain ⟨rfl, q⟩ := hv
    have qa := q.1
    have qb := q.2
    try simp only [pushed_next', upded_next'] at qa qb
    have q1 := (qb _ (by omega)).trans p1
    have kq : Keep s1 wq := ⟨by omega, fun i hi => (qb i (by omega)).trans (pb i hi)⟩
    cases hab : aboveB T X with
    | true =>
      rw [hab, if_neg (by decide)] at hst
      apply Run.by_eq
      · intro self
        conv => lhs; simp -implicitDefEqProofs (maxSteps := 300000) (disch := omega) [-getElem?_pos, -getElem?_neg, g1, g5, q1, b4]
      try (with_reducible refine Run.ret ?_)
      apply zz
      apply Cd.ite rfl
      · conv => lhs; simp -implicitDefEqProofs (maxSteps := 300000) (disch := omega) [-getElem?_pos, -getElem?_neg]
      all_goals intro c1
      all_goals try (cases c1; done)
      all_goals try simp only [Bool.not_eq_true', Bool.not_eq_false', decide_eq_true_eq, decide_eq_false_iff_not] at c1
      all_goals apply zz
      apply zz
      refine Cd.ra (h := ?_)
      apply Run.by_eq
      · intro self
        conv => lhs; simp -implicitDefEqProofs (maxSteps := 300000) (disch := omega) [-getElem?_pos, -getElem?_neg, g11]
      try (with_reducible refine Run.ret ?_)
      apply zz
      refine LoopK.nm (n - (k + 1)) (by omega) ⟨k + 1, by omega, rfl, by simp [hm], by simp [g1], by simp [g5], by simp [g10], by simp, ⟨by (try simp only [pushed_next', upded_next']); omega, fun i hi => by simp -implicitDefEqProofs (disch := omega) [qb, pb, hkpb]⟩, by omega, q1, ?_⟩
      rw [hst]; simpa using hO.keepK kq
    | false =>
      rw [hab, if_pos (by decide)] at hst
      have kx2 : Keep s1 (wq.pushed (.cells [.int .i64 k] none)) := kq.pushed _
      have hll := wkL_len k (fromB g T)
      have hrl : (iC (wkL k (fromB g T))).length = (wkL k (fromB g T)).length := by simp
      obtain ⟨s4, happ, hn4, hk4, hO4⟩ := app_one (n := 1) (b2 := wq.next) (x := [.int .i64 k]) (g := none) (hO.keepK kx2) (iC_len _) rfl rfl (get_pushed_new _ _) (by (try simp only [pushed_next']); omega) (by omega)
      simp only [pushed_next', hrl] at happ hn4 hO4
      apply Run.by_eq
      · intro self
        conv => lhs; simp -implicitDefEqProofs (maxSteps := 300000) (disch := omega) [-getElem?_pos, -getElem?_neg, g1, g5, q1, b4]
      try (with_reducible refine Run.ret ?_)
      apply zz
      apply Cd.ite rfl
      · conv => lhs; simp -implicitDefEqProofs (maxSteps := 300000) (disch := omega) [-getElem?_pos, -getElem?_neg]
      all_goals intro c1
      all_goals try (cases c1; done)
      all_goals try simp only [Bool.not_eq_true', Bool.not_eq_false', decide_eq_true_eq, decide_eq_false_iff_not] at c1
      all_goals apply zz
      apply zz
      refine Cd.ra (h := ?_)
      apply Run.by_eq
      · intro self
        conv => lhs; simp -implicitDefEqProofs (maxSteps := 300000) (disch := omega) [-getElem?_pos, -getElem?_neg, happ]
      try (with_reducible refine Run.ret ?_)
      apply zz
      refine Cd.ra (h := ?_)
      apply Run.by_eq
      · intro self
        conv => lhs; simp -implicitDefEqProofs (maxSteps := 300000) (disch := omega) [-getElem?_pos, -getElem?_neg, g11]
      try (with_reducible refine Run.ret ?_)
      apply zz
      refine LoopK.nm (n - (k + 1)) (by omega) ⟨k + 1, by omega, rfl, by simp [hm], by simp [g1], by simp [g5], by simp [g10], by simp, ⟨by omega, fun i hi => (hk4 i (by omega)).trans ((kx2.2 i (by omega)).trans (hkpb i hi))⟩, by omega, (hk4 _ (by omega)).trans ((kx2.2 _ (by omega)).trans hg1), ?_⟩
      rw [hst, iC_snoc]; simpa using hO4
  · obtain rfl : k = n := by omega
    have ho1 : oneV (f.get 7) = true := by
      rcases hO with ⟨_, e3⟩ | ⟨_, e3, _⟩ <;> rw [e3] <;> rfl
    apply zz
    refine Cd.ra (h := ?_)
    apply Run.by_eq
    · intro self
      conv => lhs; simp -implicitDefEqProofs (maxSteps := 300000) (disch := omega) [-getElem?_pos, -getElem?_neg, g10, g11]
    try (with_reducible refine Run.ret ?_)
    apply zz
    apply Cd.ite rfl
    · conv => lhs; simp -implicitDefEqProofs (maxSteps := 300000) (disch := omega) [-getElem?_pos, -getElem?_neg]
    all_goals intro c0
    all_goals try (cases c0; done)
    all_goals try simp only [Bool.not_eq_true', Bool.not_eq_false', decide_eq_true_eq, decide_eq_false_iff_not] at c0
    all_goals apply zz
    apply zz
    refine Cd.ra (h := ?_)
    apply Run.by_eq
    · intro self
      conv => lhs; simp -implicitDefEqProofs (maxSteps := 300000) (disch := omega) [-getElem?_pos, -getElem?_neg]
    try (with_reducible refine Run.ret ?_)
    apply zz
    apply Leave.mk (by first | exact .inl rfl | exact .inr rfl) (by simp only [Fr.marks_put, fr0_marks, hm])
    · conv => lhs; simp -implicitDefEqProofs (disch := omega) [Try.results58, hm]
    exact ⟨hkp, hO.sl (iC_len _)⟩
end Go.Proofs.Ytnhokodcmeekhaa
namespace Go.Proofs.Ytnhokodcmeekhaa
open Go Kern
/-! A part of an array as a slice -/
noncomputable def sliceA (len n : Nat) (x : Value) (lo hi : Option Value) (H : Tree AObj) : Option Value :=
  ob (addrOf x) fun p => ob (cellsAt H p.1) fun c => gd c.2.isNone (ob (boundF hi len len) fun h => ob (boundF lo h 0) fun l =>
    gd (Nat.ble l h && Nat.ble h len) (some (.slice (some ⟨p.1, bt (Nat.blt l len) (p.2 + l * n) p.2, none⟩) (h - l) (len - l))))
@[simp] theorem vSliceA_def (len n : Nat) (x : Operand) (lo hi : Option Operand) (ρ : Env) (H : Tree AObj) : vSliceA len n x lo hi ρ H = sliceA len n (ρ x) (lo.map ρ) (hi.map ρ) H := rfl
theorem act_sliceA {T : Tab} {self : Self} {f : Fr} {s : St} (t : TypeId) (x : Operand) (lo hi : Option Operand) {e : TypeId} {n len : Nat} (h1 : T.und t = some (.array len e)) (h2 : T.size e = some n) :
    actO T self (.slice t x lo hi none) f s = pureR (vSliceA len n x lo hi f.eval s.heap) s := by
  show ob (ob (T.und t) _) _ = _
  rw [h1]
  show ob (ob (T.size e) _) _ = _
  rw [h2]; rfl
@[simp] theorem o_slice_91 {self : Self} {f : Fr} {s : St} {x : Operand} {lo hi : Option Operand} : actO TT self (.slice 91 x lo hi none) f s = pureR (vSliceA 30 2 x lo hi f.eval s.heap) s := act_sliceA 91 x lo hi und_91 size_90
theorem sliceA_1 {P m : Nat} (h1 : 1 ≤ m) (h2 : m ≤ 30) (H : Tree AObj) : sliceA 30 2 (.pointer (some ⟨P, 1, none⟩)) (some (.int .i64 1)) (some (.int .i64 (m : Int))) H = ob (H.get P) fun o => ob (cellsOf o) fun c => gd c.2.isNone (some (.slice (some ⟨P, 3, none⟩) (m - 1) 29)) := by
  have e1 : boundF (some (.int .i64 (m : Int))) 30 30 = some m := by
    show (match Nat.ble m 30 with | true => some m | false => none) = _
    rw [Nat.ble_eq_true_of_le h2]
  have e2 : boundF (some (.int .i64 1)) m 0 = some 1 := by
    show (match Nat.ble 1 m with | true => some 1 | false => none) = _
    rw [Nat.ble_eq_true_of_le h1]
  show ob (cellsAt H P) (fun c => gd c.2.isNone (ob (boundF (some (.int .i64 (m : Int))) 30 30) _)) = _
  rw [e1]
  show ob (cellsAt H P) (fun c => gd c.2.isNone (ob (boundF (some (.int .i64 1)) m 0) _)) = _
  rw [e2]
  show ob (ob (H.get P) cellsOf) (fun c => gd c.2.isNone (gd (Nat.ble 1 m && Nat.ble m 30) (some (Value.slice (some ⟨P, 3, none⟩) (m - 1) 29)))) = _
  rw [Nat.ble_eq_true_of_le h1, Nat.ble_eq_true_of_le h2]
  show ob (ob (H.get P) cellsOf) (fun c => gd c.2.isNone (some (Value.slice (some ⟨P, 3, none⟩) (m - 1) 29))) = _
  cases H.get P <;> rfl
/-! Peaks, and ripe weeks -/
/-- An answer: the error of Check, that of a clash, or what is good. -/
def Ans (n lo hi : Int) (ss : List SampD) (e : Int) (bad good : Prop) : Prop :=
  (fieldErr n lo hi ss ≠ 0 ∧ e = fieldErr n lo hi ss ∧ bad) ∨
  (fieldErr n lo hi ss = 0 ∧ e = 12 ∧ bad ∧ ∃ i j k, i < n.toNat ∧ j < n.toNat ∧ k < n.toNat ∧ hB lo hi ss i j k = true) ∨
  (fieldErr n lo hi ss = 0 ∧ e = 0 ∧ good ∧ ∀ i j k, i < n.toNat → j < n.toNat → k < n.toNat → hB lo hi ss i j k = false)
theorem fr_arr {s : St} {P m : Nat} {BC : List Value} {L : Nat → Frac} (hb : P < s.next) (h : s.heap.get P = some (.cells BC none)) (hlos : ∀ w, w < 30 → takeL 2 (BC.drop (1 + w * 2)) = some [.int .i64 (L w).o, .int .i64 (L w).u]) (h1 : 1 ≤ m) (h2 : m ≤ 30) :
    FrAt s (.slice (some ⟨P, 3, none⟩) (m - 1) 29) ((List.range (m - 1)).map fun j => L (j + 1)) := by
  have := SlAt.mk (n := 2) (s := s) (off := 3) (c := 29) (l := ((List.range (m - 1)).map fun j => L (j + 1)).map Frac.cs) hb h rfl (fun i e he => ?_)
  · rw [List.length_map, List.length_map, List.length_range] at this; exact this
  · rw [List.getElem?_map, List.getElem?_map] at he
    by_cases hi : i < m - 1
    · rw [List.getElem?_range hi] at he
      cases he
      have := hlos (i + 1) (by omega)
      rw [show 3 + i * 2 = 1 + (i + 1) * 2 by omega]
      exact this
    · rw [List.getElem?_eq_none (by simp; omega)] at he; cases he
def topF (m : Nat) (L : Nat → Frac) : Frac := foreF aboveB (L 0) ((List.range (m - 1)).map fun j => L (j + 1))
def LF (n lo hi : Int) (ss : List SampD) : Nat → Frac := (bndN n.toNat lo hi ss).1
def HF (n lo hi : Int) (ss : List SampD) : Nat → Frac := (bndN n.toNat lo hi ss).2
def UF (n lo hi : Int) (ss : List SampD) : Nat → Frac := upF n.toNat (LF n lo hi ss) (HF n lo hi ss)
def WF (n lo hi : Int) (ss : List SampD) : Nat → Frac := lowF n.toNat (LF n lo hi ss)
set_option maxRecDepth 100000 in
set_option maxHeartbeats 4000000 in
theorem peaks_ev (n lo hi : Int) (v : Value) (ss : List SampD) (s : St) (hs : SmAt s v ss) (hl : ss.length ≤ 1000000) : Ev TT 24 [fieldV n lo hi v] s fun r s' => Keep s s' ∧ ∃ w e, r = .tuple #[w, .int .i64 e] ∧ Ans n lo hi ss e (w = .slice none 0 0) (IntsAt s' w (wkL n.toNat (fromB (UF n lo hi ss) (topF n.toNat (LF n lo hi ss))))) := by
  have hck := possible_ev n lo hi v ss
  obtain ⟨a, c, rfl⟩ := hs.shape
  rw [List.length_map] at hs hck ⊢
  unfold fieldV at hck ⊢
  refine Ev.intro (fn := Try.f24) rfl (by kernel_rfl) rfl rfl ?_
  apply zz
  refine Cd.ra (h := ?_)
  apply Run.by_eq
  · intro self
    conv => lhs; simp -implicitDefEqProofs (maxSteps := 300000) (disch := omega) [-getElem?_pos, -getElem?_neg]
  try (with_reducible refine Run.ret ?_)
  apply zz
  refine Cd.ra (h := ?_)
  apply Run.by_eq
  · intro self
    conv => lhs; simp -implicitDefEqProofs (maxSteps := 300000) (disch := omega) [-getElem?_pos, -getElem?_neg]
  try (with_reducible refine Run.ret ?_)
  apply zz
  refine Run.call ((hck _ (hs.keep ⟨by (try simp only [pushed_next', upded_next']); omega, fun i hi => by simp -implicitDefEqProofs (disch := omega) []⟩) hl).mono fun v wy hv => ?_)
  obtain ⟨y, BC, e, rfl, b2, b3, b4, hP⟩ := hv
  have ya := y.1
  have yb := y.2
  have b1 := takeL_len b2
  try simp only [pushed_next', upded_next'] at ya yb
  have hov := ov_zero b2
  simp only [List.reduceReplicate] at hov
  apply Run.by_eq
  · intro self
    conv => lhs; simp -implicitDefEqProofs (maxSteps := 300000) (disch := omega) [-getElem?_pos, -getElem?_neg, b1, b2, b3, hov]
  try (with_reducible refine Run.ret ?_)
  apply zz
  rcases hP with ⟨h1, rfl⟩ | ⟨h1, rfl, hc⟩ | ⟨h1, rfl, rfl, hc⟩
  · apply zz
    refine Cd.ra (h := ?_)
    apply Run.by_eq
    · intro self
      conv => lhs; simp -implicitDefEqProofs (maxSteps := 300000) (disch := omega) [-getElem?_pos, -getElem?_neg, h1]
    try (with_reducible refine Run.ret ?_)
    apply zz
    apply Cd.ite rfl
    · conv => lhs; simp -implicitDefEqProofs (maxSteps := 300000) (disch := omega) [-getElem?_pos, -getElem?_neg]
    all_goals intro c0
    all_goals try (cases c0; done)
    all_goals try simp only [Bool.not_eq_true', Bool.not_eq_false', decide_eq_true_eq, decide_eq_false_iff_not] at c0
    all_goals apply zz
    apply zz
    refine Cd.ra (h := ?_)
    apply Run.by_eq
    · intro self
      conv => lhs; simp -implicitDefEqProofs (maxSteps := 300000) (disch := omega) [-getElem?_pos, -getElem?_neg]
    try (with_reducible refine Run.ret ?_)
    apply zz
    apply Leave.mk (by first | exact .inl rfl | exact .inr rfl) (by simp only [Fr.marks_put, fr0_marks])
    · conv => lhs; simp -implicitDefEqProofs (disch := omega) [Try.results24]
    exact ⟨⟨by (try simp only [pushed_next', upded_next']); omega, fun i hi => by simp -implicitDefEqProofs (disch := omega) [yb]⟩, _, _, rfl, .inl ⟨h1, rfl, rfl⟩⟩
  · apply zz
    refine Cd.ra (h := ?_)
    apply Run.by_eq
    · intro self
      conv => lhs; simp -implicitDefEqProofs (maxSteps := 300000) (disch := omega) [-getElem?_pos, -getElem?_neg]
    try (with_reducible refine Run.ret ?_)
    apply zz
    apply Cd.ite rfl
    · conv => lhs; simp -implicitDefEqProofs (maxSteps := 300000) (disch := omega) [-getElem?_pos, -getElem?_neg]
    all_goals intro c0
    all_goals try (cases c0; done)
    all_goals try simp only [Bool.not_eq_true', Bool.not_eq_false', decide_eq_true_eq, decide_eq_false_iff_not] at c0
    all_goals apply zz
    apply zz
    refine Cd.ra (h := ?_)
    apply Run.by_eq
    · intro self
      conv => lhs; simp -implicitDefEqProofs (maxSteps := 300000) (disch := omega) [-getElem?_pos, -getElem?_neg]
    try (with_reducible refine Run.ret ?_)
    apply zz
    apply Leave.mk (by first | exact .inl rfl | exact .inr rfl) (by simp only [Fr.marks_put, fr0_marks])
    · conv => lhs; simp -implicitDefEqProofs (disch := omega) [Try.results24]
    exact ⟨⟨by (try simp only [pushed_next', upded_next']); omega, fun i hi => by simp -implicitDefEqProofs (disch := omega) [yb]⟩, _, _, rfl, .inr (.inl ⟨h1, rfl, rfl, hc⟩)⟩
  obtain ⟨m, rfl⟩ : ∃ m : Nat, n = m := ⟨n.toNat, by have := (fieldErr_ok h1).1; omega⟩
  unfold UF LF HF
  simp only [Int.toNat_natCast] at hc b1 b2 b3 b4 hov ⊢
  obtain ⟨hm, hb⟩ := base_ok h1
  have hv := fun w hw => vals_ok h1 hc (w := w) hw
  have hL : ∀ i, i < m → Mid 60000 1 ((bndN m lo hi ss).1 i) := fun i hi => (hb i hi).1.mid
  have hmo := fun w s hw => most_ev 60000 1 _ m (bndN m lo hi ss).1 (bndN m lo hi ss).2 w s (bOk m _ _) (by omega) hw (by decide) (by decide) (by decide) (by decide) (by decide) hL fun i hi => (hb i hi).2.1.mid
  have hOK := bOk m (bndN m lo hi ss).1 (bndN m lo hi ss).2
  have hwk := hOK.wk
  have hlo : takeL 2 (bcells m (bndN m lo hi ss).1 (bndN m lo hi ss).2).tail = some [.int .i64 ((bndN m lo hi ss).1 0).o, .int .i64 ((bndN m lo hi ss).1 0).u] := by have := hOK.lo 0 (by omega); simpa using this
  have hlos := hOK.lo
  have hS3 := bc_same m (bndN m lo hi ss).1 (bndN m lo hi ss).2 2
  have b5 := veq_fn (gi := 43) hS3
  have hsl := sliceA_1 (m := m) (P := wy.next) (by omega) (by omega)
  generalize bcells m (bndN m lo hi ss).1 (bndN m lo hi ss).2 = BC at *
  have hT : ∀ x ∈ (List.range (m - 1)).map (fun j => (bndN m lo hi ss).1 (j + 1)), Mid 60000 1 x := fun x hx => by
    obtain ⟨j, hj, rfl⟩ := List.mem_map.1 hx
    exact hL _ (by have : j < m - 1 := by simpa using hj
                   omega)
  have hTm : Mid 3600000 30 (topF m (bndN m lo hi ss).1) := (fore_mid (hL 0 (by omega)) hT).mono (by decide) (by decide)
  have htop : topF m (bndN m lo hi ss).1 = foreF aboveB ((bndN m lo hi ss).1 0) ((List.range (m - 1)).map fun j => (bndN m lo hi ss).1 (j + 1)) := rfl
  have hwf := fun s => weeksFrom_ev 43 BC m (bndN m lo hi ss).1 (bndN m lo hi ss).2 (upF m (bndN m lo hi ss).1 (bndN m lo hi ss).2) (topF m (bndN m lo hi ss).1) s hOK hS3 (by omega) hmo fun w hw => (hv w hw).2.2.fits hTm (by decide)
  have hgr := fun v s (h : FrAt s v ((List.range (m - 1)).map fun j => (bndN m lo hi ss).1 (j + 1))) => greatest_ev ((bndN m lo hi ss).1 0) v _ s h (by simp; omega) fun x hx y hy => (hT x hx).fits (by
    rcases hy with rfl | hy
    · exact hL 0 (by omega)
    · exact hT y hy) (by decide)
  rw [← htop] at hgr
  generalize topF m (bndN m lo hi ss).1 = T at *
  apply zz
  refine Cd.ra (h := ?_)
  apply Run.by_eq
  · intro self
    conv => lhs; simp -implicitDefEqProofs (maxSteps := 300000) (disch := omega) [-getElem?_pos, -getElem?_neg]
  try (with_reducible refine Run.ret ?_)
  apply zz
  apply Cd.ite rfl
  · conv => lhs; simp -implicitDefEqProofs (maxSteps := 300000) (disch := omega) [-getElem?_pos, -getElem?_neg]
  all_goals intro c0
  all_goals try (cases c0; done)
  all_goals try simp only [Bool.not_eq_true', Bool.not_eq_false', decide_eq_true_eq, decide_eq_false_iff_not] at c0
  all_goals apply zz
  apply zz
  refine Cd.drawn (pl := [(0, 0, false, false), (1, 0, false, false), (2, 2, false, false), (3, 0, false, false), (4, 8, false, false), (5, 24, false, false), (6, 0, false, false), (7, 0, false, false), (8, 128, false, false), (9, 448, false, false), (10, 1016, true, false), (11, 2047, true, false), (12, 4095, false, false), (13, 8191, false, false)]) (by kernel_rfl) (by conv => lhs; simp only [List.map_cons, List.map_nil]) (by conv => lhs; simp [strip, ordered]) ?_
  apply Run.by_eq
  · intro self
    conv => lhs; simp -implicitDefEqProofs (maxSteps := 300000) (disch := omega) [filter_bt, (show Nat.testBit 1016 0 = false from rfl), (show Nat.testBit 1016 1 = false from rfl), (show Nat.testBit 1016 2 = false from rfl), (show Nat.testBit 1016 3 = true from rfl), (show Nat.testBit 1016 4 = true from rfl), (show Nat.testBit 1016 5 = true from rfl), (show Nat.testBit 1016 6 = true from rfl), (show Nat.testBit 1016 7 = true from rfl), (show Nat.testBit 1016 8 = true from rfl), (show Nat.testBit 1016 9 = true from rfl), (show ∀ i, Nat.testBit 2047 i = decide (i < 11) from fun i => Nat.testBit_two_pow_sub_one 11 i), -getElem?_pos, -getElem?_neg, b1, b4, hwk, hlo, hsl, b5]
  try (with_reducible refine Run.ret ?_)
  apply zz
  refine Run.call ((hgr _ _ (fr_arr (by simp) (by simp -implicitDefEqProofs (disch := omega)) hlos (by omega) (by omega))).mono fun v wz hv => ?_)
  obtain ⟨rfl, z⟩ := hv
  have za := z.1
  have zb := z.2
  try simp only [pushed_next', upded_next'] at za zb
  have z0 : wz.heap.get wy.next = some (.cells BC none) := by rw [zb _ (by omega)]; simp -implicitDefEqProofs (disch := omega)
  apply Run.by_eq
  · intro self
    conv => lhs; simp -implicitDefEqProofs (maxSteps := 300000) (disch := omega) [-getElem?_pos, -getElem?_neg, z0, b1, b4, hwk, hlo, hsl, b5]
  try (with_reducible refine Run.ret ?_)
  apply zz
  refine Run.call ((hwf _).mono fun v wu hv => ?_)
  obtain ⟨u, hu⟩ := hv
  have ua := u.1
  have ub := u.2
  have u0 := (ub _ (by omega)).trans z0
  have hvv : veq 5 v v = true := veq_sl (k := 4) hu
  have ho1 : oneV v = true := by
    obtain ⟨a, c, rfl⟩ := hu.shape; rfl
  apply Run.by_eq
  · intro self
    conv => lhs; simp -implicitDefEqProofs (maxSteps := 300000) (disch := omega) [-getElem?_pos, -getElem?_neg, u0, b1, b4, hwk, hlo, hsl, b5, hvv]
  try (with_reducible refine Run.ret ?_)
  apply zz
  apply Leave.mk (by first | exact .inl rfl | exact .inr rfl) (by simp only [Fr.marks_put, fr0_marks])
  · conv => lhs; simp -implicitDefEqProofs (disch := omega) [Try.results24]
  exact ⟨⟨by (try simp only [pushed_next', upded_next']); omega, fun i hi => by simp -implicitDefEqProofs (disch := omega) [ub, zb, yb]⟩, _, _, rfl, .inr (.inr ⟨h1, rfl, hu, hc⟩)⟩
def limI (least : Int) : Int := min (max least 0) 30001
set_option maxRecDepth 100000 in
set_option maxHeartbeats 4000000 in
theorem ripe_ev (n lo hi least : Int) (v : Value) (ss : List SampD) (s : St) (hs : SmAt s v ss) (hl : ss.length ≤ 1000000) : Ev TT 26 [fieldV n lo hi v, .int .i64 least] s fun r s' => Keep s s' ∧ ∃ w1 w2 e, r = .tuple #[w1, w2, .int .i64 e] ∧ Ans n lo hi ss e (w1 = .slice none 0 0 ∧ w2 = .slice none 0 0) (IntsAt s' w1 (wkL n.toNat (fromB (WF n lo hi ss) ⟨limI least, 1⟩)) ∧ IntsAt s' w2 (wkL n.toNat (fromB (UF n lo hi ss) ⟨limI least, 1⟩))) := by
  have hck := possible_ev n lo hi v ss
  obtain ⟨a, c, rfl⟩ := hs.shape
  rw [List.length_map] at hs hck ⊢
  unfold fieldV at hck ⊢
  refine Ev.intro (fn := Try.f26) rfl (by kernel_rfl) rfl rfl ?_
  apply zz
  refine Cd.ra (h := ?_)
  apply Run.by_eq
  · intro self
    conv => lhs; simp -implicitDefEqProofs (maxSteps := 300000) (disch := omega) [-getElem?_pos, -getElem?_neg]
  try (with_reducible refine Run.ret ?_)
  apply zz
  refine Cd.ra (h := ?_)
  apply Run.by_eq
  · intro self
    conv => lhs; simp -implicitDefEqProofs (maxSteps := 300000) (disch := omega) [-getElem?_pos, -getElem?_neg]
  try (with_reducible refine Run.ret ?_)
  apply zz
  refine Run.call ((hck _ (hs.keep ⟨by (try simp only [pushed_next', upded_next']); omega, fun i hi => by simp -implicitDefEqProofs (disch := omega) []⟩) hl).mono fun v wy hv => ?_)
  obtain ⟨y, BC, e, rfl, b2, b3, b4, hP⟩ := hv
  have ya := y.1
  have yb := y.2
  have b1 := takeL_len b2
  try simp only [pushed_next', upded_next'] at ya yb
  have hov := ov_zero b2
  simp only [List.reduceReplicate] at hov
  apply Run.by_eq
  · intro self
    conv => lhs; simp -implicitDefEqProofs (maxSteps := 300000) (disch := omega) [-getElem?_pos, -getElem?_neg, b1, b2, b3, hov]
  try (with_reducible refine Run.ret ?_)
  apply zz
  rcases hP with ⟨h1, rfl⟩ | ⟨h1, rfl, hc⟩ | ⟨h1, rfl, rfl, hc⟩
  · apply zz
    refine Cd.ra (h := ?_)
    apply Run.by_eq
    · intro self
      conv => lhs; simp -implicitDefEqProofs (maxSteps := 300000) (disch := omega) [-getElem?_pos, -getElem?_neg, h1]
    try (with_reducible refine Run.ret ?_)
    apply zz
    apply Cd.ite rfl
    · conv => lhs; simp -implicitDefEqProofs (maxSteps := 300000) (disch := omega) [-getElem?_pos, -getElem?_neg]
    all_goals intro c0
    all_goals try (cases c0; done)
    all_goals try simp only [Bool.not_eq_true', Bool.not_eq_false', decide_eq_true_eq, decide_eq_false_iff_not] at c0
    all_goals apply zz
    apply zz
    refine Cd.ra (h := ?_)
    apply Run.by_eq
    · intro self
      conv => lhs; simp -implicitDefEqProofs (maxSteps := 300000) (disch := omega) [-getElem?_pos, -getElem?_neg]
    try (with_reducible refine Run.ret ?_)
    apply zz
    apply Leave.mk (by first | exact .inl rfl | exact .inr rfl) (by simp only [Fr.marks_put, fr0_marks])
    · conv => lhs; simp -implicitDefEqProofs (disch := omega) [Try.results26]
    exact ⟨⟨by (try simp only [pushed_next', upded_next']); omega, fun i hi => by simp -implicitDefEqProofs (disch := omega) [yb]⟩, _, _, _, rfl, .inl ⟨h1, rfl, rfl, rfl⟩⟩
  · apply zz
    refine Cd.ra (h := ?_)
    apply Run.by_eq
    · intro self
      conv => lhs; simp -implicitDefEqProofs (maxSteps := 300000) (disch := omega) [-getElem?_pos, -getElem?_neg]
    try (with_reducible refine Run.ret ?_)
    apply zz
    apply Cd.ite rfl
    · conv => lhs; simp -implicitDefEqProofs (maxSteps := 300000) (disch := omega) [-getElem?_pos, -getElem?_neg]
    all_goals intro c0
    all_goals try (cases c0; done)
    all_goals try simp only [Bool.not_eq_true', Bool.not_eq_false', decide_eq_true_eq, decide_eq_false_iff_not] at c0
    all_goals apply zz
    apply zz
    refine Cd.ra (h := ?_)
    apply Run.by_eq
    · intro self
      conv => lhs; simp -implicitDefEqProofs (maxSteps := 300000) (disch := omega) [-getElem?_pos, -getElem?_neg]
    try (with_reducible refine Run.ret ?_)
    apply zz
    apply Leave.mk (by first | exact .inl rfl | exact .inr rfl) (by simp only [Fr.marks_put, fr0_marks])
    · conv => lhs; simp -implicitDefEqProofs (disch := omega) [Try.results26]
    exact ⟨⟨by (try simp only [pushed_next', upded_next']); omega, fun i hi => by simp -implicitDefEqProofs (disch := omega) [yb]⟩, _, _, _, rfl, .inr (.inl ⟨h1, rfl, ⟨rfl, rfl⟩, hc⟩)⟩
  obtain ⟨m, rfl⟩ : ∃ m : Nat, n = m := ⟨n.toNat, by have := (fieldErr_ok h1).1; omega⟩
  unfold UF WF LF HF
  simp only [Int.toNat_natCast] at hc b1 b2 b3 b4 hov ⊢
  obtain ⟨hm, hb⟩ := base_ok h1
  have hv := fun w hw => vals_ok h1 hc (w := w) hw
  have hL : ∀ i, i < m → Mid 60000 1 ((bndN m lo hi ss).1 i) := fun i hi => (hb i hi).1.mid
  have hmo := fun w s hw => most_ev 60000 1 _ m (bndN m lo hi ss).1 (bndN m lo hi ss).2 w s (bOk m _ _) (by omega) hw (by decide) (by decide) (by decide) (by decide) (by decide) hL fun i hi => (hb i hi).2.1.mid
  have hle := fun w s hw => least_ev 60000 1 _ m (bndN m lo hi ss).1 (bndN m lo hi ss).2 w s (bOk m _ _) (by omega) hw (by decide) (by decide) (by decide) (by decide) (by decide) hL
  have hOK := bOk m (bndN m lo hi ss).1 (bndN m lo hi ss).2
  have hwk := hOK.wk
  have hS3 := bc_same m (bndN m lo hi ss).1 (bndN m lo hi ss).2 2
  have b5 := veq_fn (gi := 43) hS3
  have b6 := veq_fn (gi := 41) hS3
  have hlim : 0 ≤ limI least ∧ limI least ≤ 30001 := by unfold limI; omega
  have hmn : min (max least 0) 30001 = limI least := rfl
  generalize limI least = t at *
  generalize bcells m (bndN m lo hi ss).1 (bndN m lo hi ss).2 = BC at *
  have hTm : Mid 3600000 30 (⟨t, 1⟩ : Frac) := by unfold Mid; simp only []; omega
  have hwf := fun s => weeksFrom_ev 43 BC m (bndN m lo hi ss).1 (bndN m lo hi ss).2 (upF m (bndN m lo hi ss).1 (bndN m lo hi ss).2) ⟨t, 1⟩ s hOK hS3 (by omega) hmo fun w hw => (hv w hw).2.2.fits hTm (by decide)
  have hwl := fun s => weeksFrom_ev 41 BC m (bndN m lo hi ss).1 (bndN m lo hi ss).2 (lowF m (bndN m lo hi ss).1) ⟨t, 1⟩ s hOK hS3 (by omega) hle fun w hw => (hv w hw).1.2.fits hTm (by decide)
  rw [v_eq] at hwf hwl
  simp only [] at hwf hwl
  apply zz
  refine Cd.ra (h := ?_)
  apply Run.by_eq
  · intro self
    conv => lhs; simp -implicitDefEqProofs (maxSteps := 300000) (disch := omega) [-getElem?_pos, -getElem?_neg]
  try (with_reducible refine Run.ret ?_)
  apply zz
  apply Cd.ite rfl
  · conv => lhs; simp -implicitDefEqProofs (maxSteps := 300000) (disch := omega) [-getElem?_pos, -getElem?_neg]
  all_goals intro c0
  all_goals try (cases c0; done)
  all_goals try simp only [Bool.not_eq_true', Bool.not_eq_false', decide_eq_true_eq, decide_eq_false_iff_not] at c0
  all_goals apply zz
  apply zz
  refine Cd.ra (h := ?_)
  apply Run.by_eq
  · intro self
    conv => lhs; simp -implicitDefEqProofs (maxSteps := 300000) (disch := omega) [-getElem?_pos, -getElem?_neg, hmn]
  try (with_reducible refine Run.ret ?_)
  apply zz
  refine Run.call ((whole_ev t _).mono fun v wx hv => ?_)
  obtain ⟨rfl, x⟩ := hv
  have xa := x.1
  have xb := x.2
  try simp only [pushed_next', upded_next'] at xa xb
  have x0 : wx.heap.get wy.next = some (.cells BC none) := by rw [xb _ (by omega)]; simp -implicitDefEqProofs (disch := omega)
  apply Run.by_eq
  · intro self
    conv => lhs; simp -implicitDefEqProofs (maxSteps := 300000) (disch := omega) [-getElem?_pos, -getElem?_neg, v_eq]
  try (with_reducible refine Run.ret ?_)
  apply zz
  refine Cd.drawn (pl := [(0, 0, false, false), (1, 0, false, false), (2, 2, false, false), (3, 0, false, false), (5, 0, false, false), (6, 0, false, false), (7, 64, false, false), (8, 0, false, false), (4, 15, true, false), (9, 511, true, false), (10, 1023, false, false), (11, 2047, false, false), (12, 4095, false, false)]) (by kernel_rfl) (by conv => lhs; simp only [List.map_cons, List.map_nil]) (by conv => lhs; simp [strip, ordered]) ?_
  apply Run.by_eq
  · intro self
    conv => lhs; simp -implicitDefEqProofs (maxSteps := 300000) (disch := omega) [filter_bt, (show ∀ i, Nat.testBit 15 i = decide (i < 4) from fun i => Nat.testBit_two_pow_sub_one 4 i), (show ∀ i, Nat.testBit 511 i = decide (i < 9) from fun i => Nat.testBit_two_pow_sub_one 9 i), -getElem?_pos, -getElem?_neg, x0, b1, b4, b5, b6]
  try (with_reducible refine Run.ret ?_)
  apply zz
  refine Run.call ((hwl _).mono fun v wz hv => ?_)
  obtain ⟨z, hz⟩ := hv
  have za := z.1
  have zb := z.2
  try simp only [pushed_next', upded_next'] at za zb
  have z0 : wz.heap.get wy.next = some (.cells BC none) := by rw [zb _ (by omega)]; simp -implicitDefEqProofs (disch := omega) [x0]
  have z1 : wz.heap.get wx.next = some (.cells [.int .i64 t, .int .i64 1] none) := by rw [zb _ (by omega)]; simp -implicitDefEqProofs (disch := omega)
  have hvv : veq 5 v v = true := veq_sl (k := 4) hz
  have ho1 : oneV v = true := by
    obtain ⟨a, c, rfl⟩ := hz.shape; rfl
  apply Run.by_eq
  · intro self
    conv => lhs; simp -implicitDefEqProofs (maxSteps := 300000) (disch := omega) [-getElem?_pos, -getElem?_neg, z0, z1, b1, b4, b5, b6, hvv]
  try (with_reducible refine Run.ret ?_)
  apply zz
  refine Run.call ((hwf _).mono fun v2 wu hv => ?_)
  obtain ⟨u, hu⟩ := hv
  have ua := u.1
  have ub := u.2
  have u0 := (ub _ (by omega)).trans z0
  have u1 := (ub _ (by omega)).trans z1
  have hvv2 : veq 5 v2 v2 = true := veq_sl (k := 4) hu
  have ho2 : oneV v2 = true := by
    obtain ⟨a, c, rfl⟩ := hu.shape; rfl
  apply Run.by_eq
  · intro self
    conv => lhs; simp -implicitDefEqProofs (maxSteps := 300000) (disch := omega) [-getElem?_pos, -getElem?_neg, u0, u1, b1, b4, b5, b6, hvv, hvv2]
  try (with_reducible refine Run.ret ?_)
  apply zz
  apply Leave.mk (by first | exact .inl rfl | exact .inr rfl) (by simp only [Fr.marks_put, fr0_marks])
  · conv => lhs; simp -implicitDefEqProofs (disch := omega) [Try.results26]
  exact ⟨⟨by (try simp only [pushed_next', upded_next']); omega, fun i hi => by simp -implicitDefEqProofs (disch := omega) [ub, zb, xb, yb]⟩, _, _, _, rfl, .inr (.inr ⟨h1, rfl, ⟨hz.keep u, hu⟩, hc⟩)⟩
end Go.Proofs.Ytnhokodcmeekhaa
namespace Go.Proofs.Ytnhokodcmeekhaa
open Go Kern
/-! The reference's peaks and ripe weeks -/
theorem top_fold : ∀ (l : List Int) (a : Int), foreF aboveB ⟨a, 1⟩ (l.map fun x => (⟨x, 1⟩ : Frac)) = ⟨l.foldl max a, 1⟩
  | [], a => rfl
  | x :: r, a => by
    have h := top_fold r (max a x)
    show foreF aboveB (if aboveB ⟨x, 1⟩ ⟨a, 1⟩ = true then ⟨x, 1⟩ else ⟨a, 1⟩) (r.map fun x => (⟨x, 1⟩ : Frac)) = _
    rw [List.foldl_cons, ← h]
    congr 1
    by_cases hx : a < x
    · rw [if_pos (by rw [above_iff]; simpa using hx), show max a x = x by omega]
    · rw [if_neg (by rw [above_iff]; simpa using hx), show max a x = a by omega]
def topI (L' : Nat → Int) (m : Nat) : Int := ((List.range (m - 1)).map fun j => L' (j + 1)).foldl max (L' 0)
theorem top_eq {m : Nat} {L : Nat → Frac} {L' : Nat → Int} (hm : 1 ≤ m) (h : ∀ i, i < m → L i = wF L' i) : topF m L = ⟨topI L' m, 1⟩ := by
  unfold topF topI
  rw [← top_fold, h 0 (by omega), List.map_map]
  show foreF aboveB ⟨L' 0, 1⟩ _ = _
  congr 1
  refine List.map_congr_left fun j hj => ?_
  rw [h (j + 1) (by have : j < m - 1 := by simpa using hj
                    omega)]; rfl
theorem topI_bd {L' : Nat → Int} {m : Nat} (hm : 1 ≤ m) (h : ∀ i, i < m → -60000 ≤ L' i ∧ L' i ≤ 60000) : -60000 ≤ topI L' m ∧ topI L' m ≤ 60000 := by
  have key : ∀ (l : List Int) (a : Int), (-60000 ≤ a ∧ a ≤ 60000) → (∀ x ∈ l, -60000 ≤ x ∧ x ≤ 60000) → -60000 ≤ l.foldl max a ∧ l.foldl max a ≤ 60000 := by
    intro l
    induction l with
    | nil => intro a ha _; exact ha
    | cons x r ih => intro a ha hx; exact ih _ (by have := hx x (.head _); omega) fun y hy => hx y (.tail _ hy)
  refine key _ _ (h 0 (by omega)) fun x hx => ?_
  obtain ⟨j, hj, rfl⟩ := List.mem_map.1 hx
  exact h _ (by have : j < m - 1 := by simpa using hj
                omega)
theorem topI_take {L' : Nat → Int} (k : Nat) : topI L' (k + 1 + 1) = max (topI L' (k + 1)) (L' (k + 1)) := by
  unfold topI
  rw [show k + 1 + 1 - 1 = k + 1 by omega, show k + 1 - 1 = k by omega, List.range_succ, List.map_append, List.foldl_append]; rfl
theorem above_eqv {T x y : Frac} (hx : 0 < x.u) (hy : 0 < y.u) (h : x.o * y.u = y.o * x.u) : aboveB T x = aboveB T y := by
  have key : ∀ {x y : Frac}, 0 < x.u → 0 < y.u → x.o * y.u = y.o * x.u → aboveB T x = true → aboveB T y = true := fun {x y} hx hy h ha => by
    rw [above_iff] at ha ⊢
    have h1 := Int.mul_lt_mul_of_pos_right ha hy
    have e1 : x.o * T.u * y.u = y.o * T.u * x.u := by
      rw [Int.mul_right_comm, h, Int.mul_right_comm]
    have e2 : T.o * x.u * y.u = T.o * y.u * x.u := by rw [Int.mul_right_comm]
    rw [e1, e2] at h1
    exact Int.lt_of_mul_lt_mul_right h1 (by omega)
  rw [Bool.eq_iff_iff]
  exact ⟨key hx hy h, key hy hx h.symm⟩
/-- The lows, as the reference has them. -/
abbrev LR (lo hi : Int) (ss : List SampD) : Nat → Int := fun w => (endN lo hi ss w).1
abbrev HR (lo hi : Int) (ss : List SampD) : Nat → Int := fun w => (endN lo hi ss w).2
theorem LF_ref {m : Nat} {lo hi : Int} {ss : List SampD} (h1 : fieldErr m lo hi ss = 0) {i : Nat} (h : i < m) : LF m lo hi ss i = wF (LR lo hi ss) i := (bnd_end h1 i h).1
theorem HF_ref {m : Nat} {lo hi : Int} {ss : List SampD} (h1 : fieldErr m lo hi ss = 0) {i : Nat} (h : i < m) : HF m lo hi ss i = wF (HR lo hi ss) i := (bnd_end h1 i h).2
theorem UF_ref {m : Nat} {lo hi : Int} {ss : List SampD} (h1 : fieldErr m lo hi ss = 0) {w : Nat} (hw : w < m) : (0 < (UF m lo hi ss w).u ∧ 0 < (rupF m (wF (LR lo hi ss)) (wF (HR lo hi ss)) w).u) ∧ (UF m lo hi ss w).o * (rupF m (wF (LR lo hi ss)) (wF (HR lo hi ss)) w).u = (rupF m (wF (LR lo hi ss)) (wF (HR lo hi ss)) w).o * (UF m lo hi ss w).u := by
  obtain ⟨hm, hb⟩ := base_ok h1
  have hL : ∀ i, i < m → 0 < (LF m lo hi ss i).u := fun i hi => (hb i hi).1.mid.2.1
  have hH : ∀ i, i < m → 0 < (HF m lo hi ss i).u := fun i hi => (hb i hi).2.1.mid.2.1
  rw [← rupF_congr (fun i hi => LF_ref h1 hi) (fun i hi => HF_ref h1 hi) hw]
  exact ⟨⟨up_pos hL hH hw, rup_pos hL hH hw⟩, up_eqv hL hH hw⟩
theorem WF_ref {m : Nat} {lo hi : Int} {ss : List SampD} (h1 : fieldErr m lo hi ss = 0) {w : Nat} (hw : w < m) : WF m lo hi ss w = lowF m (wF (LR lo hi ss)) w := lowF_congr (fun i hi => LF_ref h1 hi) hw
set_option maxRecDepth 100000 in
theorem at_ev (x : Frac) (n : Int) (s : St) (hF : Fits x ⟨min (max n (-1)) 30001, 1⟩) : Ev TT 63 [x.v, .int .i64 n] s fun r s' => r = .bool (!aboveB ⟨min (max n (-1)) 30001, 1⟩ x) ∧ Keep s s' := by
  have hl := fun s => less_ev x ⟨min (max n (-1)) 30001, 1⟩ s hF
  generalize hM : min (max n (-1)) 30001 = M at *
  rw [v_eq] at hl ⊢
  refine Ev.intro (fn := Try.f63) rfl (by kernel_rfl) rfl rfl ?_
  apply zz
  refine Cd.ra (h := ?_)
  apply Run.by_eq
  · intro self
    conv => lhs; simp -implicitDefEqProofs (maxSteps := 300000) (disch := omega) [-getElem?_pos, -getElem?_neg]
  try (with_reducible refine Run.ret ?_)
  apply zz
  refine Cd.drawn (pl := [(0, 0, false, false), (1, 0, false, false), (2, 2, false, false), (3, 6, false, false), (4, 14, true, false), (5, 31, true, false), (6, 63, false, false), (7, 127, false, false)]) (by kernel_rfl) (by conv => lhs; simp only [List.map_cons, List.map_nil]) (by conv => lhs; simp [strip, ordered]) ?_
  apply Run.by_eq
  · intro self
    conv => lhs; simp -implicitDefEqProofs (maxSteps := 300000) (disch := omega) [filter_bt, (show Nat.testBit 14 0 = false from rfl), (show Nat.testBit 14 1 = true from rfl), (show Nat.testBit 14 2 = true from rfl), (show Nat.testBit 14 3 = true from rfl), (show ∀ i, Nat.testBit 31 i = decide (i < 5) from fun i => Nat.testBit_two_pow_sub_one 5 i), -getElem?_pos, -getElem?_neg, hM]
  try (with_reducible refine Run.ret ?_)
  apply zz
  refine Run.call ((rwhole_ev M _).mono fun v wy hv => ?_)
  obtain ⟨rfl, y⟩ := hv
  have ya := y.1
  have yb := y.2
  try simp only [pushed_next', upded_next'] at ya yb
  apply Run.by_eq
  · intro self
    conv => lhs; simp -implicitDefEqProofs (maxSteps := 300000) (disch := omega) [-getElem?_pos, -getElem?_neg, yb, hM]
  try (with_reducible refine Run.ret ?_)
  apply zz
  refine Run.call ((hl _).mono fun v wz hv => ?_)
  obtain ⟨rfl, z⟩ := hv
  have za := z.1
  have zb := z.2
  try simp only [pushed_next', upded_next'] at za zb
  apply Run.by_eq
  · intro self
    conv => lhs; simp -implicitDefEqProofs (maxSteps := 300000) (disch := omega) [-getElem?_pos, -getElem?_neg, zb, yb, hM]
  try (with_reducible refine Run.ret ?_)
  apply zz
  apply Leave.mk (by first | exact .inl rfl | exact .inr rfl) (by simp only [Fr.marks_put, fr0_marks])
  · conv => lhs; simp -implicitDefEqProofs (disch := omega) [Try.results63]
  exact ⟨rfl, ⟨by (try simp only [pushed_next', upded_next']); omega, fun i hi => by simp -implicitDefEqProofs (disch := omega) [zb, yb]⟩⟩
theorem KnownA.ans {n lo hi : Int} {ss : List SampD} {w : Value} {e : Int} {s : St} (h : KnownA n lo hi ss w e s) : Ans n lo hi ss e True True ∧ oneV w = true := by
  rcases h with ⟨h1, h2, rfl⟩ | ⟨h1, h2, rfl, h3⟩ | ⟨h1, h2, h3, h4⟩
  · exact ⟨.inl ⟨h1, h2, trivial⟩, rfl⟩
  · exact ⟨.inr (.inl ⟨h1, h2, trivial, h3⟩), rfl⟩
  · obtain ⟨a, c, rfl⟩ := h3.shape
    exact ⟨.inr (.inr ⟨h1, h2, trivial, h4⟩), rfl⟩
set_option maxRecDepth 100000 in
set_option maxHeartbeats 4000000 in
theorem refPeaks_ev (n lo hi : Int) (v : Value) (ss : List SampD) (s : St) (hs : SmAt s v ss) (hl : ss.length ≤ 1000000) : Ev TT 25 [fieldV n lo hi v] s fun r s' => Keep s s' ∧ ∃ w e, r = .tuple #[w, .int .i64 e] ∧ Ans n lo hi ss e (w = .slice none 0 0) (IntsAt s' w (wkL n.toNat (fromB (UF n lo hi ss) (topF n.toNat (LF n lo hi ss))))) := by
  have hck := refKnown_ev n lo hi v ss
  have hbo := fun (m : Nat) (e : n = m) (s : St) (h : SmAt s v ss) hc => ends_ev m lo hi v ss s h hc
  obtain ⟨a, c, rfl⟩ := hs.shape
  rw [List.length_map] at hs hck hbo ⊢
  unfold fieldV at hck hbo ⊢
  refine Ev.intro (fn := Try.f25) rfl (by kernel_rfl) rfl rfl ?_
  apply zz
  refine Cd.ra (h := ?_)
  apply Run.by_eq
  · intro self
    conv => lhs; simp -implicitDefEqProofs (maxSteps := 300000) (disch := omega) [-getElem?_pos, -getElem?_neg]
  try (with_reducible refine Run.ret ?_)
  apply zz
  refine Cd.ra (h := ?_)
  apply Run.by_eq
  · intro self
    conv => lhs; simp -implicitDefEqProofs (maxSteps := 300000) (disch := omega) [-getElem?_pos, -getElem?_neg]
  try (with_reducible refine Run.ret ?_)
  apply zz
  refine Run.call ((hck _ (hs.keep ⟨by (try simp only [pushed_next', upded_next']); omega, fun i hi => by simp -implicitDefEqProofs (disch := omega) []⟩) hl).mono fun v wy hv => ?_)
  obtain ⟨y, w0, e, rfl, hK⟩ := hv
  have ya := y.1
  have yb := y.2
  try simp only [pushed_next', upded_next'] at ya yb
  obtain ⟨hA, how⟩ := hK.ans
  apply Run.by_eq
  · intro self
    conv => lhs; simp -implicitDefEqProofs (maxSteps := 300000) (disch := omega) [-getElem?_pos, -getElem?_neg]
  try (with_reducible refine Run.ret ?_)
  apply zz
  rcases hA with ⟨h1, rfl, _⟩ | ⟨h1, rfl, _, hc⟩ | ⟨h1, rfl, _, hc⟩
  · apply zz
    refine Cd.ra (h := ?_)
    apply Run.by_eq
    · intro self
      conv => lhs; simp -implicitDefEqProofs (maxSteps := 300000) (disch := omega) [-getElem?_pos, -getElem?_neg, h1]
    try (with_reducible refine Run.ret ?_)
    apply zz
    apply Cd.ite rfl
    · conv => lhs; simp -implicitDefEqProofs (maxSteps := 300000) (disch := omega) [-getElem?_pos, -getElem?_neg]
    all_goals intro c0
    all_goals try (cases c0; done)
    all_goals try simp only [Bool.not_eq_true', Bool.not_eq_false', decide_eq_true_eq, decide_eq_false_iff_not] at c0
    all_goals apply zz
    apply zz
    refine Cd.ra (h := ?_)
    apply Run.by_eq
    · intro self
      conv => lhs; simp -implicitDefEqProofs (maxSteps := 300000) (disch := omega) [-getElem?_pos, -getElem?_neg]
    try (with_reducible refine Run.ret ?_)
    apply zz
    apply Leave.mk (by first | exact .inl rfl | exact .inr rfl) (by simp only [Fr.marks_put, fr0_marks])
    · conv => lhs; simp -implicitDefEqProofs (disch := omega) [Try.results25]
    exact ⟨⟨by (try simp only [pushed_next', upded_next']); omega, fun i hi => by simp -implicitDefEqProofs (disch := omega) [yb]⟩, _, _, rfl, .inl ⟨h1, rfl, rfl⟩⟩
  · apply zz
    refine Cd.ra (h := ?_)
    apply Run.by_eq
    · intro self
      conv => lhs; simp -implicitDefEqProofs (maxSteps := 300000) (disch := omega) [-getElem?_pos, -getElem?_neg]
    try (with_reducible refine Run.ret ?_)
    apply zz
    apply Cd.ite rfl
    · conv => lhs; simp -implicitDefEqProofs (maxSteps := 300000) (disch := omega) [-getElem?_pos, -getElem?_neg]
    all_goals intro c0
    all_goals try (cases c0; done)
    all_goals try simp only [Bool.not_eq_true', Bool.not_eq_false', decide_eq_true_eq, decide_eq_false_iff_not] at c0
    all_goals apply zz
    apply zz
    refine Cd.ra (h := ?_)
    apply Run.by_eq
    · intro self
      conv => lhs; simp -implicitDefEqProofs (maxSteps := 300000) (disch := omega) [-getElem?_pos, -getElem?_neg]
    try (with_reducible refine Run.ret ?_)
    apply zz
    apply Leave.mk (by first | exact .inl rfl | exact .inr rfl) (by simp only [Fr.marks_put, fr0_marks])
    · conv => lhs; simp -implicitDefEqProofs (disch := omega) [Try.results25]
    exact ⟨⟨by (try simp only [pushed_next', upded_next']); omega, fun i hi => by simp -implicitDefEqProofs (disch := omega) [yb]⟩, _, _, rfl, .inr (.inl ⟨h1, rfl, rfl, hc⟩)⟩
  obtain ⟨m, rfl⟩ : ∃ m : Nat, n = m := ⟨n.toNat, by have := (fieldErr_ok h1).1; omega⟩
  simp only [Int.toNat_natCast] at hc ⊢
  obtain ⟨hm, _⟩ := base_ok h1
  have va : veq 4 (Value.slice a ss.length c) (Value.slice a ss.length c) = true := slAt_veq hs 3
  have y0 : wy.heap.get s.next = some (.cells [.int .i64 m, .int .i64 lo, .int .i64 hi, .slice a ss.length c] none) := by rw [yb _ (by omega)]; simp -implicitDefEqProofs (disch := omega)
  apply zz
  refine Cd.ra (h := ?_)
  apply Run.by_eq
  · intro self
    conv => lhs; simp -implicitDefEqProofs (maxSteps := 300000) (disch := omega) [-getElem?_pos, -getElem?_neg]
  try (with_reducible refine Run.ret ?_)
  apply zz
  apply Cd.ite rfl
  · conv => lhs; simp -implicitDefEqProofs (maxSteps := 300000) (disch := omega) [-getElem?_pos, -getElem?_neg]
  all_goals intro c0
  all_goals try (cases c0; done)
  all_goals try simp only [Bool.not_eq_true', Bool.not_eq_false', decide_eq_true_eq, decide_eq_false_iff_not] at c0
  all_goals apply zz
  apply zz
  refine Cd.ra (h := ?_)
  apply Run.by_eq
  · intro self
    conv => lhs; simp -implicitDefEqProofs (maxSteps := 300000) (disch := omega) [-getElem?_pos, -getElem?_neg, y0, va]
  try (with_reducible refine Run.ret ?_)
  apply zz
  refine Run.call ((hbo m rfl _ (hs.keep ⟨by (try simp only [pushed_next', upded_next']); omega, fun i hi => by simp -implicitDefEqProofs (disch := omega) [yb]⟩) h1).mono fun v wz hv => ?_)
  obtain ⟨z, q1, q2, rfl, hq1, hq2⟩ := hv
  have za := z.1
  have zb := z.2
  have hE := fun w => endN_all h1 w
  have hup := fun w s' (k : Keep wz s') hw => upper_ev m (LR lo hi ss) (HR lo hi ss) q1 q2 w s' (hq1.keep k) (hq2.keep k) (by omega) hw (fun w _ => (hE w).1) fun w _ => (hE w).2
  have hU := fun w (hw : w < m) => UF_ref h1 hw
  have hRm : ∀ w, w < m → Mid 3600000 30 (rupF m (wF (LR lo hi ss)) (wF (HR lo hi ss)) w) := fun w hw => (rvals_ok h1 hw).2
  have hT := top_eq (L := LF m lo hi ss) (L' := LR lo hi ss) (m := m) (by omega) fun i hi => LF_ref h1 hi
  have hTb := topI_bd (L' := LR lo hi ss) (m := m) (by omega) fun i _ => (hE i).1
  rw [hT]
  have hbs := fun (k : Nat) (hk : k < m) => (hE k).1
  have htk := fun k => topI_take (L' := LR lo hi ss) k
  have ht1 : topI (LR lo hi ss) 1 = LR lo hi ss 0 := rfl
  obtain ⟨a1, c1', rfl⟩ := hq1.shape
  obtain ⟨a2, c2', rfl⟩ := hq2.shape
  rw [List.length_map, List.length_map, List.length_range] at hq1 hq2 hup
  rw [List.length_map, List.length_map, List.length_range] at hup
  rw [List.length_map, List.length_map, List.length_map, List.length_map, List.length_range]
  have hne : (List.range m).map (LR lo hi ss) ≠ [] := by intro h; have := congrArg List.length h; simp at this; omega
  obtain ⟨bl, ol, obl, csl, ggl, rfl, ql, hol, hcl, htl⟩ := IntsAt.all hq1 hne
  have hl0 : csl[ol]? = some (.int .i64 (LR lo hi ss 0)) := htl 0 _ (range_at (by omega))
  have htl2 := fun k (hk : k < m) => htl k (LR lo hi ss k) (range_at hk)
  have z0 := (zb _ (by omega)).trans y0
  have hm0 : 0 < m := by omega
  generalize LR lo hi ss = L' at *
  generalize HR lo hi ss = H' at *
  apply Run.by_eq
  · intro self
    conv => lhs; simp -implicitDefEqProofs (maxSteps := 300000) (disch := omega) [-getElem?_pos, -getElem?_neg, z0]
  try (with_reducible refine Run.ret ?_)
  apply zz
  refine Cd.ra (h := ?_)
  apply Run.by_eq
  · intro self
    conv => lhs; simp -implicitDefEqProofs (maxSteps := 300000) (disch := omega) [-getElem?_pos, -getElem?_neg, hol, hcl, hl0, hm0]
  try (with_reducible refine Run.ret ?_)
  apply zz
  refine Cd.ra (h := ?_)
  apply Run.by_eq
  · intro self
    conv => lhs; simp -implicitDefEqProofs (maxSteps := 300000) (disch := omega) [-getElem?_pos, -getElem?_neg]
  try (with_reducible refine Run.ret ?_)
  apply zz
  refine Cd.mono (Q := fun x f2 s2 => x = Ex.exit 0 ∧ f2.marks = [] ∧ f2.get 1 = .pointer (some ⟨s.next, 0, none⟩) ∧ f2.get 6 = .slice (some ⟨bl, ol, none⟩) m c1' ∧ f2.get 7 = .slice a2 m c2' ∧ f2.get 8 = .int .i64 (topI L' m) ∧ s2 = wz) (Cd.inv (fun z f s' => ∃ k : Nat, k + 1 ≤ m ∧ z = m - (k + 1) ∧ f.marks = [] ∧ f.get 1 = .pointer (some ⟨s.next, 0, none⟩) ∧ f.get 6 = .slice (some ⟨bl, ol, none⟩) m c1' ∧ f.get 7 = .slice a2 m c2' ∧ f.get 8 = .int .i64 (topI L' (k + 1)) ∧ f.get 9 = .int .i64 (k + 1 : Nat) ∧ s' = wz) (m - 1) ?_ ?_) ?_
  · exact ⟨0, by omega, rfl, by simp, by simp, by simp, by simp, by simp [ht1], by simp, rfl⟩
  · rintro z f s1 ⟨k, hk, rfl, hmk, g1, g6, g7, g8, g9, rfl⟩
    have hk1 : ((k + 1 : Nat) : Int) + 1 = ((k + 1 + 1 : Nat) : Int) := by omega
    have hkt := htk k
    by_cases hlt : k + 1 < m
    · have hlt' : ((k + 1 : Nat) : Int) < m := by omega
      have hx := htl2 (k + 1) hlt
      generalize hK : k + 1 = k1 at *
      apply zz
      refine Cd.ra (h := ?_)
      apply Run.by_eq
      · intro self
        conv => lhs; simp -implicitDefEqProofs (maxSteps := 300000) (disch := omega) [-getElem?_pos, -getElem?_neg, g9, g1, z0, hlt']
      try (with_reducible refine Run.ret ?_)
      apply zz
      apply Cd.ite rfl
      · conv => lhs; simp -implicitDefEqProofs (maxSteps := 300000) (disch := omega) [-getElem?_pos, -getElem?_neg]
      all_goals intro c1
      all_goals try (cases c1; done)
      all_goals try simp only [Bool.not_eq_true', Bool.not_eq_false', decide_eq_true_eq, decide_eq_false_iff_not] at c1
      all_goals apply zz
      apply zz
      refine Cd.ra (h := ?_)
      apply Run.by_eq
      · intro self
        conv => lhs; simp -implicitDefEqProofs (maxSteps := 300000) (disch := omega) [-getElem?_pos, -getElem?_neg, g8, g6, g9, hlt, hol, hcl, hx]
      try (with_reducible refine Run.ret ?_)
      apply zz
      refine Cd.ra (h := ?_)
      apply Run.by_eq
      · intro self
        conv => lhs; simp -implicitDefEqProofs (maxSteps := 300000) (disch := omega) [-getElem?_pos, -getElem?_neg, g9]
      try (with_reducible refine Run.ret ?_)
      apply zz
      exact LoopK.nm (m - (k1 + 1)) (by omega) ⟨k1, by omega, rfl, by simp [hmk], by simp [g1], by simp [g6], by simp [g7], by rw [hkt]; simp, by simp, rfl⟩
    · obtain rfl : m = k + 1 := by omega
      apply zz
      refine Cd.ra (h := ?_)
      apply Run.by_eq
      · intro self
        conv => lhs; simp -implicitDefEqProofs (maxSteps := 300000) (disch := omega) [-getElem?_pos, -getElem?_neg, g9, g1, z0]
      try (with_reducible refine Run.ret ?_)
      apply zz
      apply Cd.ite rfl
      · conv => lhs; simp -implicitDefEqProofs (maxSteps := 300000) (disch := omega) [-getElem?_pos, -getElem?_neg]
      all_goals intro c1
      all_goals try (cases c1; done)
      all_goals try simp only [Bool.not_eq_true', Bool.not_eq_false', decide_eq_true_eq, decide_eq_false_iff_not] at c1
      all_goals apply zz
      exact ⟨rfl, by simp [hmk], by simp [g1], by simp [g6], by simp [g7], by simp [g8], rfl⟩
  rintro x f2 s2 ⟨rfl, hmk, g1, g6, g7, g8, rfl⟩
  apply zz
  generalize hTop : topI L' m = top at *
  have hTm : Mid 3600000 30 (⟨top, 1⟩ : Frac) := by unfold Mid; simp only []; omega
  apply zz
  refine Cd.ra (h := ?_)
  apply Run.by_eq
  · intro self
    conv => lhs; simp -implicitDefEqProofs (maxSteps := 300000) (disch := omega) [-getElem?_pos, -getElem?_neg]
  try (with_reducible refine Run.ret ?_)
  apply zz
  refine Cd.ra (h := ?_)
  apply Run.by_eq
  · intro self
    conv => lhs; simp -implicitDefEqProofs (maxSteps := 300000) (disch := omega) [-getElem?_pos, -getElem?_neg]
  try (with_reducible refine Run.ret ?_)
  apply zz
  refine Cd.inv (fun z f s' => ∃ k : Nat, k ≤ m ∧ z = m - k ∧ f.marks = [] ∧ f.get 1 = .pointer (some ⟨s.next, 0, none⟩) ∧ f.get 6 = .slice (some ⟨bl, ol, none⟩) m c1' ∧ f.get 7 = .slice a2 m c2' ∧ f.get 8 = .int .i64 top ∧ f.get 11 = .int .i64 k ∧ Keep s2 s' ∧ OwnG 1 s2.next s' (f.get 10) (iC (wkL k (fromB (UF m lo hi ss) ⟨top, 1⟩)))) m ?_ ?_
  · exact ⟨0, by omega, rfl, by simp [hmk], by simp [g1], by simp [g6], by simp [g7], by simp [g8], by simp, Keep.refl _, .inl ⟨rfl, by simp⟩⟩
  clear hmk g1 g6 g7 g8
  rintro zz0 f s1 ⟨k, hk, rfl, hmk, g1, g6, g7, g8, g11, hkp, hO⟩
  have hkpa := hkp.1
  have hkpb := hkp.2
  have hg0 := (hkpb _ (by omega)).trans z0
  by_cases hlt : k < m
  · have hlt' : (k : Int) < m := by omega
    have hst := wkL_succ k (fromB (UF m lo hi ss) ⟨top, 1⟩)
    have hfb : fromB (UF m lo hi ss) ⟨top, 1⟩ k = !aboveB ⟨top, 1⟩ (rupF m (wF L') (wF H') k) := by
      unfold fromB; rw [above_eqv (hU k hlt).1.1 (hU k hlt).1.2 (hU k hlt).2]
    rw [hfb] at hst
    have hfit := (hRm k hlt).fits hTm (by decide)
    have hupk := fun s' kk => hup k s' kk hlt
    generalize rupF m (wF L') (wF H') k = X at *
    apply zz
    refine Cd.ra (h := ?_)
    apply Run.by_eq
    · intro self
      conv => lhs; simp -implicitDefEqProofs (maxSteps := 300000) (disch := omega) [-getElem?_pos, -getElem?_neg, g11, g1, hg0, hlt']
    try (with_reducible refine Run.ret ?_)
    apply zz
    apply Cd.ite rfl
    · conv => lhs; simp -implicitDefEqProofs (maxSteps := 300000) (disch := omega) [-getElem?_pos, -getElem?_neg]
    all_goals intro c1
    all_goals try (cases c1; done)
    all_goals try simp only [Bool.not_eq_true', Bool.not_eq_false', decide_eq_true_eq, decide_eq_false_iff_not] at c1
    all_goals apply zz
    apply zz
    refine Cd.ra (h := ?_)
    apply Run.by_eq
    · intro self
      conv => lhs; simp -implicitDefEqProofs (maxSteps := 300000) (disch := omega) [-getElem?_pos, -getElem?_neg, g6, g7, g11]
    try (with_reducible refine Run.ret ?_)
    apply zz
    refine Run.call ((hupk _ hkp).mono fun v wp hv => ?_)
    obtain ⟨rfl, p⟩ := hv
    have pa := p.1
    have pb := p.2
    try simp only [pushed_next', upded_next'] at pa pb
    apply Run.by_eq
    · intro self
      conv => lhs; simp -implicitDefEqProofs (maxSteps := 300000) (disch := omega) [-getElem?_pos, -getElem?_neg, g8]
    try (with_reducible refine Run.ret ?_)
    apply zz
    refine Run.call ((rwhole_ev top _).mono fun v wq hv => ?_)
    obtain ⟨rfl, q⟩ := hv
    have qa := q.1
    have qb := q.2
    try simp only [pushed_next', upded_next'] at qa qb
    have kq : Keep s1 wq := ⟨by omega, fun i hi => (qb i (by omega)).trans (pb i hi)⟩
    apply Run.by_eq
    · intro self
      conv => lhs; simp -implicitDefEqProofs (maxSteps := 300000) (disch := omega) [-getElem?_pos, -getElem?_neg]
    try (with_reducible refine Run.ret ?_)
    apply zz
    refine Run.call ((less_ev X ⟨top, 1⟩ _ hfit).mono fun v wt hv => ?_)
    obtain ⟨rfl, t⟩ := hv
    have ta := t.1
    have tb := t.2
    try simp only [pushed_next', upded_next'] at ta tb
    have kt : Keep s1 wt := ⟨by omega, fun i hi => (tb i (by omega)).trans (kq.2 i hi)⟩
    cases hab : aboveB ⟨top, 1⟩ X with
    | true =>
      rw [hab, if_neg (by decide)] at hst
      apply Run.by_eq
      · intro self
        conv => lhs; simp -implicitDefEqProofs (maxSteps := 300000) (disch := omega) [-getElem?_pos, -getElem?_neg]
      try (with_reducible refine Run.ret ?_)
      apply zz
      apply Cd.ite rfl
      · conv => lhs; simp -implicitDefEqProofs (maxSteps := 300000) (disch := omega) [-getElem?_pos, -getElem?_neg]
      all_goals intro c2
      all_goals try (cases c2; done)
      all_goals try simp only [Bool.not_eq_true', Bool.not_eq_false', decide_eq_true_eq, decide_eq_false_iff_not] at c2
      all_goals apply zz
      apply zz
      refine Cd.ra (h := ?_)
      apply Run.by_eq
      · intro self
        conv => lhs; simp -implicitDefEqProofs (maxSteps := 300000) (disch := omega) [-getElem?_pos, -getElem?_neg, g11]
      try (with_reducible refine Run.ret ?_)
      apply zz
      refine LoopK.nm (m - (k + 1)) (by omega) ⟨k + 1, by omega, rfl, by simp [hmk], by simp [g1], by simp [g6], by simp [g7], by simp [g8], by simp, hkp.trans kt, ?_⟩
      rw [hst]; simpa using hO.keepK kt
    | false =>
      rw [hab, if_pos (by decide)] at hst
      have kx2 : Keep s1 (wt.pushed (.cells [.int .i64 k] none)) := kt.pushed _
      have hll := wkL_len k (fromB (UF m lo hi ss) ⟨top, 1⟩)
      have hrl : (iC (wkL k (fromB (UF m lo hi ss) ⟨top, 1⟩))).length = (wkL k (fromB (UF m lo hi ss) ⟨top, 1⟩)).length := by simp
      obtain ⟨s4, happ, hn4, hk4, hO4⟩ := app_one (n := 1) (b2 := wt.next) (x := [.int .i64 k]) (g := none) (hO.keepK kx2) (iC_len _) rfl rfl (get_pushed_new _ _) (by (try simp only [pushed_next']); omega) (by omega)
      simp only [pushed_next', hrl] at happ hn4 hO4
      apply Run.by_eq
      · intro self
        conv => lhs; simp -implicitDefEqProofs (maxSteps := 300000) (disch := omega) [-getElem?_pos, -getElem?_neg]
      try (with_reducible refine Run.ret ?_)
      apply zz
      apply Cd.ite rfl
      · conv => lhs; simp -implicitDefEqProofs (maxSteps := 300000) (disch := omega) [-getElem?_pos, -getElem?_neg]
      all_goals intro c2
      all_goals try (cases c2; done)
      all_goals try simp only [Bool.not_eq_true', Bool.not_eq_false', decide_eq_true_eq, decide_eq_false_iff_not] at c2
      all_goals apply zz
      apply zz
      refine Cd.ra (h := ?_)
      apply Run.by_eq
      · intro self
        conv => lhs; simp -implicitDefEqProofs (maxSteps := 300000) (disch := omega) [-getElem?_pos, -getElem?_neg, g11, happ]
      try (with_reducible refine Run.ret ?_)
      apply zz
      refine Cd.ra (h := ?_)
      apply Run.by_eq
      · intro self
        conv => lhs; simp -implicitDefEqProofs (maxSteps := 300000) (disch := omega) [-getElem?_pos, -getElem?_neg, g11]
      try (with_reducible refine Run.ret ?_)
      apply zz
      refine LoopK.nm (m - (k + 1)) (by omega) ⟨k + 1, by omega, rfl, by simp [hmk], by simp [g1], by simp [g6], by simp [g7], by simp [g8], by simp, ⟨by omega, fun i hi => (hk4 i (by omega)).trans ((kx2.2 i (by omega)).trans (hkpb i hi))⟩, ?_⟩
      rw [hst, iC_snoc]; simpa using hO4
  · obtain rfl : k = m := by omega
    have ho1 : oneV (f.get 10) = true := by
      rcases hO with ⟨_, e3⟩ | ⟨_, e3, _⟩ <;> rw [e3] <;> rfl
    apply zz
    refine Cd.ra (h := ?_)
    apply Run.by_eq
    · intro self
      conv => lhs; simp -implicitDefEqProofs (maxSteps := 300000) (disch := omega) [-getElem?_pos, -getElem?_neg, g11, g1, hg0]
    try (with_reducible refine Run.ret ?_)
    apply zz
    apply Cd.ite rfl
    · conv => lhs; simp -implicitDefEqProofs (maxSteps := 300000) (disch := omega) [-getElem?_pos, -getElem?_neg]
    all_goals intro c1
    all_goals try (cases c1; done)
    all_goals try simp only [Bool.not_eq_true', Bool.not_eq_false', decide_eq_true_eq, decide_eq_false_iff_not] at c1
    all_goals apply zz
    apply zz
    refine Cd.ra (h := ?_)
    apply Run.by_eq
    · intro self
      conv => lhs; simp -implicitDefEqProofs (maxSteps := 300000) (disch := omega) [-getElem?_pos, -getElem?_neg]
    try (with_reducible refine Run.ret ?_)
    apply zz
    apply Leave.mk (by first | exact .inl rfl | exact .inr rfl) (by simp only [Fr.marks_put, fr0_marks, hmk])
    · conv => lhs; simp -implicitDefEqProofs (disch := omega) [Try.results25, hmk]
    exact ⟨⟨by omega, fun i hi => by rw [hkpb i (by omega), zb i (by omega), yb i (by omega)]; simp -implicitDefEqProofs (disch := omega)⟩, _, _, rfl, .inr (.inr ⟨h1, rfl, hO.sl (iC_len _), hc⟩)⟩
end Go.Proofs.Ytnhokodcmeekhaa
namespace Go.Proofs.Ytnhokodcmeekhaa
open Go Kern
/-! Two lists that grow side by side -/
/-- Rows that are gathered, and the block in which they lie. -/
def OwnB (n N : Nat) (s : St) (w : Value) (l : List (List Value)) (b : Option Nat) : Prop :=
  (b = none ∧ l = [] ∧ w = .slice none 0 0) ∨ ∃ bb, b = some bb ∧ w = .slice (some ⟨bb, 0, none⟩) l.length l.length ∧ l ≠ [] ∧ N ≤ bb ∧ bb < s.next ∧ s.heap.get bb = some (.cells l.flatten (some n))
theorem OwnB.g {n N : Nat} {s : St} {w : Value} {l : List (List Value)} {b : Option Nat} (h : OwnB n N s w l b) : OwnG n N s w l := by
  rcases h with ⟨_, h⟩ | ⟨bb, _, h⟩
  · exact .inl h
  · exact .inr ⟨bb, h⟩
theorem OwnB.keep {n N : Nat} {s s' : St} {w : Value} {l : List (List Value)} {b : Option Nat} (h : OwnB n N s w l b) (h1 : s.next ≤ s'.next) (h2 : ∀ i, i < s.next → b = some i → s'.heap.get i = s.heap.get i) : OwnB n N s' w l b := by
  rcases h with h | ⟨bb, e, k1, k2, k3, k4, k5⟩
  · exact .inl h
  · exact .inr ⟨bb, e, k1, k2, k3, by omega, (h2 bb k4 e).trans k5⟩
theorem OwnB.keepK {n N : Nat} {s s' : St} {w : Value} {l : List (List Value)} {b : Option Nat} (h : OwnB n N s w l b) (k : Keep s s') : OwnB n N s' w l b := h.keep k.1 fun i hi _ => k.2 i hi
theorem OwnB.lt {n N : Nat} {s : St} {w : Value} {l : List (List Value)} {b : Option Nat} (h : OwnB n N s w l b) {i : Nat} (e : b = some i) : N ≤ i ∧ i < s.next := by
  rcases h with ⟨h, _⟩ | ⟨bb, e', _, _, k3, k4, _⟩
  · rw [e] at h; cases h
  · rw [e] at e'; cases e'; exact ⟨k3, k4⟩
theorem app_b {n N b2 : Nat} {s : St} {w : Value} {l : List (List Value)} {x : List Value} {g : Option Nat} {b : Option Nat} (hO : OwnB n N s w l b) (hn : ∀ y ∈ l, y.length = n) (hx : x.length = n) (ho : onesL x = true) (hb2 : s.heap.get b2 = some (.cells x g)) (hN : N ≤ s.next) (hl : l.length ≤ 1000000) :
    ∃ s', appV n w (.slice (some ⟨b2, 0, none⟩) 1 1) s = some (.slice (some ⟨s.next, 0, none⟩) (l.length + 1) (l.length + 1), s') ∧ s'.next = s.next + 1 ∧ (∀ i, i < s.next → b ≠ some i → s'.heap.get i = s.heap.get i) ∧ OwnB n N s' (.slice (some ⟨s.next, 0, none⟩) (l.length + 1) (l.length + 1)) (l ++ [x]) (some s.next) := by
  rcases hO with ⟨rfl, rfl, rfl⟩ | ⟨bb, rfl, rfl, hne, h1, h2, h3⟩
  · refine ⟨_, appV_nil hb2 hx (by rw [onesL_eq]; exact ho), rfl, fun i hi _ => get_pushed_old _ _ _ (by omega), .inr ⟨s.next, rfl, by simp, by simp, hN, Nat.lt_succ_self _, ?_⟩⟩
    rw [get_pushed_new]; simp
  · refine ⟨_, appV_more h3 hb2 hx (by rw [onesL_eq]; exact ho) (flatlen hn) (by omega), rfl, fun i hi hne' => ?_, .inr ⟨s.next, rfl, by simp, by simp, hN, Nat.lt_succ_self _, ?_⟩⟩
    · rw [get_pushed_old _ _ _ (by show i ≠ s.next; omega), get_upded_other _ _ _ _ (fun e => hne' (by rw [e]))]
    · show ((s.upded bb .dead).pushed _).heap.get (s.upded bb .dead).next = _
      rw [get_pushed_new]; simp
/-- A list of weeks to which one more week may be put. -/
theorem app_wk {N : Nat} {s s1 : St} {w : Value} {k : Nat} {p : Nat → Bool} {b : Option Nat} (hO : OwnB 1 N s w (iC (wkL k p)) b) (hk : Keep s s1) (hN : N ≤ s.next) (hl : k ≤ 1000) :
    ∃ s', appV 1 w (.slice (some ⟨s1.next, 0, none⟩) 1 1) (s1.pushed (.cells [.int .i64 k] none)) = some (.slice (some ⟨s1.next + 1, 0, none⟩) ((wkL k p).length + 1) ((wkL k p).length + 1), s') ∧ s'.next = s1.next + 1 + 1 ∧ (∀ i, i < s.next → b ≠ some i → s'.heap.get i = s.heap.get i) ∧
      (p k = true → OwnB 1 N s' (.slice (some ⟨s1.next + 1, 0, none⟩) ((wkL k p).length + 1) ((wkL k p).length + 1)) (iC (wkL (k + 1) p)) (some (s1.next + 1))) := by
  have kx2 : Keep s (s1.pushed (.cells [.int .i64 k] none)) := hk.pushed _
  have hk1 := hk.1
  have hll := wkL_len k p
  have hrl : (iC (wkL k p)).length = (wkL k p).length := by simp
  obtain ⟨s4, happ, hn4, hk4, hO4⟩ := app_b (n := 1) (b2 := s1.next) (x := [.int .i64 k]) (g := none) (hO.keepK kx2) (iC_len _) rfl rfl (get_pushed_new _ _) (by (try simp only [pushed_next']); omega) (by omega)
  simp only [pushed_next', hrl] at happ hn4 hO4 hk4
  refine ⟨s4, happ, hn4, fun i hi hb => (hk4 i (by omega) hb).trans (kx2.2 i hi), fun hp => ?_⟩
  rw [wkL_succ, if_pos hp, iC_snoc]
  exact hO4
theorem wk_skip {N : Nat} {s s' : St} {w : Value} {k : Nat} {p : Nat → Bool} {b : Option Nat} (hO : OwnB 1 N s w (iC (wkL k p)) b) (hk : Keep s s') (hp : p k = false) : OwnB 1 N s' w (iC (wkL (k + 1) p)) b := by
  rw [wkL_succ, if_neg (by rw [hp]; decide)]
  exact hO.keepK hk
theorem lim_low {least : Int} {x : Frac} (hx : 0 ≤ x.o) (hu : 0 < x.u) : aboveB ⟨min (max least (-1)) 30001, 1⟩ x = aboveB ⟨limI least, 1⟩ x := by
  unfold limI
  by_cases h : 0 ≤ least
  · rw [show max least (-1) = least by omega, show max least 0 = least by omega]
  · rw [show min (max least (-1)) 30001 = -1 by omega, show min (max least 0) 30001 = 0 by omega]
    have e1 : aboveB ⟨-1, 1⟩ x = false := by rw [above_not]; simp only []; omega
    have e2 : aboveB ⟨0, 1⟩ x = false := by rw [above_not]; simp only []; omega
    rw [e1, e2]
theorem nonneg_eqv {x y : Frac} (hx : 0 < x.u) (hy : 0 < y.u) (h : x.o * y.u = y.o * x.u) (hx0 : 0 ≤ x.o) : 0 ≤ y.o := by
  have h1 : 0 ≤ x.o * y.u := Int.mul_nonneg hx0 (by omega)
  rw [h] at h1
  exact Int.nonneg_of_mul_nonneg_left h1 hx
set_option maxRecDepth 100000 in
set_option maxHeartbeats 4000000 in
theorem refRipe_ev (n lo hi least : Int) (v : Value) (ss : List SampD) (s : St) (hs : SmAt s v ss) (hl : ss.length ≤ 1000000) : Ev TT 27 [fieldV n lo hi v, .int .i64 least] s fun r s' => Keep s s' ∧ ∃ w1 w2 e, r = .tuple #[w1, w2, .int .i64 e] ∧ Ans n lo hi ss e (w1 = .slice none 0 0 ∧ w2 = .slice none 0 0) (IntsAt s' w1 (wkL n.toNat (fromB (WF n lo hi ss) ⟨limI least, 1⟩)) ∧ IntsAt s' w2 (wkL n.toNat (fromB (UF n lo hi ss) ⟨limI least, 1⟩))) := by
  have hck := refKnown_ev n lo hi v ss
  have hbo := fun (m : Nat) (e : n = m) (s : St) (h : SmAt s v ss) hc => ends_ev m lo hi v ss s h hc
  obtain ⟨a, c, rfl⟩ := hs.shape
  rw [List.length_map] at hs hck hbo ⊢
  unfold fieldV at hck hbo ⊢
  refine Ev.intro (fn := Try.f27) rfl (by kernel_rfl) rfl rfl ?_
  apply zz
  refine Cd.ra (h := ?_)
  apply Run.by_eq
  · intro self
    conv => lhs; simp -implicitDefEqProofs (maxSteps := 300000) (disch := omega) [-getElem?_pos, -getElem?_neg]
  try (with_reducible refine Run.ret ?_)
  apply zz
  refine Cd.ra (h := ?_)
  apply Run.by_eq
  · intro self
    conv => lhs; simp -implicitDefEqProofs (maxSteps := 300000) (disch := omega) [-getElem?_pos, -getElem?_neg]
  try (with_reducible refine Run.ret ?_)
  apply zz
  refine Run.call ((hck _ (hs.keep ⟨by (try simp only [pushed_next', upded_next']); omega, fun i hi => by simp -implicitDefEqProofs (disch := omega) []⟩) hl).mono fun v wy hv => ?_)
  obtain ⟨y, w0, e, rfl, hK⟩ := hv
  have ya := y.1
  have yb := y.2
  try simp only [pushed_next', upded_next'] at ya yb
  obtain ⟨hA, how⟩ := hK.ans
  apply Run.by_eq
  · intro self
    conv => lhs; simp -implicitDefEqProofs (maxSteps := 300000) (disch := omega) [-getElem?_pos, -getElem?_neg]
  try (with_reducible refine Run.ret ?_)
  apply zz
  rcases hA with ⟨h1, rfl, _⟩ | ⟨h1, rfl, _, hc⟩ | ⟨h1, rfl, _, hc⟩
  · apply zz
    refine Cd.ra (h := ?_)
    apply Run.by_eq
    · intro self
      conv => lhs; simp -implicitDefEqProofs (maxSteps := 300000) (disch := omega) [-getElem?_pos, -getElem?_neg, h1]
    try (with_reducible refine Run.ret ?_)
    apply zz
    apply Cd.ite rfl
    · conv => lhs; simp -implicitDefEqProofs (maxSteps := 300000) (disch := omega) [-getElem?_pos, -getElem?_neg]
    all_goals intro c0
    all_goals try (cases c0; done)
    all_goals try simp only [Bool.not_eq_true', Bool.not_eq_false', decide_eq_true_eq, decide_eq_false_iff_not] at c0
    all_goals apply zz
    apply zz
    refine Cd.ra (h := ?_)
    apply Run.by_eq
    · intro self
      conv => lhs; simp -implicitDefEqProofs (maxSteps := 300000) (disch := omega) [-getElem?_pos, -getElem?_neg]
    try (with_reducible refine Run.ret ?_)
    apply zz
    apply Leave.mk (by first | exact .inl rfl | exact .inr rfl) (by simp only [Fr.marks_put, fr0_marks])
    · conv => lhs; simp -implicitDefEqProofs (disch := omega) [Try.results27]
    exact ⟨⟨by (try simp only [pushed_next', upded_next']); omega, fun i hi => by simp -implicitDefEqProofs (disch := omega) [yb]⟩, _, _, _, rfl, .inl ⟨h1, rfl, rfl, rfl⟩⟩
  · apply zz
    refine Cd.ra (h := ?_)
    apply Run.by_eq
    · intro self
      conv => lhs; simp -implicitDefEqProofs (maxSteps := 300000) (disch := omega) [-getElem?_pos, -getElem?_neg]
    try (with_reducible refine Run.ret ?_)
    apply zz
    apply Cd.ite rfl
    · conv => lhs; simp -implicitDefEqProofs (maxSteps := 300000) (disch := omega) [-getElem?_pos, -getElem?_neg]
    all_goals intro c0
    all_goals try (cases c0; done)
    all_goals try simp only [Bool.not_eq_true', Bool.not_eq_false', decide_eq_true_eq, decide_eq_false_iff_not] at c0
    all_goals apply zz
    apply zz
    refine Cd.ra (h := ?_)
    apply Run.by_eq
    · intro self
      conv => lhs; simp -implicitDefEqProofs (maxSteps := 300000) (disch := omega) [-getElem?_pos, -getElem?_neg]
    try (with_reducible refine Run.ret ?_)
    apply zz
    apply Leave.mk (by first | exact .inl rfl | exact .inr rfl) (by simp only [Fr.marks_put, fr0_marks])
    · conv => lhs; simp -implicitDefEqProofs (disch := omega) [Try.results27]
    exact ⟨⟨by (try simp only [pushed_next', upded_next']); omega, fun i hi => by simp -implicitDefEqProofs (disch := omega) [yb]⟩, _, _, _, rfl, .inr (.inl ⟨h1, rfl, ⟨rfl, rfl⟩, hc⟩)⟩
  obtain ⟨m, rfl⟩ : ∃ m : Nat, n = m := ⟨n.toNat, by have := (fieldErr_ok h1).1; omega⟩
  simp only [Int.toNat_natCast] at hc ⊢
  obtain ⟨hm, _⟩ := base_ok h1
  have va : veq 4 (Value.slice a ss.length c) (Value.slice a ss.length c) = true := slAt_veq hs 3
  have y0 : wy.heap.get s.next = some (.cells [.int .i64 m, .int .i64 lo, .int .i64 hi, .slice a ss.length c] none) := by rw [yb _ (by omega)]; simp -implicitDefEqProofs (disch := omega)
  apply zz
  refine Cd.ra (h := ?_)
  apply Run.by_eq
  · intro self
    conv => lhs; simp -implicitDefEqProofs (maxSteps := 300000) (disch := omega) [-getElem?_pos, -getElem?_neg]
  try (with_reducible refine Run.ret ?_)
  apply zz
  apply Cd.ite rfl
  · conv => lhs; simp -implicitDefEqProofs (maxSteps := 300000) (disch := omega) [-getElem?_pos, -getElem?_neg]
  all_goals intro c0
  all_goals try (cases c0; done)
  all_goals try simp only [Bool.not_eq_true', Bool.not_eq_false', decide_eq_true_eq, decide_eq_false_iff_not] at c0
  all_goals apply zz
  apply zz
  refine Cd.ra (h := ?_)
  apply Run.by_eq
  · intro self
    conv => lhs; simp -implicitDefEqProofs (maxSteps := 300000) (disch := omega) [-getElem?_pos, -getElem?_neg, y0, va]
  try (with_reducible refine Run.ret ?_)
  apply zz
  refine Run.call ((hbo m rfl _ (hs.keep ⟨by (try simp only [pushed_next', upded_next']); omega, fun i hi => by simp -implicitDefEqProofs (disch := omega) [yb]⟩) h1).mono fun v wz hv => ?_)
  obtain ⟨z, q1, q2, rfl, hq1, hq2⟩ := hv
  have za := z.1
  have zb := z.2
  have hE := fun w => endN_all h1 w
  have hlw := fun w s' (k : Keep wz s') hw => lower_ev m (LR lo hi ss) q1 w s' (hq1.keep k) (by omega) hw fun w _ => (hE w).1
  have hup := fun w s' (k : Keep wz s') hw => upper_ev m (LR lo hi ss) (HR lo hi ss) q1 q2 w s' (hq1.keep k) (hq2.keep k) (by omega) hw (fun w _ => (hE w).1) fun w _ => (hE w).2
  have hV := fun w (hw : w < m) => vals_ok h1 hc hw
  have hU := fun w (hw : w < m) => UF_ref h1 hw
  have hWe := fun w (hw : w < m) => WF_ref h1 hw
  have hRm : ∀ w, w < m → Mid 3600000 30 (lowF m (wF (LR lo hi ss)) w) ∧ Mid 3600000 30 (rupF m (wF (LR lo hi ss)) (wF (HR lo hi ss)) w) := fun w hw => rvals_ok h1 hw
  have hW0 : ∀ w, w < m → 0 ≤ (lowF m (wF (LR lo hi ss)) w).o := fun w hw => by rw [← WF_ref h1 hw]; exact (hV w hw).1.1
  have hU0 : ∀ w, w < m → 0 ≤ (rupF m (wF (LR lo hi ss)) (wF (HR lo hi ss)) w).o := fun w hw => nonneg_eqv (hU w hw).1.1 (hU w hw).1.2 (hU w hw).2 (hV w hw).2.1
  obtain ⟨a1, c1', rfl⟩ := hq1.shape
  obtain ⟨a2, c2', rfl⟩ := hq2.shape
  rw [List.length_map, List.length_map, List.length_range] at hq1 hq2 hup hlw
  rw [List.length_map, List.length_map, List.length_range] at hup
  rw [List.length_map, List.length_map, List.length_map, List.length_map, List.length_range]
  have z0 := (zb _ (by omega)).trans y0
  have hlim : -1 ≤ min (max least (-1)) 30001 ∧ min (max least (-1)) 30001 ≤ 30001 := by omega
  have hfbl : ∀ x : Frac, 0 ≤ x.o → 0 < x.u → aboveB ⟨min (max least (-1)) 30001, 1⟩ x = aboveB ⟨limI least, 1⟩ x := fun x hx hu => lim_low hx hu
  have hat := fun x s => at_ev x least s
  generalize LR lo hi ss = L' at *
  generalize HR lo hi ss = H' at *
  generalize min (max least (-1)) 30001 = t at *
  have hTm : Mid 3600000 30 (⟨t, 1⟩ : Frac) := by unfold Mid; simp only []; omega
  apply Run.by_eq
  · intro self
    conv => lhs; simp -implicitDefEqProofs (maxSteps := 300000) (disch := omega) [-getElem?_pos, -getElem?_neg, z0]
  try (with_reducible refine Run.ret ?_)
  apply zz
  refine Cd.ra (h := ?_)
  apply Run.by_eq
  · intro self
    conv => lhs; simp -implicitDefEqProofs (maxSteps := 300000) (disch := omega) [-getElem?_pos, -getElem?_neg]
  try (with_reducible refine Run.ret ?_)
  apply zz
  refine Cd.ra (h := ?_)
  apply Run.by_eq
  · intro self
    conv => lhs; simp -implicitDefEqProofs (maxSteps := 300000) (disch := omega) [-getElem?_pos, -getElem?_neg]
  try (with_reducible refine Run.ret ?_)
  apply zz
  refine Cd.inv (fun z f s' => ∃ (k : Nat) (b1 b2 : Option Nat), k ≤ m ∧ z = m - k ∧ f.marks = [] ∧ f.get 1 = .int .i64 least ∧ f.get 2 = .pointer (some ⟨s.next, 0, none⟩) ∧ f.get 9 = .slice a1 m c1' ∧ f.get 10 = .slice a2 m c2' ∧ f.get 13 = .int .i64 k ∧ Keep wz s' ∧ (∀ i, b1 = some i → b2 ≠ some i) ∧ OwnB 1 wz.next s' (f.get 11) (iC (wkL k (fromB (WF m lo hi ss) ⟨limI least, 1⟩))) b1 ∧ OwnB 1 wz.next s' (f.get 12) (iC (wkL k (fromB (UF m lo hi ss) ⟨limI least, 1⟩))) b2) m ?_ ?_
  · exact ⟨0, none, none, by omega, rfl, by simp, by simp, by simp, by simp, by simp, by simp, Keep.refl _, (fun i h => by cases h), .inl ⟨rfl, rfl, by simp⟩, .inl ⟨rfl, rfl, by simp⟩⟩
  rintro zz0 f s1 ⟨k, b1, b2, hk, rfl, hmk, g1, g2, g9, g10, g13, hkp, hbb, hO1, hO2⟩
  have hkpa := hkp.1
  have hkpb := hkp.2
  have hg0 := (hkpb _ (by omega)).trans z0
  by_cases hlt : k < m
  · have hlt' : (k : Int) < m := by omega
    have hp1 : fromB (WF m lo hi ss) ⟨limI least, 1⟩ k = !aboveB ⟨t, 1⟩ (lowF m (wF L') k) := by
      unfold fromB; rw [hWe k hlt, hfbl _ (hW0 k hlt) (hRm k hlt).1.2.1]
    have hp2 : fromB (UF m lo hi ss) ⟨limI least, 1⟩ k = !aboveB ⟨t, 1⟩ (rupF m (wF L') (wF H') k) := by
      unfold fromB; rw [hfbl _ (hU0 k hlt) (hRm k hlt).2.2.1, above_eqv (hU k hlt).1.1 (hU k hlt).1.2 (hU k hlt).2]
    have hat1 := fun s => hat (lowF m (wF L') k) s ((hRm k hlt).1.fits hTm (by decide))
    have hat2 := fun s => hat (rupF m (wF L') (wF H') k) s ((hRm k hlt).2.fits hTm (by decide))
    have hlk := fun s' kk => hlw k s' kk hlt
    have hupk := fun s' kk => hup k s' kk hlt
    generalize lowF m (wF L') k = X at *
    generalize rupF m (wF L') (wF H') k = Y at *
    rw [← hp1] at hat1
    rw [← hp2] at hat2
    generalize hP1 : fromB (WF m lo hi ss) ⟨limI least, 1⟩ = P1 at *
    generalize hP2 : fromB (UF m lo hi ss) ⟨limI least, 1⟩ = P2 at *
    apply zz
    refine Cd.ra (h := ?_)
    apply Run.by_eq
    · intro self
      conv => lhs; simp -implicitDefEqProofs (maxSteps := 300000) (disch := omega) [-getElem?_pos, -getElem?_neg, g13, g2, hg0, hlt']
    try (with_reducible refine Run.ret ?_)
    apply zz
    apply Cd.ite rfl
    · conv => lhs; simp -implicitDefEqProofs (maxSteps := 300000) (disch := omega) [-getElem?_pos, -getElem?_neg]
    all_goals intro c1
    all_goals try (cases c1; done)
    all_goals try simp only [Bool.not_eq_true', Bool.not_eq_false', decide_eq_true_eq, decide_eq_false_iff_not] at c1
    all_goals apply zz
    apply zz
    refine Cd.ra (h := ?_)
    apply Run.by_eq
    · intro self
      conv => lhs; simp -implicitDefEqProofs (maxSteps := 300000) (disch := omega) [-getElem?_pos, -getElem?_neg, g9, g13]
    try (with_reducible refine Run.ret ?_)
    apply zz
    refine Run.call ((hlk _ hkp).mono fun v wp hv => ?_)
    obtain ⟨rfl, p⟩ := hv
    have pa := p.1
    have pb := p.2
    try simp only [pushed_next', upded_next'] at pa pb
    apply Run.by_eq
    · intro self
      conv => lhs; simp -implicitDefEqProofs (maxSteps := 300000) (disch := omega) [-getElem?_pos, -getElem?_neg, g1]
    try (with_reducible refine Run.ret ?_)
    apply zz
    refine Run.call ((hat1 _).mono fun v wq hv => ?_)
    obtain ⟨rfl, q⟩ := hv
    have qa := q.1
    have qb := q.2
    try simp only [pushed_next', upded_next'] at qa qb
    have kq : Keep s1 wq := ⟨by omega, fun i hi => (qb i (by omega)).trans (pb i hi)⟩
    obtain ⟨s3, happ, hn3, hk3, hO3⟩ := app_wk hO1 kq hkpa (by omega)
    apply Run.by_eq
    · intro self
      conv => lhs; simp -implicitDefEqProofs (maxSteps := 300000) (disch := omega) [-getElem?_pos, -getElem?_neg]
    try (with_reducible refine Run.ret ?_)
    apply zz
    refine Cd.mono (Q := fun x f2 s2 => x = Ex.normal ∧ f2.marks = [] ∧ f2.get 1 = .int .i64 least ∧ f2.get 2 = .pointer (some ⟨s.next, 0, none⟩) ∧ f2.get 9 = .slice a1 m c1' ∧ f2.get 10 = .slice a2 m c2' ∧ f2.get 13 = .int .i64 k ∧ ∃ b1' : Option Nat, Keep wz s2 ∧ (∀ i, b1' = some i → b2 ≠ some i) ∧ OwnB 1 wz.next s2 (f2.get 11) (iC (wkL (k + 1) P1)) b1' ∧ OwnB 1 wz.next s2 (f2.get 12) (iC (wkL k P2)) b2) ?_ ?_
    · cases hp : P1 k with
      | true =>
        apply zz
        apply Cd.ite rfl
        · conv => lhs; simp -implicitDefEqProofs (maxSteps := 300000) (disch := omega) [-getElem?_pos, -getElem?_neg]
        all_goals intro c2
        all_goals try (cases c2; done)
        all_goals try simp only [Bool.not_eq_true', Bool.not_eq_false', decide_eq_true_eq, decide_eq_false_iff_not] at c2
        all_goals apply zz
        apply zz
        refine Cd.ra (h := ?_)
        apply Run.by_eq
        · intro self
          conv => lhs; simp -implicitDefEqProofs (maxSteps := 300000) (disch := omega) [-getElem?_pos, -getElem?_neg, g13, happ]
        try (with_reducible refine Run.ret ?_)
        apply zz
        refine ⟨rfl, by simp [hmk], by simp [g1], by simp [g2], by simp [g9], by simp [g10], by simp [g13], some (wq.next + 1), ⟨by omega, fun i hi => (hk3 i (by omega) fun e => by have := hO1.lt e; omega).trans (hkpb i hi)⟩, fun i e e2 => ?_, by simpa using hO3 hp, ?_⟩
        · cases e; have := hO2.lt e2; omega
        · have := hO2.keep (s' := s3) (by omega) fun i hi e => hk3 i hi fun e1 => hbb i e1 e
          simpa using this
      | false =>
        apply zz
        apply Cd.ite rfl
        · conv => lhs; simp -implicitDefEqProofs (maxSteps := 300000) (disch := omega) [-getElem?_pos, -getElem?_neg]
        all_goals intro c2
        all_goals try (cases c2; done)
        all_goals try simp only [Bool.not_eq_true', Bool.not_eq_false', decide_eq_true_eq, decide_eq_false_iff_not] at c2
        all_goals apply zz
        exact ⟨rfl, by simp [hmk], by simp [g1], by simp [g2], by simp [g9], by simp [g10], by simp [g13], b1, hkp.trans kq, hbb, by simpa using wk_skip hO1 kq hp, by simpa using hO2.keepK kq⟩
    clear hkp hkpa hkpb hg0 hO1 hO2 hbb hO3 hk3 hn3 happ kq p pa pb q qa qb hmk g1 g2 g9 g10 g13
    rintro x f s1 ⟨rfl, hmk, g1, g2, g9, g10, g13, b1, hkp, hbb, hO1, hO2⟩
    apply zz
    have hkpa := hkp.1
    have hkpb := hkp.2
    apply zz
    refine Cd.ra (h := ?_)
    apply Run.by_eq
    · intro self
      conv => lhs; simp -implicitDefEqProofs (maxSteps := 300000) (disch := omega) [-getElem?_pos, -getElem?_neg, g9, g10, g13]
    try (with_reducible refine Run.ret ?_)
    apply zz
    refine Run.call ((hupk _ hkp).mono fun v wp hv => ?_)
    obtain ⟨rfl, p⟩ := hv
    have pa := p.1
    have pb := p.2
    try simp only [pushed_next', upded_next'] at pa pb
    apply Run.by_eq
    · intro self
      conv => lhs; simp -implicitDefEqProofs (maxSteps := 300000) (disch := omega) [-getElem?_pos, -getElem?_neg, g1]
    try (with_reducible refine Run.ret ?_)
    apply zz
    refine Run.call ((hat2 _).mono fun v wq hv => ?_)
    obtain ⟨rfl, q⟩ := hv
    have qa := q.1
    have qb := q.2
    try simp only [pushed_next', upded_next'] at qa qb
    have kq : Keep s1 wq := ⟨by omega, fun i hi => (qb i (by omega)).trans (pb i hi)⟩
    obtain ⟨s3, happ, hn3, hk3, hO3⟩ := app_wk hO2 kq hkpa (by omega)
    apply Run.by_eq
    · intro self
      conv => lhs; simp -implicitDefEqProofs (maxSteps := 300000) (disch := omega) [-getElem?_pos, -getElem?_neg]
    try (with_reducible refine Run.ret ?_)
    apply zz
    cases hp : P2 k with
    | true =>
      apply zz
      apply Cd.ite rfl
      · conv => lhs; simp -implicitDefEqProofs (maxSteps := 300000) (disch := omega) [-getElem?_pos, -getElem?_neg]
      all_goals intro c2
      all_goals try (cases c2; done)
      all_goals try simp only [Bool.not_eq_true', Bool.not_eq_false', decide_eq_true_eq, decide_eq_false_iff_not] at c2
      all_goals apply zz
      apply zz
      refine Cd.ra (h := ?_)
      apply Run.by_eq
      · intro self
        conv => lhs; simp -implicitDefEqProofs (maxSteps := 300000) (disch := omega) [-getElem?_pos, -getElem?_neg, g13, happ]
      try (with_reducible refine Run.ret ?_)
      apply zz
      refine Cd.ra (h := ?_)
      apply Run.by_eq
      · intro self
        conv => lhs; simp -implicitDefEqProofs (maxSteps := 300000) (disch := omega) [-getElem?_pos, -getElem?_neg, g13]
      try (with_reducible refine Run.ret ?_)
      apply zz
      refine LoopK.nm (m - (k + 1)) (by omega) ⟨k + 1, b1, some (wq.next + 1), by omega, rfl, by simp [hmk], by simp [g1], by simp [g2], by simp [g9], by simp [g10], by simp, ⟨by omega, fun i hi => (hk3 i (by omega) fun e => by have := hO2.lt e; omega).trans (hkpb i hi)⟩, fun i e e2 => ?_, ?_, by simpa using hO3 hp⟩
      · cases e2; have := hO1.lt e; omega
      · have := hO1.keep (s' := s3) (by omega) fun i hi e => hk3 i hi fun e1 => hbb i e e1
        simpa using this
    | false =>
      apply zz
      apply Cd.ite rfl
      · conv => lhs; simp -implicitDefEqProofs (maxSteps := 300000) (disch := omega) [-getElem?_pos, -getElem?_neg]
      all_goals intro c2
      all_goals try (cases c2; done)
      all_goals try simp only [Bool.not_eq_true', Bool.not_eq_false', decide_eq_true_eq, decide_eq_false_iff_not] at c2
      all_goals apply zz
      apply zz
      refine Cd.ra (h := ?_)
      apply Run.by_eq
      · intro self
        conv => lhs; simp -implicitDefEqProofs (maxSteps := 300000) (disch := omega) [-getElem?_pos, -getElem?_neg, g13]
      try (with_reducible refine Run.ret ?_)
      apply zz
      exact LoopK.nm (m - (k + 1)) (by omega) ⟨k + 1, b1, b2, by omega, rfl, by simp [hmk], by simp [g1], by simp [g2], by simp [g9], by simp [g10], by simp, hkp.trans kq, hbb, by simpa using hO1.keepK kq, by simpa using wk_skip hO2 kq hp⟩
  · obtain rfl : k = m := by omega
    have ho1 : oneV (f.get 11) = true := by
      rcases hO1 with ⟨_, _, e3⟩ | ⟨_, _, e3, _⟩ <;> rw [e3] <;> rfl
    have ho2 : oneV (f.get 12) = true := by
      rcases hO2 with ⟨_, _, e3⟩ | ⟨_, _, e3, _⟩ <;> rw [e3] <;> rfl
    apply zz
    refine Cd.ra (h := ?_)
    apply Run.by_eq
    · intro self
      conv => lhs; simp -implicitDefEqProofs (maxSteps := 300000) (disch := omega) [-getElem?_pos, -getElem?_neg, g13, g2, hg0]
    try (with_reducible refine Run.ret ?_)
    apply zz
    apply Cd.ite rfl
    · conv => lhs; simp -implicitDefEqProofs (maxSteps := 300000) (disch := omega) [-getElem?_pos, -getElem?_neg]
    all_goals intro c1
    all_goals try (cases c1; done)
    all_goals try simp only [Bool.not_eq_true', Bool.not_eq_false', decide_eq_true_eq, decide_eq_false_iff_not] at c1
    all_goals apply zz
    apply zz
    refine Cd.ra (h := ?_)
    apply Run.by_eq
    · intro self
      conv => lhs; simp -implicitDefEqProofs (maxSteps := 300000) (disch := omega) [-getElem?_pos, -getElem?_neg]
    try (with_reducible refine Run.ret ?_)
    apply zz
    apply Leave.mk (by first | exact .inl rfl | exact .inr rfl) (by simp only [Fr.marks_put, fr0_marks, hmk])
    · conv => lhs; simp -implicitDefEqProofs (disch := omega) [Try.results27, hmk]
    exact ⟨⟨by omega, fun i hi => by rw [hkpb i (by omega), zb i (by omega), yb i (by omega)]; simp -implicitDefEqProofs (disch := omega)⟩, _, _, _, rfl, .inr (.inr ⟨h1, rfl, ⟨hO1.g.sl (iC_len _), hO2.g.sl (iC_len _)⟩, hc⟩)⟩
end Go.Proofs.Ytnhokodcmeekhaa
namespace Go.Proofs.Ytnhokodcmeekhaa
open Go Kern
/-! Regrets -/
def minusF (x y : Frac) : Frac := ⟨x.o * y.u - y.o * x.u, x.u * y.u⟩
def raisedL (m : Nat) (L H : Nat → Frac) (o : Nat) : Nat → Frac := updF L o (upF m L H o)
def lossF (m : Nat) (L H : Nat → Frac) (w o : Nat) : Frac := minusF (upF m L H o) (lowF m (raisedL m L H o) w)
/-- The regret of a week. -/
def regF (m : Nat) (L H : Nat → Frac) (w : Nat) : Frac := foreF aboveB ⟨0, 1⟩ ((List.range m).map (lossF m L H w))
theorem minus_mid {x y : Frac} (hx : Mid 3600000 30 x) (hy : Mid 6480000000 27000 y) : Mid 291600000000 810000 (minusF x y) := by
  have p1 := mul_bd 3600000 27000 hx.1 (b := y.u) (by have := hy.2; omega)
  have p2 := mul_bd 6480000000 30 hy.1 (b := x.u) (by have := hx.2; omega)
  have p3 := mul_bd 30 27000 (a := x.u) (b := y.u) (by have := hx.2; omega) (by have := hy.2; omega)
  have hp := Int.mul_pos hx.2.1 hy.2.1
  unfold Mid minusF
  simp only []
  omega
set_option maxRecDepth 100000 in
set_option maxHeartbeats 1000000 in
theorem minus_ev (x y : Frac) (s : St) (hx : Mid 3600000 30 x) (hy : Mid 6480000000 27000 y) : Ev TT 82 [x.v, y.v] s fun r s' => r = (minusF x y).v ∧ Keep s s' := by
  have p1 := mul_bd 3600000 27000 hx.1 (b := y.u) (by have := hy.2; omega)
  have p2 := mul_bd 6480000000 30 hy.1 (b := x.u) (by have := hx.2; omega)
  have p3 := mul_bd 30 27000 (a := x.u) (b := y.u) (by have := hx.2; omega) (by have := hy.2; omega)
  unfold minusF Frac.v
  obtain ⟨a, b⟩ := x
  obtain ⟨c, d⟩ := y
  clear hx hy
  simp only [] at p1 p2 p3 ⊢
  generalize hX : a * d = X at *
  generalize hY : c * b = Y at *
  generalize hZ : b * d = Z at *
  refine Ev.intro (fn := Try.f82) rfl (by kernel_rfl) rfl rfl ?_
  apply zz
  refine Cd.ra (h := ?_)
  apply Run.by_eq
  · intro self
    conv => lhs; simp -implicitDefEqProofs (maxSteps := 300000) (disch := omega) [-getElem?_pos, -getElem?_neg]
  try (with_reducible refine Run.ret ?_)
  apply zz
  refine Cd.ra (h := ?_)
  apply Run.by_eq
  · intro self
    conv => lhs; simp -implicitDefEqProofs (maxSteps := 300000) (disch := omega) [-getElem?_pos, -getElem?_neg, hX, hY, hZ]
  try (with_reducible refine Run.ret ?_)
  apply zz
  apply Leave.mk (by first | exact .inl rfl | exact .inr rfl) (by simp only [Fr.marks_put, fr0_marks])
  · conv => lhs; simp -implicitDefEqProofs (disch := omega) [Try.results82]
  exact ⟨rfl, ⟨by (try simp only [pushed_next', upded_next']); omega, fun i hi => by simp -implicitDefEqProofs (disch := omega) []⟩⟩
set_option maxRecDepth 100000 in
set_option maxHeartbeats 4000000 in
theorem raised_ev (n w : Nat) (L H : Nat → Frac) (s : St) (hn : n ≤ 30) (hw : w < n) (hL : ∀ i, i < n → Mid 60000 1 (L i)) (hH : ∀ i, i < n → Mid 60000 1 (H i)) :
    Ev TT 80 [.agg (bcells n L H).toArray, .int .i64 w] s fun r s' => r = .agg (bcells n (raisedL n L H w) H).toArray ∧ Keep s s' := by
  have hmo := fun s => most_ev 60000 1 _ n L H w s (bOk n _ _) hn hw (by decide) (by decide) (by decide) (by decide) (by decide) hL hH
  have hput := put_lo n L H (show w < 30 by omega) (upF n L H w)
  have e : updF L w (upF n L H w) = raisedL n L H w := rfl
  rw [e] at hput
  have hOK := bOk n L H
  have hOK2 := bOk n (raisedL n L H w) H
  have b1 := takeL_len hOK.len
  have b2 := hOK.len
  have b3 := hOK.ones
  have b4 := hOK.same
  have c1 := takeL_len hOK2.len
  have c2 := hOK2.len
  have c3 := hOK2.ones
  have hov := ov_zero c2
  simp only [List.reduceReplicate] at hov
  have hw30 : w < 30 := by omega
  have hw30' : (w : Int) < 30 := by omega
  generalize bcells n L H = BC at *
  generalize bcells n (raisedL n L H w) H = BD at *
  generalize upF n L H w = X at *
  refine Ev.intro (fn := Try.f80) rfl (by kernel_rfl) rfl rfl ?_
  apply zz
  refine Cd.ra (h := ?_)
  apply Run.by_eq
  · intro self
    conv => lhs; simp -implicitDefEqProofs (maxSteps := 300000) (disch := omega) [-getElem?_pos, -getElem?_neg, b2, b3]
  try (with_reducible refine Run.ret ?_)
  apply zz
  refine Cd.ra (h := ?_)
  apply Run.by_eq
  · intro self
    conv => lhs; simp -implicitDefEqProofs (maxSteps := 300000) (disch := omega) [-getElem?_pos, -getElem?_neg, b1, b2, b3]
  try (with_reducible refine Run.ret ?_)
  apply zz
  refine Run.call ((hmo _).mono fun v wy hv => ?_)
  obtain ⟨rfl, y⟩ := hv
  have ya := y.1
  have yb := y.2
  try simp only [pushed_next', upded_next'] at ya yb
  have y0 : wy.heap.get s.next = some (.cells BC none) := by rw [yb _ (by omega)]; simp -implicitDefEqProofs (disch := omega)
  have y1 : wy.heap.get (s.next + 1) = some (.cells (.int .i64 0 :: List.replicate 120 (.int .i64 0)) none) := by rw [yb _ (by omega)]; simp -implicitDefEqProofs (disch := omega)
  apply Run.by_eq
  · intro self
    conv => lhs; simp -implicitDefEqProofs (maxSteps := 300000) (disch := omega) [-getElem?_pos, -getElem?_neg, v_eq, y0, hput, hw30, hw30']
  try (with_reducible refine Run.ret ?_)
  apply zz
  refine Cd.ra (h := ?_)
  apply Run.by_eq
  · intro self
    conv => lhs; simp -implicitDefEqProofs (maxSteps := 300000) (disch := omega) [-getElem?_pos, -getElem?_neg, c1, c2, c3, y1, hov]
  try (with_reducible refine Run.ret ?_)
  apply zz
  apply Leave.mk (by first | exact .inl rfl | exact .inr rfl) (by simp only [Fr.marks_put, fr0_marks, c1, c2, c3])
  · conv => lhs; simp -implicitDefEqProofs (disch := omega) [Try.results80, c1, c2, c3]
  exact ⟨rfl, ⟨by (try simp only [pushed_next', upded_next']); omega, fun i hi => by simp -implicitDefEqProofs (disch := omega) [yb]⟩⟩
@[simp] theorem newObj_135 {f : Fr} {pl0 : Array (Nat × Operand)} : Kern.newObj TT (.buildSlice 135 1 pl0) f = ob (fillL f.eval (placesA 121 pl0.toList) (repeatL zBC 1)) fun c => some (.cells c none) :=
  newObj_buildSlice 135 1 pl0 und_135 size_93 zero_93 rfl
theorem bc_len (n : Nat) (L : Nat → Nat → Frac) (H : Nat → Frac) (k : Nat) : ∀ y ∈ (List.range k).map (fun o => bcells n (L o) H), y.length = 121 := fun y hy => by
  obtain ⟨j, _, rfl⟩ := List.mem_map.1 hy; exact (bOk n (L j) H).len
set_option maxRecDepth 100000 in
set_option maxHeartbeats 4000000 in
theorem regrets_ev (n : Nat) (L H : Nat → Frac) (s : St) (hn : n ≤ 30) (hL : ∀ i, i < n → Mid 60000 1 (L i)) (hH : ∀ i, i < n → Mid 60000 1 (H i)) :
    Ev TT 64 [.agg (bcells n L H).toArray] s fun r s' => Keep s s' ∧ ∃ p v, r = .func (.func 81) #[] #[.pointer (some ⟨p, 0, none⟩)] ∧ s.next ≤ p ∧ p < s'.next ∧ s'.heap.get p = some (.cells [v] none) ∧ SlAt 121 s' v ((List.range n).map fun o => bcells n (raisedL n L H o) H) := by
  have hra := fun w s hw => raised_ev n w L H s hn hw hL hH
  have hOK := bOk n L H
  have b1 := takeL_len hOK.len
  have b2 := hOK.len
  have b3 := hOK.ones
  have b4 := hOK.same
  have hwk := hOK.wk
  generalize hBC : bcells n L H = BC at *
  refine Ev.intro (fn := Try.f64) rfl (by kernel_rfl) rfl rfl ?_
  apply zz
  refine Cd.ra (h := ?_)
  apply Run.by_eq
  · intro self
    conv => lhs; simp -implicitDefEqProofs (maxSteps := 300000) (disch := omega) [-getElem?_pos, -getElem?_neg, b2, b3]
  try (with_reducible refine Run.ret ?_)
  apply zz
  refine Cd.ra (h := ?_)
  apply Run.by_eq
  · intro self
    conv => lhs; simp -implicitDefEqProofs (maxSteps := 300000) (disch := omega) [-getElem?_pos, -getElem?_neg]
  try (with_reducible refine Run.ret ?_)
  apply zz
  refine Cd.ra (h := ?_)
  apply Run.by_eq
  · intro self
    conv => lhs; simp -implicitDefEqProofs (maxSteps := 300000) (disch := omega) [-getElem?_pos, -getElem?_neg, hwk]
  try (with_reducible refine Run.ret ?_)
  apply zz
  refine Cd.inv (fun z f s' => ∃ (k : Nat) (vv : Value), k ≤ n ∧ z = n - k ∧ f.marks = [] ∧ f.get 1 = .pointer (some ⟨s.next, 0, none⟩) ∧ f.get 3 = .pointer (some ⟨s.next + 1, 0, none⟩) ∧ f.get 6 = .int .i64 n ∧ f.get 7 = .int .i64 k ∧ Keep s s' ∧ s.next + 1 < s'.next ∧ s'.heap.get s.next = some (.cells BC none) ∧ s'.heap.get (s.next + 1) = some (.cells [vv] none) ∧ OwnG 121 (s.next + 1 + 1) s' vv ((List.range k).map fun o => bcells n (raisedL n L H o) H)) n ?_ ?_
  · exact ⟨0, .slice none 0 0, by omega, rfl, by simp, by simp, by simp, by simp, by simp, ⟨by (try simp only [pushed_next', upded_next']); omega, fun i hi => by simp -implicitDefEqProofs (disch := omega) []⟩, by simp, by simp -implicitDefEqProofs (disch := omega), by simp -implicitDefEqProofs (disch := omega), .inl ⟨rfl, rfl⟩⟩
  rintro z f s1 ⟨k, vv, hk, rfl, hm, g1, g3, g6, g7, hkp, hnx, hg0, hg1, hO⟩
  have hkpa := hkp.1
  have hkpb := hkp.2
  have hrows := bc_len n (raisedL n L H) H k
  by_cases hlt : k < n
  · have hlt' : (k : Int) < n := by omega
    have hrl : ((List.range k).map fun o => bcells n (raisedL n L H o) H).length = k := by simp
    have hrn : (List.range (k + 1)).map (fun o => bcells n (raisedL n L H o) H) = (List.range k).map (fun o => bcells n (raisedL n L H o) H) ++ [bcells n (raisedL n L H k) H] := by rw [List.range_succ, List.map_append]; rfl
    have hOK2 := bOk n (raisedL n L H k) H
    have c2 := hOK2.len
    have c3 := hOK2.ones
    have c4 := hOK2.same
    have hov := ov_zero c2
    simp only [List.reduceReplicate] at hov
    have hov2 : overL (bcells n (raisedL n L H k) H) zBC = some (bcells n (raisedL n L H k) H) := ov_zero c2
    have c5 := bc_same n (raisedL n L H k) H 4
    have hvs : veq 5 vv vv = true := veq_sl (k := 4) (hO.sl hrows)
    have ho1 : oneV vv = true := by rcases hO with ⟨_, rfl⟩ | ⟨_, rfl, _⟩ <;> rfl
    have hrk := fun s => hra k s hlt
    generalize bcells n (raisedL n L H k) H = BD at *
    generalize (List.range k).map (fun o => bcells n (raisedL n L H o) H) = rows at *
    apply zz
    refine Cd.ra (h := ?_)
    apply Run.by_eq
    · intro self
      conv => lhs; simp -implicitDefEqProofs (maxSteps := 300000) (disch := omega) [-getElem?_pos, -getElem?_neg, g7, g6, hlt']
    try (with_reducible refine Run.ret ?_)
    apply zz
    apply Cd.ite rfl
    · conv => lhs; simp -implicitDefEqProofs (maxSteps := 300000) (disch := omega) [-getElem?_pos, -getElem?_neg]
    all_goals intro c0
    all_goals try (cases c0; done)
    all_goals try simp only [Bool.not_eq_true', Bool.not_eq_false', decide_eq_true_eq, decide_eq_false_iff_not] at c0
    all_goals apply zz
    apply zz
    refine Cd.ra (h := ?_)
    apply Run.by_eq
    · intro self
      conv => lhs; simp -implicitDefEqProofs (maxSteps := 300000) (disch := omega) [-getElem?_pos, -getElem?_neg, g7]
    try (with_reducible refine Run.ret ?_)
    apply zz
    refine Cd.drawn (pl := [(0, 0, false, false), (1, 0, false, false), (2, 0, false, false), (3, 6, true, false), (4, 14, false, true), (5, 31, true, false), (6, 63, true, false)]) (by kernel_rfl) (by conv => lhs; simp only [List.map_cons, List.map_nil]) (by conv => lhs; simp [strip, ordered]) ?_
    apply Run.by_eq
    · intro self
      conv => lhs; simp -implicitDefEqProofs (maxSteps := 300000) (disch := omega) [filter_bt, (show Nat.testBit 6 0 = false from rfl), (show Nat.testBit 6 1 = true from rfl), (show Nat.testBit 6 2 = true from rfl), (show ∀ i, Nat.testBit 31 i = decide (i < 5) from fun i => Nat.testBit_two_pow_sub_one 5 i), (show ∀ i, Nat.testBit 63 i = decide (i < 6) from fun i => Nat.testBit_two_pow_sub_one 6 i), -getElem?_pos, -getElem?_neg, g1, g3, hg0, hg1, b1, b4, hvs]
    try (with_reducible refine Run.ret ?_)
    apply zz
    refine Run.call ((hrk _).mono fun v wy hv => ?_)
    obtain ⟨rfl, y⟩ := hv
    have ya := y.1
    have yb := y.2
    try simp only [pushed_next', upded_next'] at ya yb
    have y0 := (yb _ (by omega)).trans hg0
    have y1 := (yb _ (by omega)).trans hg1
    have kx2 : Keep s1 (wy.pushed (.cells BD none)) := Keep.pushed ⟨ya, yb⟩ _
    obtain ⟨s4, happ, hn4, hk4, hO4⟩ := app_one (n := 121) (b2 := wy.next) (x := BD) (g := none) (hO.keepK kx2) hrows c2 c3 (get_pushed_new _ _) (by (try simp only [pushed_next']); omega) (by omega)
    simp only [pushed_next', hrl] at happ hn4 hO4
    have z1 := (hk4 (s.next + 1) (by omega)).trans ((get_pushed_old _ _ _ (by omega)).trans y1)
    apply Run.by_eq
    · intro self
      conv => lhs; simp -implicitDefEqProofs (maxSteps := 300000) (disch := omega) [-getElem?_pos, -getElem?_neg, g1, g3, y0, y1, b1, b4, hvs, hov, hov2, c2, c3, c4, c5, happ, z1]
    try (with_reducible refine Run.ret ?_)
    apply zz
    refine Cd.ra (h := ?_)
    apply Run.by_eq
    · intro self
      conv => lhs; simp -implicitDefEqProofs (maxSteps := 300000) (disch := omega) [-getElem?_pos, -getElem?_neg, g7]
    try (with_reducible refine Run.ret ?_)
    apply zz
    refine LoopK.nm (n - (k + 1)) (by omega) ⟨k + 1, _, by omega, rfl, by simp [hm], by simp [g1], by simp [g3], by simp [g6], by simp, ⟨by (try simp only [upded_next']); omega, fun i hi => ?_⟩, by (try simp only [upded_next']); omega, ?_, get_upded_same _ _ _, ?_⟩
    · rw [get_upded_other _ _ _ _ (by omega), hk4 i (by omega), get_pushed_old _ _ _ (by omega), yb i (by omega)]; exact hkpb i hi
    · rw [get_upded_other _ _ _ _ (by omega), hk4 _ (by omega), get_pushed_old _ _ _ (by omega)]; exact y0
    · rw [hrn]
      exact hO4.keep (by (try simp only [upded_next']); omega) fun i h1 h2 => get_upded_other _ _ _ _ (by omega)
  · obtain rfl : k = n := by omega
    apply zz
    refine Cd.ra (h := ?_)
    apply Run.by_eq
    · intro self
      conv => lhs; simp -implicitDefEqProofs (maxSteps := 300000) (disch := omega) [-getElem?_pos, -getElem?_neg, g7, g6]
    try (with_reducible refine Run.ret ?_)
    apply zz
    apply Cd.ite rfl
    · conv => lhs; simp -implicitDefEqProofs (maxSteps := 300000) (disch := omega) [-getElem?_pos, -getElem?_neg]
    all_goals intro c0
    all_goals try (cases c0; done)
    all_goals try simp only [Bool.not_eq_true', Bool.not_eq_false', decide_eq_true_eq, decide_eq_false_iff_not] at c0
    all_goals apply zz
    apply zz
    refine Cd.ra (h := ?_)
    apply Run.by_eq
    · intro self
      conv => lhs; simp -implicitDefEqProofs (maxSteps := 300000) (disch := omega) [-getElem?_pos, -getElem?_neg, g3]
    try (with_reducible refine Run.ret ?_)
    apply zz
    apply Leave.mk (by first | exact .inl rfl | exact .inr rfl) (by simp only [Fr.marks_put, fr0_marks, hm])
    · conv => lhs; simp -implicitDefEqProofs (disch := omega) [Try.results64, hm]
    exact ⟨hkp, s.next + 1, vv, rfl, by omega, hnx, hg1, hO.sl hrows⟩
end Go.Proofs.Ytnhokodcmeekhaa
namespace Go.Proofs.Ytnhokodcmeekhaa
open Go Kern
/-! The regret of a week -/
theorem raised_mid {n : Nat} {L H : Nat → Frac} {o : Nat} (hn : n ≤ 30) (ho : o < n) (hL : ∀ i, i < n → Mid 60000 1 (L i)) (hH : ∀ i, i < n → Mid 60000 1 (H i)) : ∀ i, i < n → Mid 3600000 30 (raisedL n L H o i) := fun i hi => by
  unfold raisedL updF
  split
  · exact up_mid hn ho (by decide) (by decide) (by decide) hL hH
  · exact (hL i hi).mono (by decide) (by decide)
theorem loss_mid {n : Nat} {L H : Nat → Frac} {w o : Nat} (hn : n ≤ 30) (hw : w < n) (ho : o < n) (hL : ∀ i, i < n → Mid 60000 1 (L i)) (hH : ∀ i, i < n → Mid 60000 1 (H i)) : Mid 291600000000 810000 (lossF n L H w o) :=
  minus_mid (up_mid hn ho (by decide) (by decide) (by decide) hL hH) (low_mid hn hw (by decide) (by decide) (by decide) (raised_mid hn ho hL hH))
theorem reg_mid {n : Nat} {L H : Nat → Frac} {w : Nat} (hn : n ≤ 30) (hw : w < n) (hL : ∀ i, i < n → Mid 60000 1 (L i)) (hH : ∀ i, i < n → Mid 60000 1 (H i)) : Mid 291600000000 810000 (regF n L H w) ∧ 0 ≤ (regF n L H w).o := by
  have hm : ∀ x ∈ (List.range n).map (lossF n L H w), Mid 291600000000 810000 x := fun x hx => by
    obtain ⟨o, ho, rfl⟩ := List.mem_map.1 hx
    exact loss_mid hn hw (by simpa using ho) hL hH
  have h0 : Mid 291600000000 810000 (⟨0, 1⟩ : Frac) := by unfold Mid; simp only []; omega
  refine ⟨fore_mid h0 hm, ?_⟩
  have := (fore_max _ (⟨0, 1⟩ : Frac) (by decide) fun x hx => (hm x hx).2.1).2.1
  unfold LeF at this
  unfold regF
  simp only [] at this
  omega
set_option maxRecDepth 100000 in
set_option maxHeartbeats 4000000 in
theorem regretOf_ev (n w p : Nat) (L H : Nat → Frac) (v : Value) (s : St) (hn : n ≤ 30) (hw : w < n) (hL : ∀ i, i < n → Mid 60000 1 (L i)) (hH : ∀ i, i < n → Mid 60000 1 (H i)) (hp : p < s.next) (hg : s.heap.get p = some (.cells [v] none)) (hv : SlAt 121 s v ((List.range n).map fun o => bcells n (raisedL n L H o) H)) :
    Ev TT 81 [.int .i64 w, .pointer (some ⟨p, 0, none⟩)] s fun r s' => r = (regF n L H w).v ∧ Keep s s' := by
  obtain ⟨a, c, rfl⟩ := hv.shape
  rw [List.length_map, List.length_range] at hv hg
  have hmids : ∀ x ∈ (List.range n).map (lossF n L H w), Mid 291600000000 810000 x := fun x hx => by
    obtain ⟨o, ho, rfl⟩ := List.mem_map.1 hx
    exact loss_mid hn hw (by simpa using ho) hL hH
  have h0 : Mid 291600000000 810000 (⟨0, 1⟩ : Frac) := by unfold Mid; simp only []; omega
  refine Ev.intro (fn := Try.f81) rfl (by kernel_rfl) rfl rfl ?_
  apply zz
  refine Cd.ra (h := ?_)
  apply Run.by_eq
  · intro self
    conv => lhs; simp -implicitDefEqProofs (maxSteps := 300000) (disch := omega) [-getElem?_pos, -getElem?_neg]
  try (with_reducible refine Run.ret ?_)
  apply zz
  refine Cd.ra (h := ?_)
  apply Run.by_eq
  · intro self
    conv => lhs; simp -implicitDefEqProofs (maxSteps := 300000) (disch := omega) [-getElem?_pos, -getElem?_neg]
  try (with_reducible refine Run.ret ?_)
  apply zz
  refine Cd.ra (h := ?_)
  apply Run.by_eq
  · intro self
    conv => lhs; simp -implicitDefEqProofs (maxSteps := 300000) (disch := omega) [-getElem?_pos, -getElem?_neg, hg]
  try (with_reducible refine Run.ret ?_)
  apply zz
  refine Cd.inv (fun z f s' => ∃ k : Nat, k ≤ n ∧ z = n - k ∧ f.marks = [] ∧ f.get 0 = .int .i64 w ∧ f.get 3 = .pointer (some ⟨s.next, 0, none⟩) ∧ f.get 7 = .slice a n c ∧ f.get 8 = .int .i64 n ∧ f.get 9 = .int .i64 k ∧ Keep s s' ∧ s.next < s'.next ∧ s'.heap.get s.next = some (.cells [.int .i64 0, .int .i64 0] none) ∧ OwnG 2 (s.next + 1) s' (f.get 4) (((List.range k).map (lossF n L H w)).map Frac.cs)) n ?_ ?_
  · exact ⟨0, by omega, rfl, by simp, by simp, by simp, by simp, by simp, by simp, ⟨by (try simp only [pushed_next', upded_next']); omega, fun i hi => by simp -implicitDefEqProofs (disch := omega) []⟩, by simp, by simp -implicitDefEqProofs (disch := omega), .inl ⟨rfl, by simp⟩⟩
  rintro z f s1 ⟨k, hk, rfl, hm, g0, g3, g7, g8, g9, hkp, hnx, hg0, hO⟩
  have hkpa := hkp.1
  have hkpb := hkp.2
  have hrows := cs_len ((List.range k).map (lossF n L H w))
  have hvs : veq 5 (f.get 4) (f.get 4) = true := veq_sl (k := 4) (hO.sl hrows)
  have ho1 : oneV (f.get 4) = true := by rcases hO with ⟨_, e⟩ | ⟨_, e, _⟩ <;> rw [e] <;> rfl
  by_cases hlt : k < n
  · have hlt' : (k : Int) < n := by omega
    have hk30 : k < 30 := by omega
    have hk30' : (k : Int) < 30 := by omega
    have hrl : (((List.range k).map (lossF n L H w)).map Frac.cs).length = k := by simp
    have hrn : ((List.range (k + 1)).map (lossF n L H w)).map Frac.cs = ((List.range k).map (lossF n L H w)).map Frac.cs ++ [(lossF n L H w k).cs] := by rw [List.range_succ, List.map_append, List.map_append]; rfl
    have hat : ((List.range n).map fun o => bcells n (raisedL n L H o) H)[k]? = some (bcells n (raisedL n L H k) H) := by rw [List.getElem?_map, List.getElem?_range hlt]; rfl
    obtain ⟨b, off, o, cs, gg, rfl, hb, ho, hc, ht⟩ := SlAt.at (hv.keep hkp) hat
    have hOK2 := bOk n (raisedL n L H k) H
    have c1 := takeL_len hOK2.len
    have c2 := hOK2.len
    have c3 := hOK2.ones
    have c4 := hOK2.same
    have hov := ov_zero c2
    simp only [List.reduceReplicate] at hov
    have hup : raisedL n L H k k = upF n L H k := if_pos rfl
    have clo := hOK2.lo k hk30
    rw [hup] at clo
    have hle := fun s => least_ev 3600000 30 _ n (raisedL n L H k) H w s hOK2 hn hw (by decide) (by decide) (by decide) (by decide) (by decide) (raised_mid hn hlt hL hH)
    have hmi := fun s => minus_ev (upF n L H k) (lowF n (raisedL n L H k) w) s (up_mid hn hlt (by decide) (by decide) (by decide) hL hH) (low_mid hn hw (by decide) (by decide) (by decide) (raised_mid hn hlt hL hH))
    have hlo : minusF (upF n L H k) (lowF n (raisedL n L H k) w) = lossF n L H w k := rfl
    rw [hlo] at hmi
    generalize bcells n (raisedL n L H k) H = BD at *
    generalize lossF n L H w k = X at *
    generalize ((List.range k).map (lossF n L H w)).map Frac.cs = rows at *
    generalize lowF n (raisedL n L H k) w = Y at *
    generalize upF n L H k = U at *
    apply zz
    refine Cd.ra (h := ?_)
    apply Run.by_eq
    · intro self
      conv => lhs; simp -implicitDefEqProofs (maxSteps := 300000) (disch := omega) [-getElem?_pos, -getElem?_neg, g9, g8, hlt']
    try (with_reducible refine Run.ret ?_)
    apply zz
    apply Cd.ite rfl
    · conv => lhs; simp -implicitDefEqProofs (maxSteps := 300000) (disch := omega) [-getElem?_pos, -getElem?_neg]
    all_goals intro c0
    all_goals try (cases c0; done)
    all_goals try simp only [Bool.not_eq_true', Bool.not_eq_false', decide_eq_true_eq, decide_eq_false_iff_not] at c0
    all_goals apply zz
    apply zz
    refine Cd.ra (h := ?_)
    apply Run.by_eq
    · intro self
      conv => lhs; simp -implicitDefEqProofs (maxSteps := 300000) (disch := omega) [-getElem?_pos, -getElem?_neg, g7, g9, hlt, ho, hc, ht, c1, c2, c3, hov]
    try (with_reducible refine Run.ret ?_)
    apply zz
    refine Cd.drawn (pl := [(0, 0, false, false), (1, 0, false, false), (2, 0, false, false), (3, 6, false, false), (4, 14, false, false), (5, 0, false, false), (6, 0, false, false), (7, 96, true, false), (8, 254, true, false), (9, 510, false, true), (10, 1023, true, false), (11, 2047, false, false)]) (by kernel_rfl) (by conv => lhs; simp only [List.map_cons, List.map_nil]) (by conv => lhs; simp [strip, ordered]) ?_
    apply Run.by_eq
    · intro self
      conv => lhs; simp -implicitDefEqProofs (maxSteps := 300000) (disch := omega) [filter_bt, (show Nat.testBit 96 0 = false from rfl), (show Nat.testBit 96 1 = false from rfl), (show Nat.testBit 96 2 = false from rfl), (show Nat.testBit 96 3 = false from rfl), (show Nat.testBit 96 4 = false from rfl), (show Nat.testBit 96 5 = true from rfl), (show Nat.testBit 96 6 = true from rfl), (show Nat.testBit 254 0 = false from rfl), (show Nat.testBit 254 1 = true from rfl), (show Nat.testBit 254 2 = true from rfl), (show Nat.testBit 254 3 = true from rfl), (show Nat.testBit 254 4 = true from rfl), (show Nat.testBit 254 5 = true from rfl), (show Nat.testBit 254 6 = true from rfl), (show ∀ i, Nat.testBit 1023 i = decide (i < 10) from fun i => Nat.testBit_two_pow_sub_one 10 i), -getElem?_pos, -getElem?_neg, g0, g9, c1, c4, clo, hk30, hk30', hvs]
    try (with_reducible refine Run.ret ?_)
    apply zz
    refine Run.call ((hle _).mono fun v wy hv => ?_)
    obtain ⟨rfl, y⟩ := hv
    have ya := y.1
    have yb := y.2
    try simp only [pushed_next', upded_next'] at ya yb
    have y0 : wy.heap.get s1.next = some (.cells BD none) := by rw [yb _ (by (try simp only [pushed_next', upded_next']); omega)]; simp -implicitDefEqProofs (disch := omega)
    apply Run.by_eq
    · intro self
      conv => lhs; simp -implicitDefEqProofs (maxSteps := 300000) (disch := omega) [-getElem?_pos, -getElem?_neg, g0, g9, y0, c1, c4, clo, hk30, hk30', hvs]
    try (with_reducible refine Run.ret ?_)
    apply zz
    rw [← v_eq]
    refine Run.call ((hmi _).mono fun v wx hv => ?_)
    obtain ⟨rfl, x⟩ := hv
    have xa := x.1
    have xb := x.2
    try simp only [pushed_next', upded_next'] at xa xb
    have x0 := (xb _ (by omega)).trans y0
    have kx : Keep s1 wx := ⟨by (try simp only [pushed_next', upded_next'] at *); omega, fun i hi => by rw [xb i (by omega), yb i (by (try simp only [pushed_next', upded_next']); omega)]; simp -implicitDefEqProofs (disch := omega)⟩
    have kx2 : Keep s1 (wx.pushed (.cells [.int .i64 X.o, .int .i64 X.u] none)) := kx.pushed _
    obtain ⟨s4, happ, hn4, hk4, hO4⟩ := app_one (n := 2) (b2 := wx.next) (x := [.int .i64 X.o, .int .i64 X.u]) (g := none) (hO.keepK kx2) hrows rfl rfl (get_pushed_new _ _) (by have := kx.1; (try simp only [pushed_next']); omega) (by omega)
    simp only [pushed_next', hrl] at happ hn4 hO4
    apply Run.by_eq
    · intro self
      conv => lhs; simp -implicitDefEqProofs (maxSteps := 300000) (disch := omega) [-getElem?_pos, -getElem?_neg, v_eq, g0, g9, x0, c1, c4, clo, hk30, hk30', hvs, happ]
    try (with_reducible refine Run.ret ?_)
    apply zz
    refine Cd.ra (h := ?_)
    apply Run.by_eq
    · intro self
      conv => lhs; simp -implicitDefEqProofs (maxSteps := 300000) (disch := omega) [-getElem?_pos, -getElem?_neg, g9]
    try (with_reducible refine Run.ret ?_)
    apply zz
    refine LoopK.nm (n - (k + 1)) (by omega) ⟨k + 1, by omega, rfl, by simp [hm], by simp [g0], by simp [g3], by simp [g7], by simp [g8], by simp, ⟨by have := kx.1; omega, fun i hi => (hk4 i (by omega)).trans ((kx2.2 i (by omega)).trans (hkpb i hi))⟩, by have := kx.1; omega, (hk4 _ (by omega)).trans ((kx2.2 _ (by omega)).trans hg0), ?_⟩
    rw [hrn]; simpa [Frac.cs] using hO4
  · obtain rfl : k = n := by omega
    have hfr : FrAt s1 (f.get 4) ((List.range k).map (lossF k L H w)) := hO.sl hrows
    have hgr := fun s' (kk : Keep s1 s') => greatest_ev ⟨0, 1⟩ (f.get 4) _ s' (hfr.keep kk) (by simp; omega) fun x hx y hy => (hmids x hx).fits (by
      rcases hy with rfl | hy
      · exact h0
      · exact hmids y hy) (by decide)
    have hreg : foreF aboveB ⟨0, 1⟩ ((List.range k).map (lossF k L H w)) = regF k L H w := rfl
    rw [hreg] at hgr
    apply zz
    refine Cd.ra (h := ?_)
    apply Run.by_eq
    · intro self
      conv => lhs; simp -implicitDefEqProofs (maxSteps := 300000) (disch := omega) [-getElem?_pos, -getElem?_neg, g8, g9]
    try (with_reducible refine Run.ret ?_)
    apply zz
    apply Cd.ite rfl
    · conv => lhs; simp -implicitDefEqProofs (maxSteps := 300000) (disch := omega) [-getElem?_pos, -getElem?_neg]
    all_goals intro c0
    all_goals try (cases c0; done)
    all_goals try simp only [Bool.not_eq_true', Bool.not_eq_false', decide_eq_true_eq, decide_eq_false_iff_not] at c0
    all_goals apply zz
    apply zz
    refine Cd.ra (h := ?_)
    apply Run.by_eq
    · intro self
      conv => lhs; simp -implicitDefEqProofs (maxSteps := 300000) (disch := omega) [-getElem?_pos, -getElem?_neg]
    try (with_reducible refine Run.ret ?_)
    apply zz
    refine Run.call ((whole_ev 0 _).mono fun v wx hv => ?_)
    obtain ⟨rfl, x⟩ := hv
    have xa := x.1
    have xb := x.2
    try simp only [pushed_next', upded_next'] at xa xb
    apply Run.by_eq
    · intro self
      conv => lhs; simp -implicitDefEqProofs (maxSteps := 300000) (disch := omega) [-getElem?_pos, -getElem?_neg]
    try (with_reducible refine Run.ret ?_)
    apply zz
    refine Run.call ((hgr _ ⟨xa, xb⟩).mono fun v wy hv => ?_)
    obtain ⟨rfl, y⟩ := hv
    have ya := y.1
    have yb := y.2
    have y0 := (yb _ (by omega)).trans ((xb _ (by omega)).trans hg0)
    apply Run.by_eq
    · intro self
      conv => lhs; simp -implicitDefEqProofs (maxSteps := 300000) (disch := omega) [-getElem?_pos, -getElem?_neg, v_eq, g3, y0]
    try (with_reducible refine Run.ret ?_)
    apply zz
    apply Leave.mk (by first | exact .inl rfl | exact .inr rfl) (by simp only [Fr.marks_put, fr0_marks, hm, g3])
    · conv => lhs; simp -implicitDefEqProofs (disch := omega) [Try.results81, hm, g3]
    exact ⟨rfl, ⟨by (try simp only [pushed_next', upded_next']); omega, fun i hi => by simp -implicitDefEqProofs (disch := omega) [yb, xb, hkpb]⟩⟩
end Go.Proofs.Ytnhokodcmeekhaa
namespace Go.Proofs.Ytnhokodcmeekhaa
open Go Kern
/-! Regret and Cut -/
def RF (n lo hi : Int) (ss : List SampD) : Nat → Frac := regF n.toNat (LF n lo hi ss) (HF n lo hi ss)
def RegA (n lo hi : Int) (ss : List SampD) (week r e : Int) : Prop :=
  (fieldErr n lo hi ss ≠ 0 ∧ e = fieldErr n lo hi ss ∧ r = 0) ∨
  (fieldErr n lo hi ss = 0 ∧ e = 12 ∧ r = 0 ∧ ∃ i j k, i < n.toNat ∧ j < n.toNat ∧ k < n.toNat ∧ hB lo hi ss i j k = true) ∨
  (fieldErr n lo hi ss = 0 ∧ ((weekB n week = false ∧ e = 5 ∧ r = 0) ∨ (weekB n week = true ∧ e = 0 ∧ r = ceF (RF n lo hi ss week.toNat))) ∧ ∀ i j k, i < n.toNat → j < n.toNat → k < n.toNat → hB lo hi ss i j k = false)
set_option maxRecDepth 100000 in
set_option maxHeartbeats 4000000 in
theorem regret_ev (n lo hi week : Int) (v : Value) (ss : List SampD) (s : St) (hs : SmAt s v ss) (hl : ss.length ≤ 1000000) : Ev TT 29 [fieldV n lo hi v, .int .i64 week] s fun r s' => Keep s s' ∧ ∃ x e, r = .tuple #[.int .i64 x, .int .i64 e] ∧ RegA n lo hi ss week x e := by
  have hck := possible_ev n lo hi v ss
  have hwk := fun s => hasWeek_ev n lo hi week v s
  obtain ⟨a, c, rfl⟩ := hs.shape
  rw [List.length_map] at hs hck hwk ⊢
  unfold fieldV at hck hwk ⊢
  refine Ev.intro (fn := Try.f29) rfl (by kernel_rfl) rfl rfl ?_
  apply zz
  refine Cd.ra (h := ?_)
  apply Run.by_eq
  · intro self
    conv => lhs; simp -implicitDefEqProofs (maxSteps := 300000) (disch := omega) [-getElem?_pos, -getElem?_neg]
  try (with_reducible refine Run.ret ?_)
  apply zz
  refine Cd.ra (h := ?_)
  apply Run.by_eq
  · intro self
    conv => lhs; simp -implicitDefEqProofs (maxSteps := 300000) (disch := omega) [-getElem?_pos, -getElem?_neg]
  try (with_reducible refine Run.ret ?_)
  apply zz
  refine Run.call ((hck _ (hs.keep ⟨by (try simp only [pushed_next', upded_next']); omega, fun i hi => by simp -implicitDefEqProofs (disch := omega) []⟩) hl).mono fun v wy hv => ?_)
  obtain ⟨y, BC, e, rfl, b2, b3, b4, hP⟩ := hv
  have ya := y.1
  have yb := y.2
  have b1 := takeL_len b2
  try simp only [pushed_next', upded_next'] at ya yb
  have hov := ov_zero b2
  simp only [List.reduceReplicate] at hov
  have y0 : wy.heap.get s.next = some (.cells [.int .i64 n, .int .i64 lo, .int .i64 hi, .slice a ss.length c] none) := by rw [yb _ (by omega)]; simp -implicitDefEqProofs (disch := omega)
  have va : veq 4 (Value.slice a ss.length c) (Value.slice a ss.length c) = true := slAt_veq hs 3
  apply Run.by_eq
  · intro self
    conv => lhs; simp -implicitDefEqProofs (maxSteps := 300000) (disch := omega) [-getElem?_pos, -getElem?_neg, b1, b2, b3, hov]
  try (with_reducible refine Run.ret ?_)
  apply zz
  rcases hP with ⟨h1, rfl⟩ | ⟨h1, rfl, hc⟩ | ⟨h1, rfl, rfl, hc⟩
  · apply zz
    refine Cd.ra (h := ?_)
    apply Run.by_eq
    · intro self
      conv => lhs; simp -implicitDefEqProofs (maxSteps := 300000) (disch := omega) [-getElem?_pos, -getElem?_neg, h1]
    try (with_reducible refine Run.ret ?_)
    apply zz
    apply Cd.ite rfl
    · conv => lhs; simp -implicitDefEqProofs (maxSteps := 300000) (disch := omega) [-getElem?_pos, -getElem?_neg]
    all_goals intro c0
    all_goals try (cases c0; done)
    all_goals try simp only [Bool.not_eq_true', Bool.not_eq_false', decide_eq_true_eq, decide_eq_false_iff_not] at c0
    all_goals apply zz
    apply zz
    refine Cd.ra (h := ?_)
    apply Run.by_eq
    · intro self
      conv => lhs; simp -implicitDefEqProofs (maxSteps := 300000) (disch := omega) [-getElem?_pos, -getElem?_neg]
    try (with_reducible refine Run.ret ?_)
    apply zz
    apply Leave.mk (by first | exact .inl rfl | exact .inr rfl) (by simp only [Fr.marks_put, fr0_marks])
    · conv => lhs; simp -implicitDefEqProofs (disch := omega) [Try.results29]
    exact ⟨⟨by (try simp only [pushed_next', upded_next']); omega, fun i hi => by simp -implicitDefEqProofs (disch := omega) [yb]⟩, _, _, rfl, .inl ⟨h1, rfl, rfl⟩⟩
  · apply zz
    refine Cd.ra (h := ?_)
    apply Run.by_eq
    · intro self
      conv => lhs; simp -implicitDefEqProofs (maxSteps := 300000) (disch := omega) [-getElem?_pos, -getElem?_neg]
    try (with_reducible refine Run.ret ?_)
    apply zz
    apply Cd.ite rfl
    · conv => lhs; simp -implicitDefEqProofs (maxSteps := 300000) (disch := omega) [-getElem?_pos, -getElem?_neg]
    all_goals intro c0
    all_goals try (cases c0; done)
    all_goals try simp only [Bool.not_eq_true', Bool.not_eq_false', decide_eq_true_eq, decide_eq_false_iff_not] at c0
    all_goals apply zz
    apply zz
    refine Cd.ra (h := ?_)
    apply Run.by_eq
    · intro self
      conv => lhs; simp -implicitDefEqProofs (maxSteps := 300000) (disch := omega) [-getElem?_pos, -getElem?_neg]
    try (with_reducible refine Run.ret ?_)
    apply zz
    apply Leave.mk (by first | exact .inl rfl | exact .inr rfl) (by simp only [Fr.marks_put, fr0_marks])
    · conv => lhs; simp -implicitDefEqProofs (disch := omega) [Try.results29]
    exact ⟨⟨by (try simp only [pushed_next', upded_next']); omega, fun i hi => by simp -implicitDefEqProofs (disch := omega) [yb]⟩, _, _, rfl, .inr (.inl ⟨h1, rfl, rfl, hc⟩)⟩
  have hok := (fieldErr_ok h1).1
  obtain ⟨m, rfl⟩ : ∃ m : Nat, n = m := ⟨n.toNat, by omega⟩
  simp only [Int.toNat_natCast] at hc b1 b2 b3 b4 hov ⊢
  obtain ⟨hm, hb⟩ := base_ok h1
  have hL : ∀ i, i < m → Mid 60000 1 (LF m lo hi ss i) := fun i hi => (hb i hi).1.mid
  have hH : ∀ i, i < m → Mid 60000 1 (HF m lo hi ss i) := fun i hi => (hb i hi).2.1.mid
  have hrg := fun s => regrets_ev m (LF m lo hi ss) (HF m lo hi ss) s (by omega) hL hH
  have hOf := fun w p v s hw => regretOf_ev m w p (LF m lo hi ss) (HF m lo hi ss) v s (by omega) hw hL hH
  have hmr := fun w (hw : w < m) => reg_mid (n := m) (L := LF m lo hi ss) (H := HF m lo hi ss) (by omega) hw hL hH
  have hRF : ∀ w, regF m (LF m lo hi ss) (HF m lo hi ss) w = RF m lo hi ss w := fun w => rfl
  change ∀ s, Ev TT 64 [.agg (bcells m (bndN m lo hi ss).1 (bndN m lo hi ss).2).toArray] s _ at hrg
  generalize bcells m (bndN m lo hi ss).1 (bndN m lo hi ss).2 = BC at *
  apply zz
  refine Cd.ra (h := ?_)
  apply Run.by_eq
  · intro self
    conv => lhs; simp -implicitDefEqProofs (maxSteps := 300000) (disch := omega) [-getElem?_pos, -getElem?_neg]
  try (with_reducible refine Run.ret ?_)
  apply zz
  apply Cd.ite rfl
  · conv => lhs; simp -implicitDefEqProofs (maxSteps := 300000) (disch := omega) [-getElem?_pos, -getElem?_neg]
  all_goals intro c0
  all_goals try (cases c0; done)
  all_goals try simp only [Bool.not_eq_true', Bool.not_eq_false', decide_eq_true_eq, decide_eq_false_iff_not] at c0
  all_goals apply zz
  apply zz
  refine Cd.ra (h := ?_)
  apply Run.by_eq
  · intro self
    conv => lhs; simp -implicitDefEqProofs (maxSteps := 300000) (disch := omega) [-getElem?_pos, -getElem?_neg, y0, va]
  try (with_reducible refine Run.ret ?_)
  apply zz
  refine Run.call ((hwk _).mono fun v wx hv => ?_)
  obtain ⟨rfl, x⟩ := hv
  have xa := x.1
  have xb := x.2
  try simp only [pushed_next', upded_next'] at xa xb
  have x0 : wx.heap.get wy.next = some (.cells BC none) := by rw [xb _ (by omega)]; simp -implicitDefEqProofs (disch := omega)
  cases hwb : weekB m week with
  | false =>
    apply Run.by_eq
    · intro self
      conv => lhs; simp -implicitDefEqProofs (maxSteps := 300000) (disch := omega) [-getElem?_pos, -getElem?_neg]
    try (with_reducible refine Run.ret ?_)
    apply zz
    apply Cd.ite rfl
    · conv => lhs; simp -implicitDefEqProofs (maxSteps := 300000) (disch := omega) [-getElem?_pos, -getElem?_neg]
    all_goals intro c1
    all_goals try (cases c1; done)
    all_goals try simp only [Bool.not_eq_true', Bool.not_eq_false', decide_eq_true_eq, decide_eq_false_iff_not] at c1
    all_goals apply zz
    apply zz
    refine Cd.ra (h := ?_)
    apply Run.by_eq
    · intro self
      conv => lhs; simp -implicitDefEqProofs (maxSteps := 300000) (disch := omega) [-getElem?_pos, -getElem?_neg]
    try (with_reducible refine Run.ret ?_)
    apply zz
    apply Leave.mk (by first | exact .inl rfl | exact .inr rfl) (by simp only [Fr.marks_put, fr0_marks])
    · conv => lhs; simp -implicitDefEqProofs (disch := omega) [Try.results29]
    exact ⟨⟨by (try simp only [pushed_next', upded_next']); omega, fun i hi => by simp -implicitDefEqProofs (disch := omega) [xb, yb]⟩, _, _, rfl, .inr (.inr ⟨h1, .inl ⟨hwb, rfl, rfl⟩, hc⟩)⟩
  | true =>
    have hw2 := weekB_ok hwb
    obtain ⟨w, rfl⟩ : ∃ w : Nat, week = w := ⟨week.toNat, by omega⟩
    have hwm : w < m := by omega
    have hmw := hmr w hwm
    have hOw := fun p v s => hOf w p v s hwm
    rw [hRF] at hmw
    simp only [hRF] at hOw
    unfold Mid at hmw
    apply Run.by_eq
    · intro self
      conv => lhs; simp -implicitDefEqProofs (maxSteps := 300000) (disch := omega) [-getElem?_pos, -getElem?_neg]
    try (with_reducible refine Run.ret ?_)
    apply zz
    apply Cd.ite rfl
    · conv => lhs; simp -implicitDefEqProofs (maxSteps := 300000) (disch := omega) [-getElem?_pos, -getElem?_neg]
    all_goals intro c1
    all_goals try (cases c1; done)
    all_goals try simp only [Bool.not_eq_true', Bool.not_eq_false', decide_eq_true_eq, decide_eq_false_iff_not] at c1
    all_goals apply zz
    apply zz
    refine Cd.ra (h := ?_)
    apply Run.by_eq
    · intro self
      conv => lhs; simp -implicitDefEqProofs (maxSteps := 300000) (disch := omega) [-getElem?_pos, -getElem?_neg, x0, b1, b2, b3]
    try (with_reducible refine Run.ret ?_)
    apply zz
    refine Run.call ((hrg _).mono fun v wz hv => ?_)
    obtain ⟨z, p, vv, rfl, hp1, hp2, hp3, hp4⟩ := hv
    have za := z.1
    have zb := z.2
    apply Run.by_eq
    · intro self
      conv => lhs; simp -implicitDefEqProofs (maxSteps := 300000) (disch := omega) [-getElem?_pos, -getElem?_neg]
    try (with_reducible refine Run.ret ?_)
    apply zz
    refine Cd.ra (h := ?_)
    apply Run.by_eq
    · intro self
      conv => lhs; simp -implicitDefEqProofs (maxSteps := 300000) (disch := omega) [-getElem?_pos, -getElem?_neg]
    try (with_reducible refine Run.ret ?_)
    apply zz
    refine Run.call ((hOw p vv _ hp2 hp3 hp4).mono fun v wu hv => ?_)
    obtain ⟨rfl, u⟩ := hv
    have ua := u.1
    have ub := u.2
    apply Run.by_eq
    · intro self
      conv => lhs; simp -implicitDefEqProofs (maxSteps := 300000) (disch := omega) [-getElem?_pos, -getElem?_neg]
    try (with_reducible refine Run.ret ?_)
    apply zz
    refine Run.call ((up_ev (RF m lo hi ss w) _ hmw.2 hmw.1.2.1 (by omega) (by omega)).mono fun v wt hv => ?_)
    obtain ⟨rfl, t⟩ := hv
    have ta := t.1
    have tb := t.2
    try simp only [pushed_next', upded_next'] at ta tb
    apply Run.by_eq
    · intro self
      conv => lhs; simp -implicitDefEqProofs (maxSteps := 300000) (disch := omega) [-getElem?_pos, -getElem?_neg]
    try (with_reducible refine Run.ret ?_)
    apply zz
    apply Leave.mk (by first | exact .inl rfl | exact .inr rfl) (by simp only [Fr.marks_put, fr0_marks])
    · conv => lhs; simp -implicitDefEqProofs (disch := omega) [Try.results29]
    exact ⟨⟨by (try simp only [pushed_next', upded_next']); omega, fun i hi => by simp -implicitDefEqProofs (disch := omega) [tb, ub, zb, xb, yb]⟩, _, _, rfl, .inr (.inr ⟨h1, .inr ⟨hwb, rfl, by rw [Int.toNat_natCast]⟩, hc⟩)⟩
def bestI (R : Nat → Frac) : Nat → Nat
  | 0 => 0
  | k + 1 => if aboveB (R (bestI R k)) (R (k + 1)) = true then k + 1 else bestI R k
theorem bestI_le (R : Nat → Frac) : ∀ k, bestI R k ≤ k
  | 0 => Nat.le_refl _
  | k + 1 => by
    unfold bestI
    split
    · exact Nat.le_refl _
    · have := bestI_le R k; omega
set_option maxRecDepth 100000 in
set_option maxHeartbeats 4000000 in
theorem cut_ev (n lo hi : Int) (v : Value) (ss : List SampD) (s : St) (hs : SmAt s v ss) (hl : ss.length ≤ 1000000) : Ev TT 31 [fieldV n lo hi v] s fun r s' => Keep s s' ∧ ∃ w x e, r = .tuple #[.int .i64 w, .int .i64 x, .int .i64 e] ∧ Ans n lo hi ss e (w = 0 ∧ x = 0) (w = (bestI (RF n lo hi ss) (n.toNat - 1) : Nat) ∧ x = ceF (RF n lo hi ss (bestI (RF n lo hi ss) (n.toNat - 1)))) := by
  have hck := possible_ev n lo hi v ss
  obtain ⟨a, c, rfl⟩ := hs.shape
  rw [List.length_map] at hs hck ⊢
  unfold fieldV at hck ⊢
  refine Ev.intro (fn := Try.f31) rfl (by kernel_rfl) rfl rfl ?_
  apply zz
  refine Cd.ra (h := ?_)
  apply Run.by_eq
  · intro self
    conv => lhs; simp -implicitDefEqProofs (maxSteps := 300000) (disch := omega) [-getElem?_pos, -getElem?_neg]
  try (with_reducible refine Run.ret ?_)
  apply zz
  refine Cd.ra (h := ?_)
  apply Run.by_eq
  · intro self
    conv => lhs; simp -implicitDefEqProofs (maxSteps := 300000) (disch := omega) [-getElem?_pos, -getElem?_neg]
  try (with_reducible refine Run.ret ?_)
  apply zz
  refine Run.call ((hck _ (hs.keep ⟨by (try simp only [pushed_next', upded_next']); omega, fun i hi => by simp -implicitDefEqProofs (disch := omega) []⟩) hl).mono fun v wy hv => ?_)
  obtain ⟨y, BC, e, rfl, b2, b3, b4, hP⟩ := hv
  have ya := y.1
  have yb := y.2
  have b1 := takeL_len b2
  try simp only [pushed_next', upded_next'] at ya yb
  have hov := ov_zero b2
  simp only [List.reduceReplicate] at hov
  apply Run.by_eq
  · intro self
    conv => lhs; simp -implicitDefEqProofs (maxSteps := 300000) (disch := omega) [-getElem?_pos, -getElem?_neg, b1, b2, b3, hov]
  try (with_reducible refine Run.ret ?_)
  apply zz
  rcases hP with ⟨h1, rfl⟩ | ⟨h1, rfl, hc⟩ | ⟨h1, rfl, rfl, hc⟩
  · apply zz
    refine Cd.ra (h := ?_)
    apply Run.by_eq
    · intro self
      conv => lhs; simp -implicitDefEqProofs (maxSteps := 300000) (disch := omega) [-getElem?_pos, -getElem?_neg, h1]
    try (with_reducible refine Run.ret ?_)
    apply zz
    apply Cd.ite rfl
    · conv => lhs; simp -implicitDefEqProofs (maxSteps := 300000) (disch := omega) [-getElem?_pos, -getElem?_neg]
    all_goals intro c0
    all_goals try (cases c0; done)
    all_goals try simp only [Bool.not_eq_true', Bool.not_eq_false', decide_eq_true_eq, decide_eq_false_iff_not] at c0
    all_goals apply zz
    apply zz
    refine Cd.ra (h := ?_)
    apply Run.by_eq
    · intro self
      conv => lhs; simp -implicitDefEqProofs (maxSteps := 300000) (disch := omega) [-getElem?_pos, -getElem?_neg]
    try (with_reducible refine Run.ret ?_)
    apply zz
    apply Leave.mk (by first | exact .inl rfl | exact .inr rfl) (by simp only [Fr.marks_put, fr0_marks])
    · conv => lhs; simp -implicitDefEqProofs (disch := omega) [Try.results31]
    exact ⟨⟨by (try simp only [pushed_next', upded_next']); omega, fun i hi => by simp -implicitDefEqProofs (disch := omega) [yb]⟩, _, _, _, rfl, .inl ⟨h1, rfl, rfl, rfl⟩⟩
  · apply zz
    refine Cd.ra (h := ?_)
    apply Run.by_eq
    · intro self
      conv => lhs; simp -implicitDefEqProofs (maxSteps := 300000) (disch := omega) [-getElem?_pos, -getElem?_neg]
    try (with_reducible refine Run.ret ?_)
    apply zz
    apply Cd.ite rfl
    · conv => lhs; simp -implicitDefEqProofs (maxSteps := 300000) (disch := omega) [-getElem?_pos, -getElem?_neg]
    all_goals intro c0
    all_goals try (cases c0; done)
    all_goals try simp only [Bool.not_eq_true', Bool.not_eq_false', decide_eq_true_eq, decide_eq_false_iff_not] at c0
    all_goals apply zz
    apply zz
    refine Cd.ra (h := ?_)
    apply Run.by_eq
    · intro self
      conv => lhs; simp -implicitDefEqProofs (maxSteps := 300000) (disch := omega) [-getElem?_pos, -getElem?_neg]
    try (with_reducible refine Run.ret ?_)
    apply zz
    apply Leave.mk (by first | exact .inl rfl | exact .inr rfl) (by simp only [Fr.marks_put, fr0_marks])
    · conv => lhs; simp -implicitDefEqProofs (disch := omega) [Try.results31]
    exact ⟨⟨by (try simp only [pushed_next', upded_next']); omega, fun i hi => by simp -implicitDefEqProofs (disch := omega) [yb]⟩, _, _, _, rfl, .inr (.inl ⟨h1, rfl, ⟨rfl, rfl⟩, hc⟩)⟩
  have hok := (fieldErr_ok h1).1
  obtain ⟨m, rfl⟩ : ∃ m : Nat, n = m := ⟨n.toNat, by omega⟩
  simp only [Int.toNat_natCast] at hc b1 b2 b3 b4 hov ⊢
  obtain ⟨hm, hb⟩ := base_ok h1
  have hL : ∀ i, i < m → Mid 60000 1 (LF m lo hi ss i) := fun i hi => (hb i hi).1.mid
  have hH : ∀ i, i < m → Mid 60000 1 (HF m lo hi ss i) := fun i hi => (hb i hi).2.1.mid
  have hrg := fun s => regrets_ev m (LF m lo hi ss) (HF m lo hi ss) s (by omega) hL hH
  have hOf := fun w p v s hw => regretOf_ev m w p (LF m lo hi ss) (HF m lo hi ss) v s (by omega) hw hL hH
  have hmr := fun w (hw : w < m) => reg_mid (n := m) (L := LF m lo hi ss) (H := HF m lo hi ss) (by omega) hw hL hH
  have hwk := (bOk m (bndN m lo hi ss).1 (bndN m lo hi ss).2).wk
  have hRF : regF m (LF m lo hi ss) (HF m lo hi ss) = RF m lo hi ss := rfl
  change ∀ s, Ev TT 64 [.agg (bcells m (bndN m lo hi ss).1 (bndN m lo hi ss).2).toArray] s _ at hrg
  rw [hRF] at hmr
  simp only [hRF] at hOf
  generalize hR : RF m lo hi ss = R at *
  generalize bcells m (bndN m lo hi ss).1 (bndN m lo hi ss).2 = BC at *
  apply zz
  refine Cd.ra (h := ?_)
  apply Run.by_eq
  · intro self
    conv => lhs; simp -implicitDefEqProofs (maxSteps := 300000) (disch := omega) [-getElem?_pos, -getElem?_neg]
  try (with_reducible refine Run.ret ?_)
  apply zz
  apply Cd.ite rfl
  · conv => lhs; simp -implicitDefEqProofs (maxSteps := 300000) (disch := omega) [-getElem?_pos, -getElem?_neg]
  all_goals intro c0
  all_goals try (cases c0; done)
  all_goals try simp only [Bool.not_eq_true', Bool.not_eq_false', decide_eq_true_eq, decide_eq_false_iff_not] at c0
  all_goals apply zz
  apply zz
  refine Cd.ra (h := ?_)
  apply Run.by_eq
  · intro self
    conv => lhs; simp -implicitDefEqProofs (maxSteps := 300000) (disch := omega) [-getElem?_pos, -getElem?_neg, b1, b2, b3]
  try (with_reducible refine Run.ret ?_)
  apply zz
  refine Run.call ((hrg _).mono fun v wz hv => ?_)
  obtain ⟨z, p, vv, rfl, hp1, hp2, hp3, hp4⟩ := hv
  have za := z.1
  have zb := z.2
  try simp only [pushed_next', upded_next'] at za zb hp1
  have z0 : wz.heap.get wy.next = some (.cells BC none) := by rw [zb _ (by omega)]; simp -implicitDefEqProofs (disch := omega)
  apply Run.by_eq
  · intro self
    conv => lhs; simp -implicitDefEqProofs (maxSteps := 300000) (disch := omega) [-getElem?_pos, -getElem?_neg]
  try (with_reducible refine Run.ret ?_)
  apply zz
  refine Cd.ra (h := ?_)
  apply Run.by_eq
  · intro self
    conv => lhs; simp -implicitDefEqProofs (maxSteps := 300000) (disch := omega) [-getElem?_pos, -getElem?_neg]
  try (with_reducible refine Run.ret ?_)
  apply zz
  refine Run.call ((hOf 0 p vv _ (by omega) hp2 hp3 hp4).mono fun v wu hv => ?_)
  obtain ⟨rfl, u⟩ := hv
  have ua := u.1
  have ub := u.2
  have u0 := (ub _ (by omega)).trans z0
  apply Run.by_eq
  · intro self
    conv => lhs; simp -implicitDefEqProofs (maxSteps := 300000) (disch := omega) [-getElem?_pos, -getElem?_neg, v_eq]
  try (with_reducible refine Run.ret ?_)
  apply zz
  refine Cd.ra (h := ?_)
  apply Run.by_eq
  · intro self
    conv => lhs; simp -implicitDefEqProofs (maxSteps := 300000) (disch := omega) [-getElem?_pos, -getElem?_neg]
  try (with_reducible refine Run.ret ?_)
  apply zz
  refine Cd.inv (fun z f s' => ∃ k : Nat, k + 1 ≤ m ∧ z = m - (k + 1) ∧ f.marks = [] ∧ f.get 2 = .int .i64 (bestI R k : Nat) ∧ f.get 5 = .pointer (some ⟨wy.next, 0, none⟩) ∧ f.get 6 = .func (.func 81) #[] #[.pointer (some ⟨p, 0, none⟩)] ∧ f.get 7 = .pointer (some ⟨wu.next, 0, none⟩) ∧ f.get 8 = .int .i64 (k + 1 : Nat) ∧ Keep wu s' ∧ wu.next < s'.next ∧ s'.heap.get wu.next = some (.cells [.int .i64 (R (bestI R k)).o, .int .i64 (R (bestI R k)).u] none)) (m - 1) ?_ ?_
  · exact ⟨0, by omega, rfl, by simp, by simp [bestI], by simp, by simp, by simp, by simp, ⟨by (try simp only [pushed_next', upded_next']); omega, fun i hi => by simp -implicitDefEqProofs (disch := omega) []⟩, by simp, by simp -implicitDefEqProofs (disch := omega) [bestI]⟩
  rintro zz0 f s1 ⟨k, hk, rfl, hmk, g2, g5, g6, g7, g8, hkp, hnx, hg⟩
  have hkpa := hkp.1
  have hkpb := hkp.2
  have hg0 := (hkpb _ (by omega)).trans u0
  have hbl := bestI_le R k
  have hmb := hmr (bestI R k) (by omega)
  by_cases hlt : k + 1 < m
  · have hst : bestI R (k + 1) = if aboveB (R (bestI R k)) (R (k + 1)) = true then k + 1 else bestI R k := rfl
    have hmk1 := hmr (k + 1) hlt
    have hOk := fun s' => hOf (k + 1) p vv s' hlt
    have hfit := hmk1.1.fits hmb.1 (by decide)
    generalize hK : k + 1 = k1 at *
    have hlt' : (k1 : Int) < m := by omega
    apply zz
    refine Cd.ra (h := ?_)
    apply Run.by_eq
    · intro self
      conv => lhs; simp -implicitDefEqProofs (maxSteps := 300000) (disch := omega) [-getElem?_pos, -getElem?_neg, g8, g5, hg0, hwk, hlt']
    try (with_reducible refine Run.ret ?_)
    apply zz
    apply Cd.ite rfl
    · conv => lhs; simp -implicitDefEqProofs (maxSteps := 300000) (disch := omega) [-getElem?_pos, -getElem?_neg]
    all_goals intro c1
    all_goals try (cases c1; done)
    all_goals try simp only [Bool.not_eq_true', Bool.not_eq_false', decide_eq_true_eq, decide_eq_false_iff_not] at c1
    all_goals apply zz
    apply zz
    refine Cd.ra (h := ?_)
    apply Run.by_eq
    · intro self
      conv => lhs; simp -implicitDefEqProofs (maxSteps := 300000) (disch := omega) [-getElem?_pos, -getElem?_neg, g6, g8]
    try (with_reducible refine Run.ret ?_)
    apply zz
    refine Run.call ((hOk _ (by omega) ((hkpb _ (by omega)).trans ((ub _ hp2).trans hp3)) (hp4.keep (u.trans hkp))).mono fun v wx hv => ?_)
    obtain ⟨rfl, x⟩ := hv
    have xa := x.1
    have xb := x.2
    have x1 := (xb _ hnx).trans hg
    apply Run.by_eq
    · intro self
      conv => lhs; simp -implicitDefEqProofs (maxSteps := 300000) (disch := omega) [-getElem?_pos, -getElem?_neg, v_eq]
    try (with_reducible refine Run.ret ?_)
    apply zz
    refine Cd.ra (h := ?_)
    apply Run.by_eq
    · intro self
      conv => lhs; simp -implicitDefEqProofs (maxSteps := 300000) (disch := omega) [-getElem?_pos, -getElem?_neg, g7, x1]
    try (with_reducible refine Run.ret ?_)
    apply zz
    rw [← v_eq, ← v_eq]
    refine Run.call ((below_ev (R k1) (R (bestI R k)) _ hfit).mono fun v wt hv => ?_)
    obtain ⟨rfl, t⟩ := hv
    have ta := t.1
    have tb := t.2
    try simp only [pushed_next', upded_next'] at ta tb
    have t1 : wt.heap.get wu.next = some (.cells [.int .i64 (R (bestI R k)).o, .int .i64 (R (bestI R k)).u] none) := by rw [tb _ (by (try simp only [pushed_next', upded_next']); omega)]; simp -implicitDefEqProofs (disch := omega) [x1]
    have t2 : wt.heap.get wx.next = some (.cells [.int .i64 (R k1).o, .int .i64 (R k1).u] none) := by rw [tb _ (by (try simp only [pushed_next', upded_next']); omega)]; simp -implicitDefEqProofs (disch := omega)
    have kt : Keep wu wt := ⟨by (try simp only [pushed_next', upded_next'] at *); omega, fun i hi => by rw [tb i (by (try simp only [pushed_next', upded_next']); omega)]; simp -implicitDefEqProofs (disch := omega) [xb, hkpb]⟩
    have ktn : wx.next + 1 ≤ wt.next := by (try simp only [pushed_next', upded_next'] at *); omega
    cases hab : aboveB (R (bestI R k)) (R k1) with
    | true =>
      rw [hab, if_pos rfl] at hst
      apply Run.by_eq
      · intro self
        conv => lhs; simp -implicitDefEqProofs (maxSteps := 300000) (disch := omega) [-getElem?_pos, -getElem?_neg]
      try (with_reducible refine Run.ret ?_)
      apply zz
      apply Cd.ite rfl
      · conv => lhs; simp -implicitDefEqProofs (maxSteps := 300000) (disch := omega) [-getElem?_pos, -getElem?_neg]
      all_goals intro c2
      all_goals try (cases c2; done)
      all_goals try simp only [Bool.not_eq_true', Bool.not_eq_false', decide_eq_true_eq, decide_eq_false_iff_not] at c2
      all_goals apply zz
      apply zz
      refine Cd.drawn (pl := [(0, 0, false, false), (1, 0, false, false), (2, 1, false, false), (3, 7, true, false)]) (by kernel_rfl) (by conv => lhs; simp only [List.map_cons, List.map_nil]) (by conv => lhs; simp [strip, ordered]) ?_
      apply Run.by_eq
      · intro self
        conv => lhs; simp -implicitDefEqProofs (maxSteps := 300000) (disch := omega) [filter_bt, (show ∀ i, Nat.testBit 7 i = decide (i < 3) from fun i => Nat.testBit_two_pow_sub_one 3 i), -getElem?_pos, -getElem?_neg, g8, g7, t1, t2]
      try (with_reducible refine Run.ret ?_)
      apply zz
      refine Cd.ra (h := ?_)
      apply Run.by_eq
      · intro self
        conv => lhs; simp -implicitDefEqProofs (maxSteps := 300000) (disch := omega) [-getElem?_pos, -getElem?_neg, g8]
      try (with_reducible refine Run.ret ?_)
      apply zz
      refine LoopK.nm (m - (k1 + 1)) (by omega) ⟨k1, by omega, rfl, by simp [hmk], ?_, by simp [g5], by simp [g6], by simp [g7], by simp, ⟨by (try simp only [upded_next']); omega, fun i hi => by rw [get_upded_other _ _ _ _ (by omega)]; exact kt.2 i hi⟩, by (try simp only [upded_next']); omega, ?_⟩
      · rw [hst]; simp
      · rw [hst]; simp -implicitDefEqProofs (disch := omega)
    | false =>
      rw [hab, if_neg (by decide)] at hst
      apply Run.by_eq
      · intro self
        conv => lhs; simp -implicitDefEqProofs (maxSteps := 300000) (disch := omega) [-getElem?_pos, -getElem?_neg]
      try (with_reducible refine Run.ret ?_)
      apply zz
      apply Cd.ite rfl
      · conv => lhs; simp -implicitDefEqProofs (maxSteps := 300000) (disch := omega) [-getElem?_pos, -getElem?_neg]
      all_goals intro c2
      all_goals try (cases c2; done)
      all_goals try simp only [Bool.not_eq_true', Bool.not_eq_false', decide_eq_true_eq, decide_eq_false_iff_not] at c2
      all_goals apply zz
      apply zz
      refine Cd.ra (h := ?_)
      apply Run.by_eq
      · intro self
        conv => lhs; simp -implicitDefEqProofs (maxSteps := 300000) (disch := omega) [-getElem?_pos, -getElem?_neg, g8]
      try (with_reducible refine Run.ret ?_)
      apply zz
      refine LoopK.nm (m - (k1 + 1)) (by omega) ⟨k1, by omega, rfl, by simp [hmk], ?_, by simp [g5], by simp [g6], by simp [g7], by simp, kt, by omega, ?_⟩
      · rw [hst]; simp [g2]
      · rw [hst]; exact t1
  · obtain rfl : m = k + 1 := by omega
    simp only [Nat.add_sub_cancel]
    generalize bestI R k = B at *
    unfold Mid at hmb
    apply zz
    refine Cd.ra (h := ?_)
    apply Run.by_eq
    · intro self
      conv => lhs; simp -implicitDefEqProofs (maxSteps := 300000) (disch := omega) [-getElem?_pos, -getElem?_neg, g8, g5, hg0, hwk]
    try (with_reducible refine Run.ret ?_)
    apply zz
    apply Cd.ite rfl
    · conv => lhs; simp -implicitDefEqProofs (maxSteps := 300000) (disch := omega) [-getElem?_pos, -getElem?_neg]
    all_goals intro c1
    all_goals try (cases c1; done)
    all_goals try simp only [Bool.not_eq_true', Bool.not_eq_false', decide_eq_true_eq, decide_eq_false_iff_not] at c1
    all_goals apply zz
    apply zz
    refine Cd.ra (h := ?_)
    apply Run.by_eq
    · intro self
      conv => lhs; simp -implicitDefEqProofs (maxSteps := 300000) (disch := omega) [-getElem?_pos, -getElem?_neg, g2, g7, hg]
    try (with_reducible refine Run.ret ?_)
    apply zz
    rw [← v_eq]
    refine Run.call ((up_ev (R B) _ hmb.2 hmb.1.2.1 (by omega) (by omega)).mono fun v wt hv => ?_)
    obtain ⟨rfl, t⟩ := hv
    have ta := t.1
    have tb := t.2
    try simp only [pushed_next', upded_next'] at ta tb
    apply Run.by_eq
    · intro self
      conv => lhs; simp -implicitDefEqProofs (maxSteps := 300000) (disch := omega) [-getElem?_pos, -getElem?_neg]
    try (with_reducible refine Run.ret ?_)
    apply zz
    apply Leave.mk (by first | exact .inl rfl | exact .inr rfl) (by simp only [Fr.marks_put, fr0_marks, hmk])
    · conv => lhs; simp -implicitDefEqProofs (disch := omega) [Try.results31, hmk]
    exact ⟨⟨by omega, fun i hi => by rw [tb i (by omega), hkpb i (by omega), ub i (by omega), zb i (by omega)]; simp -implicitDefEqProofs (disch := omega) [yb]⟩, _, _, _, rfl, .inr (.inr ⟨h1, rfl, ⟨rfl, rfl⟩, hc⟩)⟩
end Go.Proofs.Ytnhokodcmeekhaa
namespace Go.Proofs.Ytnhokodcmeekhaa
open Go Kern
/-! The reference's regret -/
def gcB (p w i : Nat) : Bool := (decide (i ≤ p) && decide (p < w)) || (decide (p ≤ i) && decide (w < p))
def givenL (L : Nat → Frac) (p w : Nat) (t : Frac) (k : Nat) : List Frac := ((List.range k).filter (gcB p w)).map fun (i : Nat) => lineF (i : Int) (L i) w t p
def givenF (n : Nat) (L : Nat → Frac) (p w : Nat) (t : Frac) : Frac := if p = w then t else foreF aboveB (lowF n L p) (givenL L p w t n)
end Go.Proofs.Ytnhokodcmeekhaa
namespace Go.Proofs.Ytnhokodcmeekhaa
open Go Kern
/-! The reference's Regret and Cut -/
def rlossF (n : Nat) (L H : Nat → Frac) (p w : Nat) : Frac := minusF (rupF n L H w) (givenF n L p w (rupF n L H w))
def rregF (n : Nat) (L H : Nat → Frac) (p : Nat) : Frac := foreF aboveB ⟨0, 1⟩ ((List.range n).map (rlossF n L H p))
end Go.Proofs.Ytnhokodcmeekhaa
namespace Go.Proofs.Ytnhokodcmeekhaa
open Go Kern
/-! Both regrets are worth the same -/
def Eqv (x y : Frac) : Prop := LeF x y ∧ LeF y x
theorem Eqv.refl (x : Frac) : Eqv x x := ⟨LeF.refl x, LeF.refl x⟩
theorem Eqv.symm {x y : Frac} (h : Eqv x y) : Eqv y x := ⟨h.2, h.1⟩
theorem Eqv.of {x y : Frac} (h : x.o * y.u = y.o * x.u) : Eqv x y := ⟨Int.le_of_eq h, Int.le_of_eq h.symm⟩
end Go.Proofs.Ytnhokodcmeekhaa
namespace Go.Proofs.Ytnhokodcmeekhaa
open Go Kern
/-- What holds of lows and highs without a clash. -/
structure NoCl (m : Nat) (L H : Nat → Frac) : Prop where
  u : ∀ w, w < m → (L w).u = 1 ∧ (H w).u = 1
  all : ∀ i j k, i < m → j < m → k < m → clashB L H i j k = false
theorem NoCl.none {m : Nat} {L H : Nat → Frac} (h : NoCl m L H) : ∀ w, w < m → NoneIn m (clashB L H) w := fun w hw => ⟨h.all w w w hw hw hw, fun i k hi hk hkm => h.all i w k (by omega) hw hkm⟩
end Go.Proofs.Ytnhokodcmeekhaa
namespace Go.Proofs.Ytnhokodcmeekhaa
open Go Kern
/-! The reference's Regret and Cut, as the program's -/
abbrev RR (m : Nat) (lo hi : Int) (ss : List SampD) : Nat → Frac := rregF m (wF (LR lo hi ss)) (wF (HR lo hi ss))
end Go.Proofs.Ytnhokodcmeekhaa
namespace Go.Proofs.Ytnhokodcmeekhaa
open Go Kern
/-! The examples of the chapter -/
def ssF : List SampD := [⟨0, 1000, 20⟩, ⟨2, 1400, 20⟩, ⟨4, 1200, 30⟩]
def ssZ : List SampD := [⟨0, 1000, 20⟩, ⟨2, 900, 10⟩, ⟨4, 1200, 30⟩]
theorem errF : fieldErr 5 0 2000 ssF = 0 := by kernel_rfl
theorem errZ : fieldErr 5 0 2000 ssZ = 0 := by kernel_rfl
theorem noclF : ∀ i j k, i < 5 → j < 5 → k < 5 → hB 0 2000 ssF i j k = false := by
  have h : ((List.range 5).all fun i => (List.range 5).all fun j => (List.range 5).all fun k => !hB 0 2000 ssF i j k) = true := by kernel_rfl
  intro i j k hi hj hk
  have h1 := List.all_eq_true.1 h i (by simpa using hi)
  have h2 := List.all_eq_true.1 h1 j (by simpa using hj)
  have h3 := List.all_eq_true.1 h2 k (by simpa using hk)
  simpa using h3
theorem clZ : hB 0 2000 ssZ 0 2 4 = true := by kernel_rfl
theorem rowsF : (List.range 5).map (knownRow 5 0 2000 ssF) = ([(980, 1020), (1180, 1545), (1380, 1420), (1275, 1640), (1170, 1230)] : List (Int × Int)).map spP := by kernel_rfl
theorem peaksF : wkL 5 (fromB (UF 5 0 2000 ssF) (topF 5 (LF 5 0 2000 ssF))) = [1, 2, 3] := by kernel_rfl
theorem surelyF : wkL 5 (fromB (WF 5 0 2000 ssF) ⟨limI 1300, 1⟩) = [2] := by kernel_rfl
theorem perhapsF : wkL 5 (fromB (UF 5 0 2000 ssF) ⟨limI 1300, 1⟩) = [1, 2, 3] := by kernel_rfl
theorem regF3 : ceF (RF 5 0 2000 ssF 3) = 250 := by kernel_rfl
theorem cutF1 : bestI (RF 5 0 2000 ssF) 4 = 2 := by kernel_rfl
theorem cutF2 : ceF (RF 5 0 2000 ssF 2) = 220 := by kernel_rfl
theorem verZ : verF 5 0 2000 ssZ [0, 2, 4] = 0 := by kernel_rfl
theorem verFF : verF 5 0 2000 ssF [0, 2, 4] = 11 := by kernel_rfl
theorem Ans.F {e : Int} {bad good : Prop} (h : Ans 5 0 2000 ssF e bad good) : e = 0 ∧ good := by
  rcases h with ⟨h, _⟩ | ⟨_, _, _, i, j, k, hi, hj, hk, h⟩ | ⟨_, h, g, _⟩
  · exact absurd errF h
  · rw [noclF i j k hi hj hk] at h; cases h
  · exact ⟨h, g⟩
theorem known_F {w : Value} {e : Int} {s : St} (h : KnownA 5 0 2000 ssF w e s) : e = 0 ∧ SpAt s w [(980, 1020), (1180, 1545), (1380, 1420), (1275, 1640), (1170, 1230)] := by
  rcases h with ⟨h, _⟩ | ⟨_, _, _, i, j, k, hi, hj, hk, h⟩ | ⟨_, h, g, _⟩
  · exact absurd errF h
  · rw [noclF i j k hi hj hk] at h; cases h
  · refine ⟨h, ?_⟩
    have : (List.range (5 : Int).toNat).map (knownRow (5 : Int).toNat 0 2000 ssF) = _ := rowsF
    rw [this] at g; exact g
theorem known_Z {w : Value} {e : Int} {s : St} (h : KnownA 5 0 2000 ssZ w e s) : e = 12 ∧ w = .slice none 0 0 := by
  rcases h with ⟨h, _⟩ | ⟨_, h, g, _⟩ | ⟨_, _, _, h⟩
  · exact absurd errZ h
  · exact ⟨h, g⟩
  · have := h 0 2 4 (by decide) (by decide) (by decide); rw [clZ] at this; cases this
theorem clash_Z {w : Value} {e : Int} {s : St} (h : ClashA (fieldErr 5 0 2000 ssZ) (5 : Int).toNat (hB 0 2000 ssZ) w e s) : e = 0 ∧ Trip 5 (hB 0 2000 ssZ) w s := by
  rcases h with ⟨h, _⟩ | ⟨_, _, _, h⟩ | ⟨_, h, g⟩
  · exact absurd errZ h
  · have := h 0 2 4 (by decide) (by decide) (by decide); rw [clZ] at this; cases this
  · exact ⟨h, g⟩
theorem reg_F {r e : Int} (h : RegA 5 0 2000 ssF 3 r e) : e = 0 ∧ r = 250 := by
  rcases h with ⟨h, _⟩ | ⟨_, _, _, i, j, k, hi, hj, hk, h⟩ | ⟨_, h, _⟩
  · exact absurd errF h
  · rw [noclF i j k hi hj hk] at h; cases h
  · rcases h with ⟨h, _⟩ | ⟨_, h, g⟩
    · cases h
    · exact ⟨h, g.trans regF3⟩
set_option maxRecDepth 100000 in
theorem span_ev (a b : Int) (s : St) : Ev TT 37 [.int .i64 a, .int .i64 b] s fun r s' => r = .agg #[.int .i64 a, .int .i64 b] ∧ Keep s s' := by
  refine Ev.intro (fn := Try.f37) rfl (by kernel_rfl) rfl rfl ?_
  apply zz
  refine Cd.ra (h := ?_)
  apply Run.by_eq
  · intro self
    conv => lhs; simp -implicitDefEqProofs (maxSteps := 300000) (disch := omega) [-getElem?_pos, -getElem?_neg]
  try (with_reducible refine Run.ret ?_)
  apply zz
  refine Cd.ra (h := ?_)
  apply Run.by_eq
  · intro self
    conv => lhs; simp -implicitDefEqProofs (maxSteps := 300000) (disch := omega) [-getElem?_pos, -getElem?_neg]
  try (with_reducible refine Run.ret ?_)
  apply zz
  apply Leave.mk (by first | exact .inl rfl | exact .inr rfl) (by simp only [Fr.marks_put, fr0_marks])
  · conv => lhs; simp -implicitDefEqProofs (disch := omega) [Try.results37]
  exact ⟨rfl, ⟨by (try simp only [pushed_next', upded_next']); omega, fun i hi => by simp -implicitDefEqProofs (disch := omega) []⟩⟩
def csF : List Value := [.int .i64 0, .int .i64 1000, .int .i64 20, .int .i64 2, .int .i64 1400, .int .i64 20, .int .i64 4, .int .i64 1200, .int .i64 30]
def csZ : List Value := [.int .i64 0, .int .i64 1000, .int .i64 20, .int .i64 2, .int .i64 900, .int .i64 10, .int .i64 4, .int .i64 1200, .int .i64 30]
set_option maxRecDepth 100000 in
set_option maxHeartbeats 1000000 in
theorem F_ev (s : St) : Ev TT 38 [] s fun r s' => Keep s s' ∧ ∃ b, r = .agg #[.int .i64 5, .int .i64 0, .int .i64 2000, .slice (some ⟨b, 0, none⟩) 3 3] ∧ s.next ≤ b ∧ b < s'.next ∧ s'.heap.get b = some (.cells csF none) := by
  refine Ev.intro (fn := Try.f38) rfl (by kernel_rfl) rfl rfl ?_
  apply zz
  refine Cd.ra (h := ?_)
  apply Run.by_eq
  · intro self
    conv => lhs; simp -implicitDefEqProofs (maxSteps := 300000) (disch := omega) [-getElem?_pos, -getElem?_neg]
  try (with_reducible refine Run.ret ?_)
  apply zz
  refine Cd.ra (h := ?_)
  apply Run.by_eq
  · intro self
    conv => lhs; simp -implicitDefEqProofs (maxSteps := 300000) (disch := omega) [-getElem?_pos, -getElem?_neg]
  try (with_reducible refine Run.ret ?_)
  apply zz
  refine Run.call ((span_ev 0 2000 _).mono fun v wy hv => ?_)
  obtain ⟨rfl, y⟩ := hv
  have ya := y.1
  have yb := y.2
  try simp only [pushed_next', upded_next'] at ya yb
  have y0 : wy.heap.get s.next = some (.cells [.int .i64 0, .int .i64 0, .int .i64 0, .slice none 0 0] none) := by rw [yb _ (by omega)]; simp -implicitDefEqProofs (disch := omega)
  have hr3 : repeatL [Value.int .i64 0, .int .i64 0, .int .i64 0] 3 = [.int .i64 0, .int .i64 0, .int .i64 0, .int .i64 0, .int .i64 0, .int .i64 0, .int .i64 0, .int .i64 0, .int .i64 0] := rfl
  have hp1 : overL [Value.int .i64 0, .int .i64 1000, .int .i64 20] [.int .i64 0, .int .i64 0, .int .i64 0, .int .i64 0, .int .i64 0, .int .i64 0, .int .i64 0, .int .i64 0, .int .i64 0] = some [.int .i64 0, .int .i64 1000, .int .i64 20, .int .i64 0, .int .i64 0, .int .i64 0, .int .i64 0, .int .i64 0, .int .i64 0] := rfl
  have hp2 : putL 3 [Value.int .i64 2, .int .i64 1400, .int .i64 20] [.int .i64 0, .int .i64 1000, .int .i64 20, .int .i64 0, .int .i64 0, .int .i64 0, .int .i64 0, .int .i64 0, .int .i64 0] = some [.int .i64 0, .int .i64 1000, .int .i64 20, .int .i64 2, .int .i64 1400, .int .i64 20, .int .i64 0, .int .i64 0, .int .i64 0] := rfl
  have hp3 : putL 6 [Value.int .i64 4, .int .i64 1200, .int .i64 30] [.int .i64 0, .int .i64 1000, .int .i64 20, .int .i64 2, .int .i64 1400, .int .i64 20, .int .i64 0, .int .i64 0, .int .i64 0] = some [.int .i64 0, .int .i64 1000, .int .i64 20, .int .i64 2, .int .i64 1400, .int .i64 20, .int .i64 4, .int .i64 1200, .int .i64 30] := rfl
  apply Run.by_eq
  · intro self
    conv => lhs; simp -implicitDefEqProofs (maxSteps := 300000) (disch := omega) [-getElem?_pos, -getElem?_neg, y0, hr3, hp1, hp2, hp3]
  try (with_reducible refine Run.ret ?_)
  apply zz
  apply Leave.mk (by first | exact .inl rfl | exact .inr rfl) (by simp only [Fr.marks_put, fr0_marks])
  · conv => lhs; simp -implicitDefEqProofs (disch := omega) [Try.results38]
  refine ⟨⟨by (try simp only [pushed_next', upded_next']); omega, fun i hi => by simp -implicitDefEqProofs (disch := omega) [yb]⟩, wy.next, rfl, by omega, by simp, ?_⟩
  unfold csF
  simp -implicitDefEqProofs (disch := omega)
theorem smF {s : St} {b : Nat} (h : b < s.next) (hg : s.heap.get b = some (.cells csF none)) : SmAt s (.slice (some ⟨b, 0, none⟩) 3 3) ssF := sl_of_cells (n := 3) (l := ssF.map SampD.cs) h (samp_len _) hg
theorem smZ {s : St} {b : Nat} (h : b < s.next) (hg : s.heap.get b = some (.cells csZ none)) : SmAt s (.slice (some ⟨b, 0, none⟩) 3 3) ssZ := sl_of_cells (n := 3) (l := ssZ.map SampD.cs) h (samp_len _) hg
set_option maxRecDepth 100000 in
set_option maxHeartbeats 1000000 in
theorem Z_ev (s : St) : Ev TT 39 [] s fun r s' => Keep s s' ∧ ∃ b, r = .agg #[.int .i64 5, .int .i64 0, .int .i64 2000, .slice (some ⟨b, 0, none⟩) 3 3] ∧ s.next ≤ b ∧ b < s'.next ∧ s'.heap.get b = some (.cells csZ none) := by
  refine Ev.intro (fn := Try.f39) rfl (by kernel_rfl) rfl rfl ?_
  apply zz
  refine Cd.ra (h := ?_)
  apply Run.by_eq
  · intro self
    conv => lhs; simp -implicitDefEqProofs (maxSteps := 300000) (disch := omega) [-getElem?_pos, -getElem?_neg]
  try (with_reducible refine Run.ret ?_)
  apply zz
  refine Cd.ra (h := ?_)
  apply Run.by_eq
  · intro self
    conv => lhs; simp -implicitDefEqProofs (maxSteps := 300000) (disch := omega) [-getElem?_pos, -getElem?_neg]
  try (with_reducible refine Run.ret ?_)
  apply zz
  refine Run.call ((F_ev _).mono fun v wy hv => ?_)
  obtain ⟨y, b, rfl, hb1, hb2, hb3⟩ := hv
  have ya := y.1
  have yb := y.2
  try simp only [pushed_next', upded_next'] at ya yb hb1
  have y0 : wy.heap.get s.next = some (.cells [.int .i64 0, .int .i64 0, .int .i64 0, .slice none 0 0] none) := by rw [yb _ (by omega)]; simp -implicitDefEqProofs (disch := omega)
  have hb3' : wy.heap.get b = some (.cells [.int .i64 0, .int .i64 1000, .int .i64 20, .int .i64 2, .int .i64 1400, .int .i64 20, .int .i64 4, .int .i64 1200, .int .i64 30] none) := hb3
  have hbn : ¬ b = wy.next := by omega
  have hbs : ¬ b = s.next := by omega
  have hp2 : putL 3 [Value.int .i64 2, .int .i64 900, .int .i64 10] [.int .i64 0, .int .i64 1000, .int .i64 20, .int .i64 2, .int .i64 1400, .int .i64 20, .int .i64 4, .int .i64 1200, .int .i64 30] = some [.int .i64 0, .int .i64 1000, .int .i64 20, .int .i64 2, .int .i64 900, .int .i64 10, .int .i64 4, .int .i64 1200, .int .i64 30] := rfl
  apply Run.by_eq
  · intro self
    conv => lhs; simp -implicitDefEqProofs (maxSteps := 300000) (disch := omega) [-getElem?_pos, -getElem?_neg]
  try (with_reducible refine Run.ret ?_)
  apply zz
  refine Cd.ra (h := ?_)
  apply Run.by_eq
  · intro self
    conv => lhs; simp -implicitDefEqProofs (maxSteps := 300000) (disch := omega) [-getElem?_pos, -getElem?_neg, hb3', hbn, hp2]
  try (with_reducible refine Run.ret ?_)
  apply zz
  refine Cd.ra (h := ?_)
  apply Run.by_eq
  · intro self
    conv => lhs; simp -implicitDefEqProofs (maxSteps := 300000) (disch := omega) [-getElem?_pos, -getElem?_neg, y0, hbn, hbs]
  try (with_reducible refine Run.ret ?_)
  apply zz
  apply Leave.mk (by first | exact .inl rfl | exact .inr rfl) (by simp only [Fr.marks_put, fr0_marks])
  · conv => lhs; simp -implicitDefEqProofs (disch := omega) [Try.results39]
  refine ⟨⟨by (try simp only [pushed_next', upded_next']); omega, fun i hi => by simp -implicitDefEqProofs (disch := omega) [yb]⟩, b, rfl, by omega, by (try simp only [pushed_next', upded_next']); omega, ?_⟩
  unfold csZ
  simp -implicitDefEqProofs (disch := omega)
end Go.Proofs.Ytnhokodcmeekhaa
namespace Go.Proofs.Ytnhokodcmeekhaa
open Go Kern
theorem SlAt.one {n : Nat} {s : St} {v : Value} {l : List (List Value)} (h : SlAt n s v l) : oneV v = true := by obtain ⟨a, c, rfl⟩ := h.shape; rfl
def kL : List (Int × Int) := [(980, 1020), (1180, 1545), (1380, 1420), (1275, 1640), (1170, 1230)]
theorem small_kL : SmallP kL := fun x hx => by
  unfold kL at hx
  simp only [List.mem_cons, List.not_mem_nil, or_false] at hx
  rcases hx with rfl | rfl | rfl | rfl | rfl <;> exact ⟨by unfold In62; decide, by unfold In62; decide⟩
theorem rverF_trip {n lo hi : Int} {ss : List SampD} {i j k : Nat} (h : fieldErr n lo hi ss = 0) (hi' : i < n.toNat) (hj : j < n.toNat) (hk : k < n.toNat) (hc : holdsB (fun w => (endN lo hi ss w).1) (fun w => (endN lo hi ss w).2) i j k = true) : rverF n lo hi ss [(i : Int), (j : Int), (k : Int)] = 0 := by
  unfold rverF verIn
  rw [if_pos h, if_pos (show [(i : Int), (j : Int), (k : Int)].length = 3 from rfl), if_pos (by simp [weekB]; omega)]
  simp only [List.getD_cons_zero, List.getD_cons_succ, Int.toNat_natCast]
  rw [if_pos hc]
theorem trip_ver {i j k : Nat} (hi : i < 5) (hj : j < 5) (hk : k < 5) (h : hB 0 2000 ssZ i j k = true) : verF 5 0 2000 ssZ [(i : Int), (j : Int), (k : Int)] = 0 := by
  rw [verF_eq]
  exact rverF_trip errZ hi hj hk h
set_option maxRecDepth 100000 in
set_option maxHeartbeats 4000000 in
theorem works_ev (s : St) : Ev TT 13 [] s fun r s' => r = .bool true ∧ Keep s s' := by
  have hkF := fun v s h => known_ev 5 0 2000 v ssF s h (by decide)
  have hkZ := fun v s h => known_ev 5 0 2000 v ssZ s h (by decide)
  have hcZ := fun v s h => clashTop_ev 5 0 2000 v ssZ s h (by decide)
  have hpF := fun v s h => peaks_ev 5 0 2000 v ssF s h (by decide)
  have hrF := fun v s h => ripe_ev 5 0 2000 1300 v ssF s h (by decide)
  have hgF := fun v s h => regret_ev 5 0 2000 3 v ssF s h (by decide)
  have huF := fun v s h => cut_ev 5 0 2000 v ssF s h (by decide)
  have hvZ := fun v w ws s h hw hl => verify_ev 5 0 2000 v w ssZ ws s h (by decide) hw hl
  have hvF := fun v w ws s h hw hl => verify_ev 5 0 2000 v w ssF ws s h (by decide) hw hl
  unfold fieldV at hkF hkZ hcZ hpF hrF hgF huF hvZ hvF
  refine Ev.intro (fn := Try.f13) rfl (by kernel_rfl) rfl rfl ?_
  apply zz
  refine Cd.ra (h := ?_)
  apply Run.by_eq
  · intro self
    conv => lhs; simp -implicitDefEqProofs (maxSteps := 300000) (disch := omega) [-getElem?_pos, -getElem?_neg]
  try (with_reducible refine Run.ret ?_)
  apply zz
  -- Known of F
  refine Cd.mono (Q := fun x f1 s1 => x = Ex.normal ∧ f1.marks = [] ∧ Keep s s1 ∧ ∃ kv, f1.get 1 = kv ∧ f1.get 2 = .int .i64 0 ∧ SpAt s1 kv [(980, 1020), (1180, 1545), (1380, 1420), (1275, 1640), (1170, 1230)]) ?_ ?_
  · apply zz
    refine Cd.ra (h := ?_)
    apply Run.by_eq
    · intro self
      conv => lhs; simp -implicitDefEqProofs (maxSteps := 300000) (disch := omega) [-getElem?_pos, -getElem?_neg]
    try (with_reducible refine Run.ret ?_)
    apply zz
    refine Run.call ((F_ev _).mono fun v w1 hv => ?_)
    obtain ⟨k1, b, rfl, hb1, hb2, hb3⟩ := hv
    apply Run.by_eq
    · intro self
      conv => lhs; simp -implicitDefEqProofs (maxSteps := 300000) (disch := omega) [-getElem?_pos, -getElem?_neg]
    try (with_reducible refine Run.ret ?_)
    apply zz
    refine Run.call ((hkF _ _ (smF hb2 hb3)).mono fun v w2 hv => ?_)
    obtain ⟨k2, kv, e, rfl, hK⟩ := hv
    obtain ⟨rfl, hkv⟩ := known_F hK
    have ho := SlAt.one hkv
    apply Run.by_eq
    · intro self
      conv => lhs; simp -implicitDefEqProofs (maxSteps := 300000) (disch := omega) [-getElem?_pos, -getElem?_neg]
    try (with_reducible refine Run.ret ?_)
    apply zz
    exact ⟨rfl, by simp, k1.trans k2, kv, by simp, by simp, hkv⟩
  rintro x f s1 ⟨rfl, hmk, hk, kv, g1, g2, hkv⟩
  apply zz
  -- Known of Z
  refine Cd.mono (Q := fun x f1 s1 => x = Ex.normal ∧ f1.marks = [] ∧ Keep s s1 ∧ f1.get 1 = kv ∧ f1.get 2 = .int .i64 0 ∧ f1.get 4 = .int .i64 12 ∧ SpAt s1 kv [(980, 1020), (1180, 1545), (1380, 1420), (1275, 1640), (1170, 1230)]) ?_ ?_
  · apply zz
    refine Cd.ra (h := ?_)
    apply Run.by_eq
    · intro self
      conv => lhs; simp -implicitDefEqProofs (maxSteps := 300000) (disch := omega) [-getElem?_pos, -getElem?_neg]
    try (with_reducible refine Run.ret ?_)
    apply zz
    refine Run.call ((Z_ev _).mono fun v w1 hv => ?_)
    obtain ⟨k1, b, rfl, hb1, hb2, hb3⟩ := hv
    apply Run.by_eq
    · intro self
      conv => lhs; simp -implicitDefEqProofs (maxSteps := 300000) (disch := omega) [-getElem?_pos, -getElem?_neg]
    try (with_reducible refine Run.ret ?_)
    apply zz
    refine Run.call ((hkZ _ _ (smZ hb2 hb3)).mono fun v w2 hv => ?_)
    obtain ⟨k2, zv, e, rfl, hK⟩ := hv
    obtain ⟨rfl, rfl⟩ := known_Z hK
    apply Run.by_eq
    · intro self
      conv => lhs; simp -implicitDefEqProofs (maxSteps := 300000) (disch := omega) [-getElem?_pos, -getElem?_neg]
    try (with_reducible refine Run.ret ?_)
    apply zz
    exact ⟨rfl, by simp [hmk], hk.trans (k1.trans k2), by simp [g1], by simp [g2], by simp, hkv.keep (k1.trans k2)⟩
  clear hmk g1 g2 hk hkv
  rintro x f s1 ⟨rfl, hmk, hk, g1, g2, g4, hkv⟩
  apply zz
  -- Clash of Z
  refine Cd.mono (Q := fun x f1 s1 => x = Ex.normal ∧ f1.marks = [] ∧ Keep s s1 ∧ f1.get 1 = kv ∧ f1.get 2 = .int .i64 0 ∧ f1.get 4 = .int .i64 12 ∧ SpAt s1 kv [(980, 1020), (1180, 1545), (1380, 1420), (1275, 1640), (1170, 1230)] ∧ f1.get 6 = .int .i64 0 ∧ ∃ cv, f1.get 5 = cv ∧ Trip 5 (hB 0 2000 ssZ) cv s1) ?_ ?_
  · apply zz
    refine Cd.ra (h := ?_)
    apply Run.by_eq
    · intro self
      conv => lhs; simp -implicitDefEqProofs (maxSteps := 300000) (disch := omega) [-getElem?_pos, -getElem?_neg]
    try (with_reducible refine Run.ret ?_)
    apply zz
    refine Run.call ((Z_ev _).mono fun v w1 hv => ?_)
    obtain ⟨k1, b, rfl, hb1, hb2, hb3⟩ := hv
    apply Run.by_eq
    · intro self
      conv => lhs; simp -implicitDefEqProofs (maxSteps := 300000) (disch := omega) [-getElem?_pos, -getElem?_neg]
    try (with_reducible refine Run.ret ?_)
    apply zz
    refine Run.call ((hcZ _ _ (smZ hb2 hb3)).mono fun v w2 hv => ?_)
    obtain ⟨k2, cv, e, rfl, hK⟩ := hv
    obtain ⟨rfl, hT⟩ := clash_Z hK
    have ho : oneV cv = true := by obtain ⟨_, _, _, _, _, _, _, _, rfl, _⟩ := hT; rfl
    apply Run.by_eq
    · intro self
      conv => lhs; simp -implicitDefEqProofs (maxSteps := 300000) (disch := omega) [-getElem?_pos, -getElem?_neg]
    try (with_reducible refine Run.ret ?_)
    apply zz
    exact ⟨rfl, by simp [hmk], hk.trans (k1.trans k2), by simp [g1], by simp [g2], by simp [g4], hkv.keep (k1.trans k2), by simp, cv, by simp, hT⟩
  clear hmk g1 g2 g4 hk hkv
  rintro x f s1 ⟨rfl, hmk, hk, g1, g2, g4, hkv, g6, cv, g5, hT⟩
  apply zz
  obtain ⟨ti, tj, tk, t1, t2, t3, t4, hci, bc, rfl⟩ := hT.ints
  clear hT
  -- Peaks of F
  refine Cd.mono (Q := fun x f1 s1 => x = Ex.normal ∧ f1.marks = [] ∧ Keep s s1 ∧ f1.get 1 = kv ∧ f1.get 2 = .int .i64 0 ∧ f1.get 4 = .int .i64 12 ∧ SpAt s1 kv [(980, 1020), (1180, 1545), (1380, 1420), (1275, 1640), (1170, 1230)] ∧ f1.get 6 = .int .i64 0 ∧ f1.get 5 = .slice (some bc) 3 3 ∧ IntsAt s1 (.slice (some bc) 3 3) [(ti : Int), (tj : Int), (tk : Int)] ∧ f1.get 8 = .int .i64 0 ∧ ∃ pv, f1.get 7 = pv ∧ IntsAt s1 pv [1, 2, 3]) ?_ ?_
  · apply zz
    refine Cd.ra (h := ?_)
    apply Run.by_eq
    · intro self
      conv => lhs; simp -implicitDefEqProofs (maxSteps := 300000) (disch := omega) [-getElem?_pos, -getElem?_neg]
    try (with_reducible refine Run.ret ?_)
    apply zz
    refine Run.call ((F_ev _).mono fun v w1 hv => ?_)
    obtain ⟨k1, b, rfl, hb1, hb2, hb3⟩ := hv
    apply Run.by_eq
    · intro self
      conv => lhs; simp -implicitDefEqProofs (maxSteps := 300000) (disch := omega) [-getElem?_pos, -getElem?_neg]
    try (with_reducible refine Run.ret ?_)
    apply zz
    refine Run.call ((hpF _ _ (smF hb2 hb3)).mono fun v w2 hv => ?_)
    obtain ⟨k2, pv, e, rfl, hK⟩ := hv
    obtain ⟨rfl, hP⟩ := hK.F
    have hP2 : IntsAt w2 pv [1, 2, 3] := by have := peaksF ▸ hP; exact this
    have ho := SlAt.one hP2
    apply Run.by_eq
    · intro self
      conv => lhs; simp -implicitDefEqProofs (maxSteps := 300000) (disch := omega) [-getElem?_pos, -getElem?_neg]
    try (with_reducible refine Run.ret ?_)
    apply zz
    exact ⟨rfl, by simp [hmk], hk.trans (k1.trans k2), by simp [g1], by simp [g2], by simp [g4], hkv.keep (k1.trans k2), by simp [g6], by simp [g5], hci.keep (k1.trans k2), by simp, pv, by simp, hP2⟩
  clear hmk g1 g2 g4 g5 g6 hk hkv hci
  rintro x f s1 ⟨rfl, hmk, hk, g1, g2, g4, hkv, g6, g5, hci, g8, pv, g7, hpv⟩
  apply zz
  -- Ripe of F
  refine Cd.mono (Q := fun x f1 s1 => x = Ex.normal ∧ f1.marks = [] ∧ Keep s s1 ∧ f1.get 1 = kv ∧ f1.get 2 = .int .i64 0 ∧ f1.get 4 = .int .i64 12 ∧ SpAt s1 kv [(980, 1020), (1180, 1545), (1380, 1420), (1275, 1640), (1170, 1230)] ∧ f1.get 6 = .int .i64 0 ∧ f1.get 5 = .slice (some bc) 3 3 ∧ IntsAt s1 (.slice (some bc) 3 3) [(ti : Int), (tj : Int), (tk : Int)] ∧ f1.get 8 = .int .i64 0 ∧ f1.get 7 = pv ∧ IntsAt s1 pv [1, 2, 3] ∧ f1.get 11 = .int .i64 0 ∧ ∃ sv mv, f1.get 9 = sv ∧ f1.get 10 = mv ∧ IntsAt s1 sv [2] ∧ IntsAt s1 mv [1, 2, 3]) ?_ ?_
  · apply zz
    refine Cd.ra (h := ?_)
    apply Run.by_eq
    · intro self
      conv => lhs; simp -implicitDefEqProofs (maxSteps := 300000) (disch := omega) [-getElem?_pos, -getElem?_neg]
    try (with_reducible refine Run.ret ?_)
    apply zz
    refine Run.call ((F_ev _).mono fun v w1 hv => ?_)
    obtain ⟨k1, b, rfl, hb1, hb2, hb3⟩ := hv
    apply Run.by_eq
    · intro self
      conv => lhs; simp -implicitDefEqProofs (maxSteps := 300000) (disch := omega) [-getElem?_pos, -getElem?_neg]
    try (with_reducible refine Run.ret ?_)
    apply zz
    refine Run.call ((hrF _ _ (smF hb2 hb3)).mono fun v w2 hv => ?_)
    obtain ⟨k2, sv, mv, e, rfl, hK⟩ := hv
    obtain ⟨rfl, hP⟩ := hK.F
    have hS2 : IntsAt w2 sv [2] := by have := surelyF ▸ hP.1; exact this
    have hM2 : IntsAt w2 mv [1, 2, 3] := by have := perhapsF ▸ hP.2; exact this
    have ho := SlAt.one hS2
    have ho2 := SlAt.one hM2
    apply Run.by_eq
    · intro self
      conv => lhs; simp -implicitDefEqProofs (maxSteps := 300000) (disch := omega) [-getElem?_pos, -getElem?_neg]
    try (with_reducible refine Run.ret ?_)
    apply zz
    exact ⟨rfl, by simp [hmk], hk.trans (k1.trans k2), by simp [g1], by simp [g2], by simp [g4], hkv.keep (k1.trans k2), by simp [g6], by simp [g5], hci.keep (k1.trans k2), by simp [g8], by simp [g7], hpv.keep (k1.trans k2), by simp, sv, mv, by simp, by simp, hS2, hM2⟩
  clear hmk g1 g2 g4 g5 g6 g7 g8 hk hkv hci hpv
  rintro x f s1 ⟨rfl, hmk, hk, g1, g2, g4, hkv, g6, g5, hci, g8, g7, hpv, g11, sv, mv, g9, g10, hsv, hmv⟩
  apply zz
  have hv0 := trip_ver t1 t2 t3 t4
  have vc := slAt_veq hci 4
  refine Cd.mono (Q := fun x f1 s1 => x = Ex.normal ∧ f1.marks = [] ∧ Keep s s1 ∧ f1.get 7 = pv ∧ IntsAt s1 pv [1, 2, 3] ∧ f1.get 9 = sv ∧ f1.get 10 = mv ∧ IntsAt s1 sv [2] ∧ IntsAt s1 mv [1, 2, 3] ∧ f1.get 87 = .bool false) ?_ ?_
  · have hr5 : repeatL [Value.int .i64 0, .int .i64 0] 5 = [.int .i64 0, .int .i64 0, .int .i64 0, .int .i64 0, .int .i64 0, .int .i64 0, .int .i64 0, .int .i64 0, .int .i64 0, .int .i64 0] := rfl
    apply zz
    refine Cd.ra (h := ?_)
    apply Run.by_eq
    · intro self
      conv => lhs; simp -implicitDefEqProofs (maxSteps := 300000) (disch := omega) [-getElem?_pos, -getElem?_neg, g1, g2, g4, g5, g6, g8, g11]
    try (with_reducible refine Run.ret ?_)
    apply zz
    refine Run.call ((span_ev 980 1020 _).mono fun v wa hv => ?_)
    obtain ⟨rfl, a⟩ := hv
    have aa := a.1
    have ab := a.2
    try simp only [pushed_next', upded_next'] at aa ab
    apply Run.by_eq
    · intro self
      conv => lhs; simp -implicitDefEqProofs (maxSteps := 300000) (disch := omega) [-getElem?_pos, -getElem?_neg]
    try (with_reducible refine Run.ret ?_)
    apply zz
    refine Run.call ((span_ev 1180 1545 _).mono fun v wb hv => ?_)
    obtain ⟨rfl, b⟩ := hv
    have ba := b.1
    have bb := b.2
    try simp only [pushed_next', upded_next'] at ba bb
    apply Run.by_eq
    · intro self
      conv => lhs; simp -implicitDefEqProofs (maxSteps := 300000) (disch := omega) [-getElem?_pos, -getElem?_neg]
    try (with_reducible refine Run.ret ?_)
    apply zz
    refine Run.call ((span_ev 1380 1420 _).mono fun v wc hv => ?_)
    obtain ⟨rfl, c⟩ := hv
    have ca := c.1
    have cb := c.2
    try simp only [pushed_next', upded_next'] at ca cb
    apply Run.by_eq
    · intro self
      conv => lhs; simp -implicitDefEqProofs (maxSteps := 300000) (disch := omega) [-getElem?_pos, -getElem?_neg]
    try (with_reducible refine Run.ret ?_)
    apply zz
    refine Run.call ((span_ev 1275 1640 _).mono fun v wd hv => ?_)
    obtain ⟨rfl, d⟩ := hv
    have da := d.1
    have db := d.2
    try simp only [pushed_next', upded_next'] at da db
    apply Run.by_eq
    · intro self
      conv => lhs; simp -implicitDefEqProofs (maxSteps := 300000) (disch := omega) [-getElem?_pos, -getElem?_neg]
    try (with_reducible refine Run.ret ?_)
    apply zz
    refine Run.call ((span_ev 1170 1230 _).mono fun v we hv => ?_)
    obtain ⟨rfl, e⟩ := hv
    have ea := e.1
    have eb := e.2
    try simp only [pushed_next', upded_next'] at ea eb
    have ke : Keep s1 we := ⟨by omega, fun i hi => by rw [eb i (by omega), db i (by omega), cb i (by omega), bb i (by omega)]; exact ab i hi⟩
    apply Run.by_eq
    · intro self
      conv => lhs; simp -implicitDefEqProofs (maxSteps := 300000) (disch := omega) [-getElem?_pos, -getElem?_neg, g1, hr5]
    try (with_reducible refine Run.ret ?_)
    apply zz
    have kp : Keep s1 (we.pushed (.cells [.int .i64 980, .int .i64 1020, .int .i64 1180, .int .i64 1545, .int .i64 1380, .int .i64 1420, .int .i64 1275, .int .i64 1640, .int .i64 1170, .int .i64 1230] none)) := ke.pushed _
    have hlit : SpAt (we.pushed (.cells [.int .i64 980, .int .i64 1020, .int .i64 1180, .int .i64 1545, .int .i64 1380, .int .i64 1420, .int .i64 1275, .int .i64 1640, .int .i64 1170, .int .i64 1230] none)) (.slice (some ⟨we.next, 0, none⟩) 5 5) kL := sl_of_cells (n := 2) (l := kL.map spP) (Nat.lt_succ_self _) (fun y hy => by obtain ⟨p, _, rfl⟩ := List.mem_map.1 hy; rfl) (get_pushed_new _ _)
    have hkv2 : SpAt (we.pushed (.cells [.int .i64 980, .int .i64 1020, .int .i64 1180, .int .i64 1545, .int .i64 1380, .int .i64 1420, .int .i64 1275, .int .i64 1640, .int .i64 1170, .int .i64 1230] none)) kv kL := hkv.keep kp
    refine Run.call ((spans_ev _ _ _ _ _ hkv2 hlit small_kL small_kL (by decide) (by decide)).mono fun v w6 hv => ?_)
    obtain ⟨rfl, k6⟩ := hv
    have k6' := kp.trans k6
    apply Run.by_eq
    · intro self
      conv => lhs; simp -implicitDefEqProofs (maxSteps := 300000) (disch := omega) [-getElem?_pos, -getElem?_neg]
    try (with_reducible refine Run.ret ?_)
    apply zz
    refine Run.call ((Z_ev _).mono fun v w7 hv => ?_)
    obtain ⟨k7, b7, rfl, hb1, hb2, hb3⟩ := hv
    have k7' := k6'.trans k7
    apply Run.by_eq
    · intro self
      conv => lhs; simp -implicitDefEqProofs (maxSteps := 300000) (disch := omega) [-getElem?_pos, -getElem?_neg, g5]
    try (with_reducible refine Run.ret ?_)
    apply zz
    refine Run.call ((hvZ _ _ _ _ (smZ hb2 hb3) (hci.keep k7') (by simp)).mono fun v w8 hv => ?_)
    obtain ⟨rfl, k8⟩ := hv
    have k8' := k7'.trans k8
    clear hb1 hb2 hb3
    rw [hv0]
    apply Run.by_eq
    · intro self
      conv => lhs; simp -implicitDefEqProofs (maxSteps := 300000) (disch := omega) [-getElem?_pos, -getElem?_neg]
    try (with_reducible refine Run.ret ?_)
    apply zz
    refine Run.call ((Z_ev _).mono fun v w9 hv => ?_)
    obtain ⟨k9, b9, rfl, hb1, hb2, hb3⟩ := hv
    have k9' := k8'.trans k9
    apply Run.by_eq
    · intro self
      conv => lhs; simp -implicitDefEqProofs (maxSteps := 300000) (disch := omega) [-getElem?_pos, -getElem?_neg]
    try (with_reducible refine Run.ret ?_)
    apply zz
    have kq : Keep w9 (w9.pushed (.cells [.int .i64 0, .int .i64 2, .int .i64 4] none)) := (Keep.refl _).pushed _
    have h024 : IntsAt (w9.pushed (.cells [.int .i64 0, .int .i64 2, .int .i64 4] none)) (.slice (some ⟨w9.next, 0, none⟩) 3 3) [0, 2, 4] := ints_of_cells (xs := [0, 2, 4]) (Nat.lt_succ_self _) (get_pushed_new _ _)
    refine Run.call ((hvZ _ _ _ _ ((smZ hb2 hb3).keep kq) h024 (by decide)).mono fun v w10 hv => ?_)
    obtain ⟨rfl, k10⟩ := hv
    have k10' := (k9'.trans kq).trans k10
    clear hb1 hb2 hb3
    rw [verZ]
    apply Run.by_eq
    · intro self
      conv => lhs; simp -implicitDefEqProofs (maxSteps := 300000) (disch := omega) [-getElem?_pos, -getElem?_neg]
    try (with_reducible refine Run.ret ?_)
    apply zz
    refine Run.call ((F_ev _).mono fun v w11 hv => ?_)
    obtain ⟨k11, b11, rfl, hb1, hb2, hb3⟩ := hv
    have k11' := k10'.trans k11
    apply Run.by_eq
    · intro self
      conv => lhs; simp -implicitDefEqProofs (maxSteps := 300000) (disch := omega) [-getElem?_pos, -getElem?_neg]
    try (with_reducible refine Run.ret ?_)
    apply zz
    have kq2 : Keep w11 (w11.pushed (.cells [.int .i64 0, .int .i64 2, .int .i64 4] none)) := (Keep.refl _).pushed _
    have h024' : IntsAt (w11.pushed (.cells [.int .i64 0, .int .i64 2, .int .i64 4] none)) (.slice (some ⟨w11.next, 0, none⟩) 3 3) [0, 2, 4] := ints_of_cells (xs := [0, 2, 4]) (Nat.lt_succ_self _) (get_pushed_new _ _)
    refine Run.call ((hvF _ _ _ _ ((smF hb2 hb3).keep kq2) h024' (by decide)).mono fun v w12 hv => ?_)
    obtain ⟨rfl, k12⟩ := hv
    have k12' := (k11'.trans kq2).trans k12
    clear hb1 hb2 hb3
    rw [verFF]
    apply Run.by_eq
    · intro self
      conv => lhs; simp -implicitDefEqProofs (maxSteps := 300000) (disch := omega) [-getElem?_pos, -getElem?_neg]
    try (with_reducible refine Run.ret ?_)
    apply zz
    exact ⟨rfl, by simp [hmk], hk.trans k12', by simp [g7], hpv.keep k12', by simp [g9], by simp [g10], hsv.keep k12', hmv.keep k12', by simp⟩
  clear hmk g1 g2 g4 g5 g6 g7 g8 g9 g10 g11 hk hkv hci hpv hsv hmv hv0 vc
  rintro x f s1 ⟨rfl, hmk, hk, g7, hpv, g9, g10, hsv, hmv, g87⟩
  apply zz
  apply Cd.ite rfl
  · conv => lhs; simp -implicitDefEqProofs (maxSteps := 300000) (disch := omega) [-getElem?_pos, -getElem?_neg, g87]
  all_goals intro c0
  all_goals try (cases c0; done)
  all_goals try simp only [Bool.not_eq_true', Bool.not_eq_false', decide_eq_true_eq, decide_eq_false_iff_not] at c0
  all_goals apply zz
  -- Regret of F
  refine Cd.mono (Q := fun x f1 s1 => x = Ex.normal ∧ f1.marks = [] ∧ Keep s s1 ∧ f1.get 7 = pv ∧ IntsAt s1 pv [1, 2, 3] ∧ f1.get 9 = sv ∧ f1.get 10 = mv ∧ IntsAt s1 sv [2] ∧ IntsAt s1 mv [1, 2, 3] ∧ f1.get 2 = .int .i64 0 ∧ f1.get 12 = .int .i64 250) ?_ ?_
  · apply zz
    refine Cd.ra (h := ?_)
    apply Run.by_eq
    · intro self
      conv => lhs; simp -implicitDefEqProofs (maxSteps := 300000) (disch := omega) [-getElem?_pos, -getElem?_neg]
    try (with_reducible refine Run.ret ?_)
    apply zz
    refine Run.call ((F_ev _).mono fun v w1 hv => ?_)
    obtain ⟨k1, b, rfl, hb1, hb2, hb3⟩ := hv
    apply Run.by_eq
    · intro self
      conv => lhs; simp -implicitDefEqProofs (maxSteps := 300000) (disch := omega) [-getElem?_pos, -getElem?_neg]
    try (with_reducible refine Run.ret ?_)
    apply zz
    refine Run.call ((hgF _ _ (smF hb2 hb3)).mono fun v w2 hv => ?_)
    obtain ⟨k2, rg, e, rfl, hK⟩ := hv
    obtain ⟨rfl, rfl⟩ := reg_F hK
    apply Run.by_eq
    · intro self
      conv => lhs; simp -implicitDefEqProofs (maxSteps := 300000) (disch := omega) [-getElem?_pos, -getElem?_neg]
    try (with_reducible refine Run.ret ?_)
    apply zz
    have k2' := k1.trans k2
    exact ⟨rfl, by simp [hmk], hk.trans k2', by simp [g7], hpv.keep k2', by simp [g9], by simp [g10], hsv.keep k2', hmv.keep k2', by simp, by simp⟩
  clear hmk g7 g9 g10 g87 hk hpv hsv hmv
  rintro x f s1 ⟨rfl, hmk, hk, g7, hpv, g9, g10, hsv, hmv, g2, g12⟩
  apply zz
  -- Cut of F
  refine Cd.mono (Q := fun x f1 s1 => x = Ex.normal ∧ f1.marks = [] ∧ Keep s s1 ∧ f1.get 7 = pv ∧ IntsAt s1 pv [1, 2, 3] ∧ f1.get 9 = sv ∧ f1.get 10 = mv ∧ IntsAt s1 sv [2] ∧ IntsAt s1 mv [1, 2, 3] ∧ f1.get 2 = .int .i64 0 ∧ f1.get 12 = .int .i64 250 ∧ f1.get 13 = .int .i64 2 ∧ f1.get 14 = .int .i64 220 ∧ f1.get 4 = .int .i64 0) ?_ ?_
  · apply zz
    refine Cd.ra (h := ?_)
    apply Run.by_eq
    · intro self
      conv => lhs; simp -implicitDefEqProofs (maxSteps := 300000) (disch := omega) [-getElem?_pos, -getElem?_neg]
    try (with_reducible refine Run.ret ?_)
    apply zz
    refine Run.call ((F_ev _).mono fun v w1 hv => ?_)
    obtain ⟨k1, b, rfl, hb1, hb2, hb3⟩ := hv
    apply Run.by_eq
    · intro self
      conv => lhs; simp -implicitDefEqProofs (maxSteps := 300000) (disch := omega) [-getElem?_pos, -getElem?_neg]
    try (with_reducible refine Run.ret ?_)
    apply zz
    refine Run.call ((huF _ _ (smF hb2 hb3)).mono fun v w2 hv => ?_)
    obtain ⟨k2, cw, cx, e, rfl, hK⟩ := hv
    obtain ⟨rfl, hcw, hcx⟩ := hK.F
    have e1 : bestI (RF 5 0 2000 ssF) ((5 : Int).toNat - 1) = 2 := cutF1
    rw [e1] at hcw hcx
    rw [cutF2] at hcx
    subst hcw hcx
    apply Run.by_eq
    · intro self
      conv => lhs; simp -implicitDefEqProofs (maxSteps := 300000) (disch := omega) [-getElem?_pos, -getElem?_neg]
    try (with_reducible refine Run.ret ?_)
    apply zz
    have k2' := k1.trans k2
    exact ⟨rfl, by simp [hmk], hk.trans k2', by simp [g7], hpv.keep k2', by simp [g9], by simp [g10], hsv.keep k2', hmv.keep k2', by simp [g2], by simp [g12], by simp, by simp, by simp⟩
  clear hmk g7 g9 g10 g2 g12 hk hpv hsv hmv
  rintro x f s1 ⟨rfl, hmk, hk, g7, hpv, g9, g10, hsv, hmv, g2, g12, g13, g14, g4⟩
  apply zz
  refine Cd.ra (h := ?_)
  apply Run.by_eq
  · intro self
    conv => lhs; simp -implicitDefEqProofs (maxSteps := 300000) (disch := omega) [-getElem?_pos, -getElem?_neg, g2, g4, g12, g13, g14, g7]
  try (with_reducible refine Run.ret ?_)
  apply zz
  have kp1 : Keep s1 (s1.pushed (.cells [.int .i64 1, .int .i64 2, .int .i64 3] none)) := (Keep.refl _).pushed _
  refine Run.call ((numbers_ev _ _ _ _ _ (hpv.keep kp1) (ints_of_cells (xs := [1, 2, 3]) (Nat.lt_succ_self _) (get_pushed_new _ _)) (by decide) (by decide)).mono fun v w1 hv => ?_)
  obtain ⟨rfl, k1⟩ := hv
  have k1' := kp1.trans k1
  apply Run.by_eq
  · intro self
    conv => lhs; simp -implicitDefEqProofs (maxSteps := 300000) (disch := omega) [-getElem?_pos, -getElem?_neg, g9]
  try (with_reducible refine Run.ret ?_)
  apply zz
  have kp2 : Keep w1 (w1.pushed (.cells [.int .i64 2] none)) := (Keep.refl _).pushed _
  refine Run.call ((numbers_ev _ _ _ _ _ (hsv.keep (k1'.trans kp2)) (ints_of_cells (xs := [2]) (Nat.lt_succ_self _) (get_pushed_new _ _)) (by decide) (by decide)).mono fun v w2 hv => ?_)
  obtain ⟨rfl, k2⟩ := hv
  have k2' := (k1'.trans kp2).trans k2
  apply Run.by_eq
  · intro self
    conv => lhs; simp -implicitDefEqProofs (maxSteps := 300000) (disch := omega) [-getElem?_pos, -getElem?_neg, g10]
  try (with_reducible refine Run.ret ?_)
  apply zz
  have kp3 : Keep w2 (w2.pushed (.cells [.int .i64 1, .int .i64 2, .int .i64 3] none)) := (Keep.refl _).pushed _
  refine Run.call ((numbers_ev _ _ _ _ _ (hmv.keep (k2'.trans kp3)) (ints_of_cells (xs := [1, 2, 3]) (Nat.lt_succ_self _) (get_pushed_new _ _)) (by decide) (by decide)).mono fun v w3 hv => ?_)
  obtain ⟨rfl, k3⟩ := hv
  apply Run.by_eq
  · intro self
    conv => lhs; simp -implicitDefEqProofs (maxSteps := 300000) (disch := omega) [-getElem?_pos, -getElem?_neg]
  try (with_reducible refine Run.ret ?_)
  apply zz
  apply Leave.mk (by first | exact .inl rfl | exact .inr rfl) (by simp only [Fr.marks_put, fr0_marks, hmk])
  · conv => lhs; simp -implicitDefEqProofs (disch := omega) [Try.results13, hmk]
  exact ⟨rfl, hk.trans ((k2'.trans kp3).trans k3)⟩
end Go.Proofs.Ytnhokodcmeekhaa
namespace Go.Proofs.Ytnhokodcmeekhaa
open Go Kern
/-! The law of fields -/
theorem fl_bd {x : Frac} (h0 : 0 ≤ x.o) (h : Mid 3600000 30 x) : In62 (flF x) := by
  unfold Mid at h
  have h1 : 0 ≤ x.o / x.u := Int.ediv_nonneg h0 (by omega)
  have h2 : x.o / x.u ≤ x.o := Int.ediv_le_self _ h0
  unfold In62 flF; omega
theorem ce_bd {x : Frac} (h0 : 0 ≤ x.o) (h : Mid 3600000 30 x) : In62 (ceF x) := by
  unfold Mid at h
  rw [← ce_up h.2.1]
  have h1 : 0 ≤ (x.o + x.u - 1) / x.u := Int.ediv_nonneg (by omega) (by omega)
  have h2 : (x.o + x.u - 1) / x.u ≤ x.o + x.u - 1 := Int.ediv_le_self _ (by omega)
  unfold In62; omega
def knownL (m : Nat) (lo hi : Int) (ss : List SampD) : List (Int × Int) := (List.range m).map fun w => (flF (lowF m (bndN m lo hi ss).1 w), ceF (upF m (bndN m lo hi ss).1 (bndN m lo hi ss).2 w))
theorem knownL_rows (m : Nat) (lo hi : Int) (ss : List SampD) : (List.range m).map (knownRow m lo hi ss) = (knownL m lo hi ss).map spP := by
  unfold knownL; rw [List.map_map]; rfl
/-- What both answers of Known have in common. -/
theorem KnownA.both {n lo hi : Int} {ss : List SampD} {w w' : Value} {e e' : Int} {s s' : St} (h : KnownA n lo hi ss w e s) (h' : KnownA n lo hi ss w' e' s') : e' = e ∧ ∃ l, SpAt s w l ∧ SpAt s' w' l ∧ SmallP l ∧ l.length ≤ 1000 := by
  rcases h with ⟨h1, rfl, rfl⟩ | ⟨h1, rfl, rfl, h4⟩ | ⟨h1, rfl, h3, h4⟩
  · rcases h' with ⟨_, rfl, rfl⟩ | ⟨k1, _⟩ | ⟨k1, _⟩
    · exact ⟨rfl, [], .nil 0, .nil 0, (fun x hx => by cases hx), by simp⟩
    · exact absurd k1 h1
    · exact absurd k1 h1
  · rcases h' with ⟨k1, _⟩ | ⟨_, rfl, rfl, _⟩ | ⟨_, _, _, k4⟩
    · exact absurd h1 k1
    · exact ⟨rfl, [], .nil 0, .nil 0, (fun x hx => by cases hx), by simp⟩
    · obtain ⟨i, j, k, hi, hj, hk, h⟩ := h4
      rw [k4 i j k hi hj hk] at h; cases h
  · rcases h' with ⟨k1, _⟩ | ⟨_, _, _, i, j, k, hi, hj, hk, h⟩ | ⟨_, rfl, k3, _⟩
    · exact absurd h1 k1
    · rw [h4 i j k hi hj hk] at h; cases h
    · rw [knownL_rows] at h3 k3
      have hok := (fieldErr_ok h1).1
      obtain ⟨m, rfl⟩ : ∃ m : Nat, n = m := ⟨n.toNat, by omega⟩
      simp only [Int.toNat_natCast] at h3 k3 h4
      refine ⟨rfl, knownL m lo hi ss, h3, k3, fun x hx => ?_, by simp [knownL]; omega⟩
      obtain ⟨w, hw, rfl⟩ := List.mem_map.1 hx
      obtain ⟨⟨v1, v2⟩, v3, v4⟩ := vals_ok h1 h4 (w := w) (by simpa using hw)
      exact ⟨fl_bd v1 v2, ce_bd v3 v4⟩
end Go.Proofs.Ytnhokodcmeekhaa
namespace Go.Proofs.Ytnhokodcmeekhaa
open Go Kern
/-! The law of peaks -/
theorem Ans.both {n lo hi : Int} {ss : List SampD} {e e' : Int} {bad good bad' good' : Prop} (h : Ans n lo hi ss e bad good) (h' : Ans n lo hi ss e' bad' good') : e' = e ∧ ((bad ∧ bad') ∨ (good ∧ good')) := by
  rcases h with ⟨h1, rfl, h3⟩ | ⟨h1, rfl, h3, h4⟩ | ⟨h1, rfl, h3, h4⟩
  · rcases h' with ⟨_, rfl, k3⟩ | ⟨k1, _⟩ | ⟨k1, _⟩
    · exact ⟨rfl, .inl ⟨h3, k3⟩⟩
    · exact absurd k1 h1
    · exact absurd k1 h1
  · rcases h' with ⟨k1, _⟩ | ⟨_, rfl, k3, _⟩ | ⟨_, _, _, k4⟩
    · exact absurd h1 k1
    · exact ⟨rfl, .inl ⟨h3, k3⟩⟩
    · obtain ⟨i, j, k, hi, hj, hk, h⟩ := h4
      rw [k4 i j k hi hj hk] at h; cases h
  · rcases h' with ⟨k1, _⟩ | ⟨_, _, _, i, j, k, hi, hj, hk, h⟩ | ⟨_, rfl, k3, _⟩
    · exact absurd h1 k1
    · rw [h4 i j k hi hj hk] at h; cases h
    · exact ⟨rfl, .inr ⟨h3, k3⟩⟩
theorem ints_nil {s : St} : IntsAt s (.slice none 0 0) [] := .nil 0
set_option maxRecDepth 100000 in
set_option maxHeartbeats 4000000 in
theorem lawP_ev (n lo hi least : Int) (v : Value) (ss : List SampD) (s : St) (hs : SmAt s v ss) : Ev TT 5 [fieldV n lo hi v, .int .i64 least] s fun r _ => r = .bool true := by
  have hgi := given_ev n lo hi v ss
  have hpk := peaks_ev n lo hi v ss
  have hrp := ripe_ev n lo hi least v ss
  obtain ⟨a, c, rfl⟩ := hs.shape
  rw [List.length_map] at hs hgi hpk hrp ⊢
  unfold fieldV at hgi hpk hrp ⊢
  refine Ev.intro (fn := Try.f5) rfl (by kernel_rfl) rfl rfl ?_
  apply zz
  refine Cd.ra (h := ?_)
  apply Run.by_eq
  · intro self
    conv => lhs; simp -implicitDefEqProofs (maxSteps := 300000) (disch := omega) [-getElem?_pos, -getElem?_neg]
  try (with_reducible refine Run.ret ?_)
  apply zz
  by_cases e2 : 200 < (ss.length : Int)
  · apply zz
    refine Cd.ra (h := ?_)
    apply Run.by_eq
    · intro self
      conv => lhs; simp -implicitDefEqProofs (maxSteps := 300000) (disch := omega) [-getElem?_pos, -getElem?_neg, e2]
    try (with_reducible refine Run.ret ?_)
    apply zz
    apply Cd.ite rfl
    · conv => lhs; simp -implicitDefEqProofs (maxSteps := 300000) (disch := omega) [-getElem?_pos, -getElem?_neg]
    all_goals intro c0
    all_goals try (cases c0; done)
    all_goals try simp only [Bool.not_eq_true', Bool.not_eq_false', decide_eq_true_eq, decide_eq_false_iff_not] at c0
    all_goals apply zz
    apply zz
    refine Cd.ra (h := ?_)
    apply Run.by_eq
    · intro self
      conv => lhs; simp -implicitDefEqProofs (maxSteps := 300000) (disch := omega) [-getElem?_pos, -getElem?_neg]
    try (with_reducible refine Run.ret ?_)
    apply zz
    refine Run.call ((works_ev _).mono fun v wk hv => ?_)
    obtain ⟨rfl, hwk⟩ := hv
    apply Run.by_eq
    · intro self
      conv => lhs; simp -implicitDefEqProofs (maxSteps := 300000) (disch := omega) [-getElem?_pos, -getElem?_neg]
    try (with_reducible refine Run.ret ?_)
    apply zz
    apply Leave.mk (by first | exact .inl rfl | exact .inr rfl) (by simp only [Fr.marks_put, fr0_marks])
    · conv => lhs; simp -implicitDefEqProofs (disch := omega) [Try.results5]
    rfl
  apply zz
  refine Cd.ra (h := ?_)
  apply Run.by_eq
  · intro self
    conv => lhs; simp -implicitDefEqProofs (maxSteps := 300000) (disch := omega) [-getElem?_pos, -getElem?_neg, e2]
  try (with_reducible refine Run.ret ?_)
  apply zz
  apply Cd.ite rfl
  · conv => lhs; simp -implicitDefEqProofs (maxSteps := 300000) (disch := omega) [-getElem?_pos, -getElem?_neg]
  all_goals intro c0
  all_goals try (cases c0; done)
  all_goals try simp only [Bool.not_eq_true', Bool.not_eq_false', decide_eq_true_eq, decide_eq_false_iff_not] at c0
  all_goals apply zz
  have hl : ss.length ≤ 1000 := by omega
  have va : veq 4 (Value.slice a ss.length c) (Value.slice a ss.length c) = true := slAt_veq hs 3
  have hlen : ∀ (m : Nat) (p : Nat → Bool), m ≤ 30 → (wkL m p).length ≤ 1000 := fun m p h => by have := wkL_len m p; omega
  apply zz
  refine Cd.ra (h := ?_)
  apply Run.by_eq
  · intro self
    conv => lhs; simp -implicitDefEqProofs (maxSteps := 300000) (disch := omega) [-getElem?_pos, -getElem?_neg]
  try (with_reducible refine Run.ret ?_)
  apply zz
  refine Run.call ((hgi _ (hs.keep ⟨by (try simp only [pushed_next', upded_next']); omega, fun i hi => by simp -implicitDefEqProofs (disch := omega) []⟩) hl).mono fun r2 wz hv => ?_)
  obtain ⟨z, q, rfl, hq⟩ := hv
  have zb := z.2
  have za := z.1
  try simp only [pushed_next', upded_next'] at za zb
  have hrk := refPeaks_ev n lo hi q ss
  have hrr := refRipe_ev n lo hi least q ss
  have hoq : oneV q = true := SlAt.one hq
  obtain ⟨a2, c2, rfl⟩ := hq.shape
  rw [List.length_map] at hq hrk hrr hoq
  unfold fieldV at hrk hrr
  have vb : veq 4 (Value.slice a2 ss.length c2) (Value.slice a2 ss.length c2) = true := slAt_veq hq 3
  have z0 : wz.heap.get s.next = some (.cells [.int .i64 n, .int .i64 lo, .int .i64 hi, .slice a ss.length c] none) := by rw [zb _ (by omega)]; simp -implicitDefEqProofs (disch := omega)
  have ksz : Keep s wz := ⟨by omega, fun i hi => by rw [zb i (by omega)]; simp -implicitDefEqProofs (disch := omega)⟩
  rw [List.length_map]
  apply Run.by_eq
  · intro self
    conv => lhs; simp -implicitDefEqProofs (maxSteps := 300000) (disch := omega) [-getElem?_pos, -getElem?_neg]
  try (with_reducible refine Run.ret ?_)
  apply zz
  have kz2 : Keep wz ((wz.pushed (.cells [.int .i64 0, .int .i64 0, .int .i64 0, .slice none 0 0] none)).upded wz.next (.cells [.int .i64 n, .int .i64 lo, .int .i64 hi, .slice a2 ss.length c2] none)) := ⟨by simp, fun i hi => by simp -implicitDefEqProofs (disch := omega)⟩
  apply zz
  refine Cd.ra (h := ?_)
  apply Run.by_eq
  · intro self
    conv => lhs; simp -implicitDefEqProofs (maxSteps := 300000) (disch := omega) [-getElem?_pos, -getElem?_neg, z0, va]
  try (with_reducible refine Run.ret ?_)
  apply zz
  refine Run.call ((hpk _ (hs.keep (ksz.trans kz2)) (by omega)).mono fun v wy hv => ?_)
  obtain ⟨y, w1, e1, rfl, hA⟩ := hv
  have yb := y.2
  have ya := y.1
  try simp only [pushed_next', upded_next'] at ya yb
  have y0 : wy.heap.get s.next = some (.cells [.int .i64 n, .int .i64 lo, .int .i64 hi, .slice a ss.length c] none) := by rw [yb _ (by omega)]; simp -implicitDefEqProofs (disch := omega) [z0]
  have y1 : wy.heap.get wz.next = some (.cells [.int .i64 n, .int .i64 lo, .int .i64 hi, .slice a2 ss.length c2] none) := by rw [yb _ (by omega)]; simp -implicitDefEqProofs (disch := omega)
  have kzy : Keep wz wy := kz2.trans y
  have ksy := ksz.trans kzy
  have hoA : oneV w1 = true := by
    rcases hA with ⟨_, _, rfl⟩ | ⟨_, _, rfl, _⟩ | ⟨_, _, h, _⟩
    · rfl
    · rfl
    · exact SlAt.one h
  apply Run.by_eq
  · intro self
    conv => lhs; simp -implicitDefEqProofs (maxSteps := 300000) (disch := omega) [-getElem?_pos, -getElem?_neg]
  try (with_reducible refine Run.ret ?_)
  apply zz
  refine Cd.ra (h := ?_)
  apply Run.by_eq
  · intro self
    conv => lhs; simp -implicitDefEqProofs (maxSteps := 300000) (disch := omega) [-getElem?_pos, -getElem?_neg, y1, vb]
  try (with_reducible refine Run.ret ?_)
  apply zz
  refine Run.call ((hrk _ (hq.keep kzy) (by omega)).mono fun v wu hv => ?_)
  obtain ⟨u, w2, e2', rfl, hB⟩ := hv
  have ub := u.2
  have ua := u.1
  have u0 := (ub _ (by omega)).trans y0
  have u1 := (ub _ (by omega)).trans y1
  have hoB : oneV w2 = true := by
    rcases hB with ⟨_, _, rfl⟩ | ⟨_, _, rfl, _⟩ | ⟨_, _, h, _⟩
    · rfl
    · rfl
    · exact SlAt.one h
  obtain ⟨l1, hl1, hl2, hll1⟩ : ∃ l, IntsAt wu w1 l ∧ IntsAt wu w2 l ∧ l.length ≤ 1000 := by
    have hm := (hA.both hB).2
    rcases hm with ⟨rfl, rfl⟩ | ⟨h1, h2⟩
    · exact ⟨[], ints_nil, ints_nil, by simp⟩
    · have h30 : n.toNat ≤ 30 ∨ (w1 = .slice none 0 0) := by
        rcases hA with ⟨_, _, h⟩ | ⟨_, _, h, _⟩ | ⟨h, _⟩
        · exact .inr h
        · exact .inr h
        · have := (fieldErr_ok h).1; exact .inl (by omega)
      rcases h30 with h30 | h30
      · exact ⟨_, h1.keep u, h2, hlen _ _ h30⟩
      · refine ⟨_, h1.keep u, h2, ?_⟩
        rw [h30] at h1
        have := h1.len
        rw [List.length_map] at this; omega
  obtain ⟨rfl, _⟩ := hA.both hB
  have ksu := ksy.trans u
  have kzu := kzy.trans u
  apply Run.by_eq
  · intro self
    conv => lhs; simp -implicitDefEqProofs (maxSteps := 300000) (disch := omega) [-getElem?_pos, -getElem?_neg]
  try (with_reducible refine Run.ret ?_)
  apply zz
  refine Cd.ra (h := ?_)
  apply Run.by_eq
  · intro self
    conv => lhs; simp -implicitDefEqProofs (maxSteps := 300000) (disch := omega) [-getElem?_pos, -getElem?_neg, u0, va]
  try (with_reducible refine Run.ret ?_)
  apply zz
  refine Run.call ((hrp _ (hs.keep ksu) (by omega)).mono fun v wp hv => ?_)
  obtain ⟨p, w3, w4, e3, rfl, hC⟩ := hv
  have pb := p.2
  have pa := p.1
  have p1 := (pb _ (by omega)).trans u1
  have kzp := kzu.trans p
  have hoC : oneV w3 = true ∧ oneV w4 = true := by
    rcases hC with ⟨_, _, rfl, rfl⟩ | ⟨_, _, ⟨rfl, rfl⟩, _⟩ | ⟨_, _, ⟨h, k⟩, _⟩
    · exact ⟨rfl, rfl⟩
    · exact ⟨rfl, rfl⟩
    · exact ⟨SlAt.one h, SlAt.one k⟩
  obtain ⟨hoC1, hoC2⟩ := hoC
  apply Run.by_eq
  · intro self
    conv => lhs; simp -implicitDefEqProofs (maxSteps := 300000) (disch := omega) [-getElem?_pos, -getElem?_neg]
  try (with_reducible refine Run.ret ?_)
  apply zz
  refine Cd.ra (h := ?_)
  apply Run.by_eq
  · intro self
    conv => lhs; simp -implicitDefEqProofs (maxSteps := 300000) (disch := omega) [-getElem?_pos, -getElem?_neg, p1, vb]
  try (with_reducible refine Run.ret ?_)
  apply zz
  refine Run.call ((hrr _ (hq.keep kzp) (by omega)).mono fun v wt hv => ?_)
  obtain ⟨t, w5, w6, e4, rfl, hD⟩ := hv
  have hoD : oneV w5 = true ∧ oneV w6 = true := by
    rcases hD with ⟨_, _, rfl, rfl⟩ | ⟨_, _, ⟨rfl, rfl⟩, _⟩ | ⟨_, _, ⟨h, k⟩, _⟩
    · exact ⟨rfl, rfl⟩
    · exact ⟨rfl, rfl⟩
    · exact ⟨SlAt.one h, SlAt.one k⟩
  obtain ⟨hoD1, hoD2⟩ := hoD
  obtain ⟨l2, l3, h3, h4, h5, h6, hll2, hll3⟩ : ∃ l l', IntsAt wt w3 l ∧ IntsAt wt w4 l' ∧ IntsAt wt w5 l ∧ IntsAt wt w6 l' ∧ l.length ≤ 1000 ∧ l'.length ≤ 1000 := by
    have hm := (hC.both hD).2
    rcases hm with ⟨⟨rfl, rfl⟩, rfl, rfl⟩ | ⟨⟨h1, h2⟩, h3, h4⟩
    · exact ⟨[], [], ints_nil, ints_nil, ints_nil, ints_nil, by simp, by simp⟩
    · have h30 : n.toNat ≤ 30 ∨ (w3 = .slice none 0 0 ∧ w4 = .slice none 0 0) := by
        rcases hC with ⟨_, _, h⟩ | ⟨_, _, h, _⟩ | ⟨h, _⟩
        · exact .inr h
        · exact .inr h
        · have := (fieldErr_ok h).1; exact .inl (by omega)
      rcases h30 with h30 | ⟨e5, e6⟩
      · exact ⟨_, _, h1.keep t, h2.keep t, h3, h4, hlen _ _ h30, hlen _ _ h30⟩
      · refine ⟨_, _, h1.keep t, h2.keep t, h3, h4, ?_, ?_⟩
        · rw [e5] at h1
          have := h1.len
          rw [List.length_map] at this; omega
        · rw [e6] at h2
          have := h2.len
          rw [List.length_map] at this; omega
  obtain ⟨rfl, _⟩ := hC.both hD
  have kut := p.trans t
  apply Run.by_eq
  · intro self
    conv => lhs; simp -implicitDefEqProofs (maxSteps := 300000) (disch := omega) [-getElem?_pos, -getElem?_neg]
  try (with_reducible refine Run.ret ?_)
  apply zz
  refine Cd.ra (h := ?_)
  apply Run.by_eq
  · intro self
    conv => lhs; simp -implicitDefEqProofs (maxSteps := 300000) (disch := omega) [-getElem?_pos, -getElem?_neg]
  try (with_reducible refine Run.ret ?_)
  apply zz
  refine Run.call ((numbers_ev _ _ _ _ _ (hl1.keep kut) (hl2.keep kut) (by omega) (by omega)).mono fun v wa hv => ?_)
  obtain ⟨rfl, ka⟩ := hv
  apply Run.by_eq
  · intro self
    conv => lhs; simp -implicitDefEqProofs (maxSteps := 300000) (disch := omega) [-getElem?_pos, -getElem?_neg]
  try (with_reducible refine Run.ret ?_)
  apply zz
  refine Run.call ((numbers_ev _ _ _ _ _ (h3.keep ka) (h5.keep ka) (by omega) (by omega)).mono fun v wb hv => ?_)
  obtain ⟨rfl, kb⟩ := hv
  apply Run.by_eq
  · intro self
    conv => lhs; simp -implicitDefEqProofs (maxSteps := 300000) (disch := omega) [-getElem?_pos, -getElem?_neg]
  try (with_reducible refine Run.ret ?_)
  apply zz
  refine Run.call ((numbers_ev _ _ _ _ _ (h4.keep (ka.trans kb)) (h6.keep (ka.trans kb)) (by omega) (by omega)).mono fun v wc hv => ?_)
  obtain ⟨rfl, kc⟩ := hv
  apply Run.by_eq
  · intro self
    conv => lhs; simp -implicitDefEqProofs (maxSteps := 300000) (disch := omega) [-getElem?_pos, -getElem?_neg]
  try (with_reducible refine Run.ret ?_)
  apply zz
  refine Run.call ((works_ev _).mono fun v wk hv => ?_)
  obtain ⟨rfl, hwk⟩ := hv
  apply Run.by_eq
  · intro self
    conv => lhs; simp -implicitDefEqProofs (maxSteps := 300000) (disch := omega) [-getElem?_pos, -getElem?_neg]
  try (with_reducible refine Run.ret ?_)
  apply zz
  apply Leave.mk (by first | exact .inl rfl | exact .inr rfl) (by simp only [Fr.marks_put, fr0_marks])
  · conv => lhs; simp -implicitDefEqProofs (disch := omega) [Try.results5]
  rfl
end Go.Proofs.Ytnhokodcmeekhaa
namespace Go.Proofs.Ytnhokodcmeekhaa
open Go Kern
/-! The law of cuts -/
end Go.Proofs.Ytnhokodcmeekhaa
namespace Go.Proofs.Ytnhokodcmeekhaa
open Go Kern
/-! The law of clashes -/
end Go.Proofs.Ytnhokodcmeekhaa
