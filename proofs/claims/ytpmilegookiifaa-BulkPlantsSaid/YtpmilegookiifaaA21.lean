/-
  The statement BulkPlants is true: for every text, plant and list of units the law returns true, and the arguments read as they did. Its conditions: none but the row's own. The self-check is calculated by the kernel; the rest is a calculated run on unknown data, carried to the model by its soundness.
-/
import Derived.Test.YtpmilegookiifaaA20
namespace Go.Proofs.Ytpmilegookiifaa
open Go Kern RowKit Go.ChangeShapes Go.WideShapes Go.ChangeAt
open Go.ChangeMaps (open_string)
theorem Try.own : ownKnob Try.prog.godebug = none := by kernel_rfl
theorem laidB : laidOutB Try.prog = true := by kernel_rfl
theorem again_of {H : Type} {enc : TypeId × Value → H} {t : TypeId} {W W' : World} {v : Value} {d : DataW H} {p : List MemPlace} (hr : Try.prog.readableRec t = true) (ht : t < Try.prog.types.size)
    (h : DataW.Trod enc Try.prog W 0 (fun _ => true) true t v d p) (hb : Below W.heap.size W W') : DataW.Trod enc Try.prog W' 0 (fun b => decide (b < W.heap.size)) true t v d p :=
  Below.trod laidB hr ht h hb (DataW.TrodAll.lt (trodAll_mk1 h))
set_option maxRecDepth 100000 in
theorem plants_lifted (os : Os) (started : os.Started) (H : Type) (enc : TypeId × Value → H) :
    ReturnsInHanded {} Try.checked os 3 .any (Rows.bulkPlantsSpec.pre6 enc Try.prog Try.f3 Rows.bulkPlantsRow.domain false) (Rows.bulkPlantsSpec.post enc Try.prog Try.f3 false true false false) := by
  refine returnsInHanded_of_change (C := Try.checked) Try.own started (by kernel_rfl) Try.func3
    (ChangeSpec.witness6 (enc := enc) (C := Try.checked) false ⟨#[], #[.string ⟨#[]⟩, .agg #[.int .i64 0, .slice none 0 0], .slice none 0 0], []⟩ 8 (by kernel_rfl) (by kernel_rfl) (by kernel_rfl) (by kernel_rfl)) ?_
  intro W base args ds gs before hval hW hcnd _
  have hW' := hW
  obtain ⟨p, q, hA0, hV, rfl, hfz, hnd⟩ := hW
  have hA : DataW.TrodAll enc Try.prog W 0 (fun _ => true) true Try.f3.params.toList args.toList ds p := hA0
  rw [Try.params3] at hA
  obtain ⟨v0, v1, v2, d0, d1, d2, p0, p1, p2, rfl, rfl, rfl, h0, h1, h2⟩ := trodAll_three hA
  obtain ⟨rfl, rfl⟩ := trodVars_none hV
  have h0k := h0
  obtain ⟨s, rfl, rfl, rfl, hs⟩ := open_string un9 (hval 0 9 v0 rfl rfl) h0
  obtain ⟨u, fl, fs, rfl, hf⟩ := plant_of (hval 1 24 v1 rfl rfl) h1
  obtain ⟨xs, hx⟩ := ints_of (hval 2 25 v2 rfl rfl) h2
  refine (law_calls s u fl v2 fs xs W hf hx).mono fun e W' ⟨he, hb⟩ => ?_
  subst he
  exact ⟨_, rfl, [_, _, _], [], _, [], _, [], hW', trodAll_mk1 (shut_bool Try.underlying4 _), trodAll_mk3 (again_of (by kernel_rfl) (of_decide_eq_true (by kernel_rfl)) h0k hb) (again_of (by kernel_rfl) (of_decide_eq_true (by kernel_rfl)) h1 hb) (again_of (by kernel_rfl) (of_decide_eq_true (by kernel_rfl)) h2 hb), rfl, hb.frame _, fun h => by cases h⟩

theorem plants_holds : Rows.BulkPlantsSaid :=
  OpenClaim.holds_of_wide 3 Try.f3 rfl rfl rfl rfl rfl rfl rfl ⟨rfl, rfl, rfl, rfl, rfl⟩ rfl rfl rfl rfl rfl (by kernel_rfl) Try.func3 (by kernel_rfl)
    (of_decide_eq_true (by kernel_rfl)) (by unfold Func.isWrapper; first | (rw [if_pos (by decide +kernel)]; kernel_rfl) | (rw [if_neg (by decide +kernel)]; exact ⟨rfl, rfl⟩))
    (fun os started H enc _ => plants_lifted os started H enc)
end Go.Proofs.Ytpmilegookiifaa
