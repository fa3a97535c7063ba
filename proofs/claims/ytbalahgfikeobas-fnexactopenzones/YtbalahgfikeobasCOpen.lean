/- At every device impl.OpenZones answers as the model of chapter 2, in memory of its own, and the argument reads afterwards as it read before: laws.FnExactOpenZones, at every input. -/
import Derived.Test.YtbalahgfikeobasRows
import Derived.Test.YtbalahgfikeobasFrame
import Derived.Test.YtbalahgfikeobasZOpen
import Derived.Test.YtbalahgfikeobasSOpen
import Derived.Test.YtbalahgfikeobasIOpen
import Derived.Test.YtbalahgfikeobasLOpen
namespace Go.Proofs.Ytbalahgfikeobas
set_option maxRecDepth 100000
open Go.ChangeShapes Go.WideShapes Go.ChangeAt Go.RowKit
theorem ivals_flat (l : List Int) : (l.map icell).flatten = ivals l := by
  induction l with
  | nil => rfl
  | cons x l ih => rw [List.map_cons, List.flatten_cons, ih]; rfl
theorem own_ints {w w' : World} {v : Value} {l : List Int} (h : w'.ownsRow w.heap.size 3 1 v l.length (ivals l)) : ∃ b c, v = .slice b l.length c ∧ OwnI w.heap.size w'.heap.size b l w' := by
  by_cases hv : v = .slice none 0 0
  · have h0 : l.length = 0 := by
      rcases h.2 with ⟨_, h0⟩ | ⟨g, cap, cur, e, _⟩
      · exact h0
      · rw [hv] at e; cases e
    exact ⟨none, 0, by rw [hv, h0], Or.inl (List.eq_nil_of_length_eq_zero h0)⟩
  · rw [← ivals_flat] at h
    obtain ⟨R, cap, e, hR, hrow⟩ := GRow.ofOwns (rows := l.map icell) (fun i hi => by rw [List.getElem_map]; rfl) h (by simp) hv
    exact ⟨some ⟨R, 0, none⟩, cap, e, Or.inr ⟨R, hR, GRow.lt hrow, rfl, hrow⟩⟩
theorem walk_Open (a : Option Addr) (cap : Nat) (zs : List Zn) (w : World) (hz : ∀ z ∈ zs, z.data.size ≤ 9223372036854775807) (hn0 : zs.length ≤ 9223372036854775807) (hZ : Zs w.heap.size a zs w) :
    Calls Try.prog 7 #[.agg #[.slice a zs.length cap]] w fun e w' => e = .returned (.bool true) ∧ Below w.heap.size w w' := by
  refine law_Open a cap zs w hz hn0 hZ fun hn _ => ?_
  cases h : goodD zs
  · refine ⟨[], false, by simp, fun a c v hv => (open_no a c zs v hn hv h).mono ?_, fun a c v hv => (iopen_no a c zs v hn hv h).mono ?_⟩
    all_goals
      rintro e w' ⟨rfl, hb⟩
      exact ⟨none, 0, rfl, Or.inl rfl, hb⟩
  · refine ⟨opens zs zs.length, true, Nat.le_trans (opens_len _ _) hn, fun a c v hv => (open_yes a c zs v hv h).mono ?_, fun a c v hv => (iopen_yes a c zs v hv h).mono ?_⟩
    all_goals
      rintro e w' ⟨x, rfl, hown, hb⟩
      obtain ⟨b, c, rfl, ho⟩ := own_ints hown
      exact ⟨b, c, rfl, ho, hb⟩
end Go.Proofs.Ytbalahgfikeobas
namespace Go.Proofs.Ytbalahgfikeobas.fnExactOpenZones
open Go.ChangeShapes Go.WideShapes Go.ChangeAt Go.RowKit
open Go.ChangeMaps (open_string shut_string)
set_option maxRecDepth 100000
theorem own : ownKnob Try.prog.godebug = none := by kernel_rfl
theorem laidOut : laidOutB Try.prog = true := by kernel_rfl
theorem lifted (os : Os) (started : os.Started) (H : Type) (enc : TypeId × Value → H) :
    ReturnsInHanded {} Try.checked os 7 .any (Rows.fnExactOpenZonesSpec.pre6 enc Try.prog Try.f7 Rows.fnExactOpenZonesRow.domain false) (Rows.fnExactOpenZonesSpec.post enc Try.prog Try.f7 false true false false) := by
  refine returnsInHanded_of_change (C := Try.checked) own started (by kernel_rfl) Try.func7
    (ChangeSpec.witness6 (enc := enc) (C := Try.checked) false ⟨#[], #[.agg #[.slice none 0 0]], []⟩ 8 (by kernel_rfl) (by kernel_rfl) (by kernel_rfl) (by kernel_rfl)) ?_
  intro W base args ds gs before hval0 hW hcnd _
  have hval : ∀ (j : Nat) t v, Try.f7.params[j]? = some t → args[j]? = some v → Value.okWide Try.prog W .any base t v := hval0
  have hW' := hW
  obtain ⟨p, q, hA0, hV, rfl, hfz, hnd⟩ := hW
  have hA : DataW.TrodAll enc Try.prog W 0 (fun _ => true) true Try.f7.params.toList args.toList ds p := hA0
  rw [Try.params7] at hA hval
  obtain ⟨v0, vs0, d0, ds0, p0, q0, hargs, rfl, rfl, h0, r0⟩ := trodAll_cons hA
  obtain ⟨rfl, rfl, rfl⟩ := trodAll_nil r0
  obtain rfl : args = #[v0] := by cases args; simp_all
  obtain ⟨rfl, rfl⟩ := trodVars_none hV
  obtain ⟨a0, c0, zs0, rfl, hZ0, hs0, hl0⟩ := device_of Try.underlying24 (by kernel_rfl) rfl (by kernel_rfl) Try.underlying22 Try.underlying62 (by kernel_rfl) rfl rfl rfl Try.underlying9 Try.underlying3 Try.underlying4 (by kernel_rfl) (by kernel_rfl) (by kernel_rfl) (hval 0 24 v0 rfl rfl) h0
  clear hA0 hval0
  refine (walk_Open a0 c0 zs0 W hs0 hl0 hZ0).mono fun e W' ⟨he, hg⟩ => ?_
  subst he
  exact ⟨_, rfl, law_post laidOut (by kernel_rfl) (by kernel_rfl) rfl (trodAll_mk1 (shut_bool Try.underlying4 _)) hW' hg⟩
end Go.Proofs.Ytbalahgfikeobas.fnExactOpenZones
namespace Go.Proofs.Ytbalahgfikeobas
open Go.ChangeShapes Go.WideShapes Go.ChangeAt Go.RowKit
theorem fnExactOpenZones_said : Rows.FnExactOpenZonesSaid :=
  OpenClaim.holds_of_wide 7 Try.f7 rfl rfl rfl rfl rfl rfl rfl ⟨rfl, rfl, rfl, rfl, rfl⟩ rfl rfl rfl rfl rfl (by kernel_rfl) Try.func7 (by kernel_rfl)
    (of_decide_eq_true (by kernel_rfl)) (by unfold Func.isWrapper; first | (rw [if_pos (by decide +kernel)]; kernel_rfl) | (rw [if_neg (by decide +kernel)]; exact ⟨rfl, rfl⟩))
    (fun os started H enc _ => fnExactOpenZones.lifted os started H enc)
end Go.Proofs.Ytbalahgfikeobas
