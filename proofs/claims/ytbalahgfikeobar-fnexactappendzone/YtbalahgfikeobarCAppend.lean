/- At every device, number and text impl.AppendZone answers as the model of chapter 2, field by field, in memory of its own, and the arguments read afterwards as they read before: laws.FnExactAppendZone, at every input. -/
import Derived.Test.YtbalahgfikeobarRows
import Derived.Test.YtbalahgfikeobarFrame
import Derived.Test.YtbalahgfikeobarZOpen
import Derived.Test.YtbalahgfikeobarSAppend
import Derived.Test.YtbalahgfikeobarIAppend
import Derived.Test.YtbalahgfikeobarLAppend
namespace Go.Proofs.Ytbalahgfikeobar
set_option maxRecDepth 100000
open Go.ChangeShapes Go.WideShapes Go.ChangeAt Go.RowKit
theorem tells_go {f : Nat} {zs V : List Zn} {gd : Bool} {k : Int} {s : ByteArray} {p : Int} (hVl : V.length = zs.length)
    (h : ∀ (a : Option Addr) (cap : Nat) (w : World), Zs w.heap.size a zs w → Calls Try.prog f #[.agg #[.slice a zs.length cap], .int .i64 k, .string s] w fun e w' => (∃ b c, if gd = true then e = .returned (.tuple #[.agg #[.slice b zs.length c], .int .i64 p, .bool true]) ∧ Own w.heap.size w'.heap.size b V w' else e = .returned (.tuple #[.agg #[.slice none 0 0], .int .i64 0, .bool false])) ∧ Below w.heap.size w w') :
    TellsAppend f zs k s (if gd = true then V else []) (if gd = true then p else 0) gd := fun a cap w hw => by
  refine (h a cap w hw).mono ?_
  rintro e w' ⟨⟨b, c, hbc⟩, hb⟩
  cases gd
  · rw [if_neg (by decide)] at hbc
    subst hbc
    exact ⟨none, 0, rfl, Or.inl rfl, hb⟩
  · rw [if_pos rfl] at hbc
    obtain ⟨rfl, ho⟩ := hbc
    exact ⟨b, c, by rw [if_pos rfl, if_pos rfl, hVl], ho, hb⟩
theorem walk_Append (a : Option Addr) (cap : Nat) (zs : List Zn) (k : Int) (s : ByteArray) (w : World) (hz : ∀ z ∈ zs, z.data.size ≤ 9223372036854775807) (hn0 : zs.length ≤ 9223372036854775807) (hZ : Zs w.heap.size a zs w) (hs0 : s.size ≤ maxLen) :
    Calls Try.prog 6 #[.agg #[.slice a zs.length cap], .int .i64 k, .string s] w fun e w' => e = .returned (.bool true) ∧ Below w.heap.size w w' := by
  by_cases hs : s.size ≤ 1048576
  case neg =>
    have e : maxLen = 9223372036854775807 := by decide
    rw [e] at hs0
    have hsd : decide ((1048576 : Int) < (s.size : Int)) = true := by simp; omega
    go_enter Try.func6, Try.ntmps6
    go_wp2
    go_ret
    exact ⟨rfl, (Below.refl _ _).alloc (Nat.le_refl _) _⟩
  refine law_Append a cap zs k s w hz hn0 hZ hs fun hn _ => ?_
  by_cases h : there zs k
  · obtain ⟨n, rfl⟩ : ∃ n : Nat, k = n := ⟨k.toNat, by have := h.2.1; omega⟩
    have hk : n < zs.length := by have := h.2.2; omega
    by_cases hbad : zs[n].full = true ∨ s.size < 1 ∨ 20 < s.size
    · refine ⟨[], 0, false, by simp, fun a c v hv => (append_bad a c zs n s v hv h hk hs (by rcases hbad with h | h | h <;> simp [h])).mono ?_, fun a c v hv => (iappend_bad a c zs n s v hv h hk hs hbad).mono ?_⟩
      all_goals
        rintro e w' ⟨rfl, hb⟩
        exact ⟨none, 0, rfl, Or.inl rfl, hb⟩
    · have hfull : zs[n].full = false := by
        cases hq : zs[n].full
        · rfl
        · exact absurd (Or.inl hq) hbad
      have h1 : 1 ≤ s.size := by omega
      have h2 : s.size ≤ 20 := by omega
      have hVl : (zs.set n (appZ zs[n] s)).length = zs.length := List.length_set
      refine ⟨_, _, goodD (zs.set n (appZ zs[n] s)), ?_, ?_, tells_go hVl (fun a c v hv => iappend_go a c zs _ _ n s v hv h hk h1 h2 hfull rfl rfl)⟩
      · split
        · rw [hVl]; exact hn
        · simp
      · by_cases hroom : zs[n].data.size + s.size ≤ 60
        · exact tells_go hVl (fun a c v hv => append_go a c zs _ _ n s v hv h hk h1 h2 hfull hroom rfl rfl)
        · rw [app_room hk s (by omega)]
          intro a c v hv
          refine (append_bad a c zs n s v hv h hk hs (Or.inr (Or.inr (Or.inr (by omega))))).mono ?_
          rintro e w' ⟨rfl, hb⟩
          exact ⟨none, 0, rfl, Or.inl rfl, hb⟩
  · refine ⟨[], 0, false, by simp, fun a c v hv => (append_none a c zs k s v hn hv h).mono ?_, fun a c v hv => (iappend_none a c zs k s v hn hv h).mono ?_⟩
    all_goals
      rintro e w' ⟨rfl, hb⟩
      exact ⟨none, 0, rfl, Or.inl rfl, hb⟩
end Go.Proofs.Ytbalahgfikeobar
namespace Go.Proofs.Ytbalahgfikeobar.fnExactAppendZone
open Go.ChangeShapes Go.WideShapes Go.ChangeAt Go.RowKit
open Go.ChangeMaps (open_string shut_string)
set_option maxRecDepth 100000
theorem own : ownKnob Try.prog.godebug = none := by kernel_rfl
theorem laidOut : laidOutB Try.prog = true := by kernel_rfl
theorem lifted (os : Os) (started : os.Started) (H : Type) (enc : TypeId × Value → H) :
    ReturnsInHanded {} Try.checked os 6 .any (Rows.fnExactAppendZoneSpec.pre6 enc Try.prog Try.f6 Rows.fnExactAppendZoneRow.domain false) (Rows.fnExactAppendZoneSpec.post enc Try.prog Try.f6 false true false false) := by
  refine returnsInHanded_of_change (C := Try.checked) own started (by kernel_rfl) Try.func6
    (ChangeSpec.witness6 (enc := enc) (C := Try.checked) false ⟨#[], #[.agg #[.slice none 0 0], .int .i64 0, .string ByteArray.empty], []⟩ 8 (by kernel_rfl) (by kernel_rfl) (by kernel_rfl) (by kernel_rfl)) ?_
  intro W base args ds gs before hval0 hW hcnd _
  have hval : ∀ (j : Nat) t v, Try.f6.params[j]? = some t → args[j]? = some v → Value.okWide Try.prog W .any base t v := hval0
  have hW' := hW
  obtain ⟨p, q, hA0, hV, rfl, hfz, hnd⟩ := hW
  have hA : DataW.TrodAll enc Try.prog W 0 (fun _ => true) true Try.f6.params.toList args.toList ds p := hA0
  rw [Try.params6] at hA hval
  obtain ⟨v0, vs0, d0, ds0, p0, q0, hargs, rfl, rfl, h0, r0⟩ := trodAll_cons hA
  obtain ⟨v1, vs1, d1, ds1, p1, q1, rfl, rfl, rfl, h1, r1⟩ := trodAll_cons r0
  obtain ⟨v2, vs2, d2, ds2, p2, q2, rfl, rfl, rfl, h2, r2⟩ := trodAll_cons r1
  obtain ⟨rfl, rfl, rfl⟩ := trodAll_nil r2
  obtain rfl : args = #[v0, v1, v2] := by cases args; simp_all
  obtain ⟨rfl, rfl⟩ := trodVars_none hV
  obtain ⟨a0, c0, zs0, rfl, hZ0, hs0, hl0⟩ := device_of Try.underlying35 (by kernel_rfl) rfl (by kernel_rfl) Try.underlying33 Try.underlying61 (by kernel_rfl) rfl rfl rfl Try.underlying9 Try.underlying3 Try.underlying4 (by kernel_rfl) (by kernel_rfl) (by kernel_rfl) (hval 0 35 v0 rfl rfl) h0
  obtain ⟨a1, rfl, rfl, rfl, w1⟩ := open_int Try.underlying3 (hval 1 3 v1 rfl rfl) h1
  obtain ⟨a2, rfl, rfl, rfl, w2⟩ := open_string Try.underlying9 (hval 2 9 v2 rfl rfl) h2
  clear hA0 hval0
  refine (walk_Append a0 c0 zs0 a1 a2 W hs0 hl0 hZ0 w2).mono fun e W' ⟨he, hg⟩ => ?_
  subst he
  exact ⟨_, rfl, law_post laidOut (by kernel_rfl) (by kernel_rfl) rfl (trodAll_mk1 (shut_bool Try.underlying4 _)) hW' hg⟩
end Go.Proofs.Ytbalahgfikeobar.fnExactAppendZone
namespace Go.Proofs.Ytbalahgfikeobar
open Go.ChangeShapes Go.WideShapes Go.ChangeAt Go.RowKit
theorem fnExactAppendZone_said : Rows.FnExactAppendZoneSaid :=
  OpenClaim.holds_of_wide 6 Try.f6 rfl rfl rfl rfl rfl rfl rfl ⟨rfl, rfl, rfl, rfl, rfl⟩ rfl rfl rfl rfl rfl (by kernel_rfl) Try.func6 (by kernel_rfl)
    (of_decide_eq_true (by kernel_rfl)) (by unfold Func.isWrapper; first | (rw [if_pos (by decide +kernel)]; kernel_rfl) | (rw [if_neg (by decide +kernel)]; exact ⟨rfl, rfl⟩))
    (fun os started H enc _ => fnExactAppendZone.lifted os started H enc)
end Go.Proofs.Ytbalahgfikeobar
