/- At every device and numbers impl.CrashDevice answers as the model of chapter 2, field by field, in memory of its own, and the arguments read afterwards as they read before: laws.FnExactCrashDevice, at every input. -/
import Derived.Test.YtbalahgfikeobasRows
import Derived.Test.YtbalahgfikeobasFrame
import Derived.Test.YtbalahgfikeobasZOpen
import Derived.Test.YtbalahgfikeobasSCrash
import Derived.Test.YtbalahgfikeobasICrash
import Derived.Test.YtbalahgfikeobasLCrash
namespace Go.Proofs.Ytbalahgfikeobas
set_option maxRecDepth 100000
open Go.ChangeShapes Go.WideShapes Go.ChangeAt Go.RowKit
theorem ints_of {H : Type} {enc : TypeId × Value → H} {P : Program} {W : World} {r : Reach} {b0 : Nat} {t e : TypeId} {v : Value} {d : DataW H} {ps : List MemPlace}
    (ht : P.underlying t = some (.slice e)) (he : P.underlying e = some (.int .i64)) (hc : P.cellsOf e = 1)
    (hval : Value.okWide P W r b0 t v) (h : DataW.Trod enc P W 0 (fun _ => true) true t v d ps) :
    ∃ (a : Option Addr) (cap : Nat) (l : List Int), v = .slice a l.length cap ∧ Is W.heap.size a l W ∧ l.length ≤ 9223372036854775807 := by
  obtain ⟨a, len, cap, rfl⟩ := okWide_slice ht hval
  obtain ⟨fuel, hf⟩ := h
  have hf' : DataW.trod enc P W 0 (fun _ => true) true fuel t [.slice a len cap] = some (d, ps) := hf
  obtain ⟨rows, hlen, hgs, hrows, hmax⟩ := gsl_of ht hc (by decide) hf'
  obtain ⟨l, rfl, _⟩ := list_of (f := icell) (Q := fun _ => True) rows (fun r hr => by
    obtain ⟨n, x, hx⟩ := hrows r hr
    obtain ⟨m, hm, _⟩ := DataW.trod_int he hx
    exact ⟨m, hm, trivial⟩)
  have hlen' : l.length = len := by simpa using hlen
  subst hlen'
  have e2 : maxLen = 9223372036854775807 := by decide
  rw [e2] at hmax
  exact ⟨a, cap, l, rfl, hgs, hmax⟩
theorem tells_crash {f : Nat} {zs V : List Zn} {ks : List Int} {gd : Bool} (hVl : V.length = zs.length)
    (h : ∀ (a : Option Addr) (cap : Nat) (ka : Option Addr) (kc : Nat) (w : World), Zs w.heap.size a zs w → Is w.heap.size ka ks w → Calls Try.prog f #[.agg #[.slice a zs.length cap], .slice ka ks.length kc] w fun e w' => (∃ b c, if gd = true then e = .returned (.tuple #[.agg #[.slice b zs.length c], .bool true]) ∧ Own w.heap.size w'.heap.size b V w' else e = .returned (.tuple #[.agg #[.slice none 0 0], .bool false])) ∧ Below w.heap.size w w') :
    TellsCrash f zs ks (if gd = true then V else []) gd := fun a cap ka kc w hw hi => by
  refine (h a cap ka kc w hw hi).mono ?_
  rintro e w' ⟨⟨b, c, hbc⟩, hb⟩
  cases gd
  · rw [if_neg (by decide)] at hbc
    subst hbc
    exact ⟨none, 0, rfl, Or.inl rfl, hb⟩
  · rw [if_pos rfl] at hbc
    obtain ⟨rfl, ho⟩ := hbc
    exact ⟨b, c, by rw [if_pos rfl, hVl], ho, hb⟩
theorem walk_Crash (a : Option Addr) (cap : Nat) (zs : List Zn) (ka : Option Addr) (kc : Nat) (ks : List Int) (w : World) (hz : ∀ z ∈ zs, z.data.size ≤ 9223372036854775807) (hn0 : zs.length ≤ 9223372036854775807) (hZ : Zs w.heap.size a zs w) (hk0 : ks.length ≤ 9223372036854775807) (hI : Is w.heap.size ka ks w) :
    Calls Try.prog 5 #[.agg #[.slice a zs.length cap], .slice ka ks.length kc] w fun e w' => e = .returned (.bool true) ∧ Below w.heap.size w w' := by
  by_cases hks : ks.length ≤ 1048576
  case neg =>
    have hsd : decide ((1048576 : Int) < (ks.length : Int)) = true := by simp; omega
    go_enter Try.func5, Try.ntmps5
    go_wp2
    go_ret
    exact ⟨rfl, (Below.refl _ _).alloc (Nat.le_refl _) _⟩
  refine law_Crash a cap zs ka kc ks w hz hn0 hZ hks hI fun hn _ => ?_
  by_cases h : goodD zs = true ∧ ks.length = zs.length
  · have hVl := crashV_len zs ks
    refine ⟨_, okL zs ks && goodD (crashV zs ks), ?_, tells_crash hVl (fun a c ka kc v hv hi => crash_go a ka c kc zs ks _ v hv hi h.1 h.2 rfl), tells_crash hVl (fun a c ka kc v hv hi => icrash_go a ka c kc zs ks _ v hv hi h.1 h.2 rfl)⟩
    split
    · rw [hVl]; exact hn
    · simp
  · refine ⟨[], false, by simp, fun a c ka kc v hv _ => (crash_no a ka c kc zs ks v hn hv h).mono ?_, fun a c ka kc v hv _ => (icrash_no a ka c kc zs ks v hn hv h).mono ?_⟩
    all_goals
      rintro e w' ⟨rfl, hb⟩
      exact ⟨none, 0, rfl, Or.inl rfl, hb⟩
end Go.Proofs.Ytbalahgfikeobas
namespace Go.Proofs.Ytbalahgfikeobas.fnExactCrashDevice
open Go.ChangeShapes Go.WideShapes Go.ChangeAt Go.RowKit
open Go.ChangeMaps (open_string shut_string)
set_option maxRecDepth 100000
theorem own : ownKnob Try.prog.godebug = none := by kernel_rfl
theorem laidOut : laidOutB Try.prog = true := by kernel_rfl
theorem lifted (os : Os) (started : os.Started) (H : Type) (enc : TypeId × Value → H) :
    ReturnsInHanded {} Try.checked os 5 .any (Rows.fnExactCrashDeviceSpec.pre6 enc Try.prog Try.f5 Rows.fnExactCrashDeviceRow.domain false) (Rows.fnExactCrashDeviceSpec.post enc Try.prog Try.f5 false true false false) := by
  refine returnsInHanded_of_change (C := Try.checked) own started (by kernel_rfl) Try.func5
    (ChangeSpec.witness6 (enc := enc) (C := Try.checked) false ⟨#[], #[.agg #[.slice none 0 0], .slice none 0 0], []⟩ 8 (by kernel_rfl) (by kernel_rfl) (by kernel_rfl) (by kernel_rfl)) ?_
  intro W base args ds gs before hval0 hW hcnd _
  have hval : ∀ (j : Nat) t v, Try.f5.params[j]? = some t → args[j]? = some v → Value.okWide Try.prog W .any base t v := hval0
  have hW' := hW
  obtain ⟨p, q, hA0, hV, rfl, hfz, hnd⟩ := hW
  have hA : DataW.TrodAll enc Try.prog W 0 (fun _ => true) true Try.f5.params.toList args.toList ds p := hA0
  rw [Try.params5] at hA hval
  obtain ⟨v0, vs0, d0, ds0, p0, q0, hargs, rfl, rfl, h0, r0⟩ := trodAll_cons hA
  obtain ⟨v1, vs1, d1, ds1, p1, q1, rfl, rfl, rfl, h1, r1⟩ := trodAll_cons r0
  obtain ⟨rfl, rfl, rfl⟩ := trodAll_nil r1
  obtain rfl : args = #[v0, v1] := by cases args; simp_all
  obtain ⟨rfl, rfl⟩ := trodVars_none hV
  obtain ⟨a0, c0, zs0, rfl, hZ0, hs0, hl0⟩ := device_of Try.underlying24 (by kernel_rfl) rfl (by kernel_rfl) Try.underlying22 Try.underlying62 (by kernel_rfl) rfl rfl rfl Try.underlying9 Try.underlying3 Try.underlying4 (by kernel_rfl) (by kernel_rfl) (by kernel_rfl) (hval 0 24 v0 rfl rfl) h0
  obtain ⟨a1, c1, zs1, rfl, hZ1, hl1⟩ := ints_of Try.underlying37 Try.underlying3 (by kernel_rfl) (hval 1 37 v1 rfl rfl) h1
  clear hA0 hval0
  refine (walk_Crash a0 c0 zs0 a1 c1 zs1 W hs0 hl0 hZ0 hl1 hZ1).mono fun e W' ⟨he, hg⟩ => ?_
  subst he
  exact ⟨_, rfl, law_post laidOut (by kernel_rfl) (by kernel_rfl) rfl (trodAll_mk1 (shut_bool Try.underlying4 _)) hW' hg⟩
end Go.Proofs.Ytbalahgfikeobas.fnExactCrashDevice
namespace Go.Proofs.Ytbalahgfikeobas
open Go.ChangeShapes Go.WideShapes Go.ChangeAt Go.RowKit
theorem fnExactCrashDevice_said : Rows.FnExactCrashDeviceSaid :=
  OpenClaim.holds_of_wide 5 Try.f5 rfl rfl rfl rfl rfl rfl rfl ⟨rfl, rfl, rfl, rfl, rfl⟩ rfl rfl rfl rfl rfl (by kernel_rfl) Try.func5 (by kernel_rfl)
    (of_decide_eq_true (by kernel_rfl)) (by unfold Func.isWrapper; first | (rw [if_pos (by decide +kernel)]; kernel_rfl) | (rw [if_neg (by decide +kernel)]; exact ⟨rfl, rfl⟩))
    (fun os started H enc _ => fnExactCrashDevice.lifted os started H enc)
end Go.Proofs.Ytbalahgfikeobas
