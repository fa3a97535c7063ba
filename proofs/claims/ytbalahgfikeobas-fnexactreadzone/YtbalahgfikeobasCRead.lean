/- At every device and numbers impl.ReadZone answers as the model of chapter 2, and the arguments read afterwards as they read before: laws.FnExactReadZone, at every input. -/
import Derived.Test.YtbalahgfikeobasRows
import Derived.Test.YtbalahgfikeobasFrame
import Derived.Test.YtbalahgfikeobasZOpen
import Derived.Test.YtbalahgfikeobasSRead
import Derived.Test.YtbalahgfikeobasIRead
import Derived.Test.YtbalahgfikeobasLRead
namespace Go.Proofs.Ytbalahgfikeobas
set_option maxRecDepth 100000
open Go.ChangeShapes Go.WideShapes Go.ChangeAt Go.RowKit
theorem walk_Read (a : Option Addr) (cap : Nat) (zs : List Zn) (k f l : Int) (w : World) (hz : ∀ z ∈ zs, z.data.size ≤ 9223372036854775807) (hn0 : zs.length ≤ 9223372036854775807) (hZ : Zs w.heap.size a zs w) :
    Calls Try.prog 6 #[.agg #[.slice a zs.length cap], .int .i64 k, .int .i64 f, .int .i64 l] w fun e w' => e = .returned (.bool true) ∧ Below w.heap.size w w' := by
  refine law_Read a cap zs k f l w hz hn0 hZ fun hn _ => ?_
  by_cases h : there zs k
  · obtain ⟨n, rfl⟩ : ∃ n : Nat, k = n := ⟨k.toNat, by have := h.2.1; omega⟩
    have hk : n < zs.length := by have := h.2.2; omega
    by_cases hf : f < 0 ∨ (zs[n].data.size : Int) < f
    · exact ⟨⟨#[]⟩, false, fun a c v hv => read_out a c zs n f l v hv h hk hf, fun a c v hv => iread_out a c zs n f l v hv h hk hf⟩
    · have f0 : 0 ≤ f := by omega
      have f1 : f ≤ (zs[n].data.size : Int) := by omega
      by_cases hg : l < 0 ∨ (zs[n].data.size : Int) - f < l
      · exact ⟨⟨#[]⟩, false, fun a c v hv => read_long a c zs n f l v hv h hk f0 f1 hg, fun a c v hv => iread_long a c zs n f l v hv h hk f0 f1 hg⟩
      · obtain ⟨i, rfl⟩ : ∃ i : Nat, f = i := ⟨f.toNat, by omega⟩
        obtain ⟨j, rfl⟩ : ∃ j : Nat, l = j := ⟨l.toNat, by omega⟩
        have hfl : i + j ≤ zs[n].data.size := by omega
        exact ⟨zs[n].data.extract i (i + j), true, fun a c v hv => read_yes a c zs n i j v hv h hk hfl, fun a c v hv => iread_yes a c zs n i j v hv h hk hfl⟩
  · exact ⟨⟨#[]⟩, false, fun a c v hv => read_none a c zs k f l v hn hv h, fun a c v hv => iread_none a c zs k f l v hn hv h⟩
end Go.Proofs.Ytbalahgfikeobas
namespace Go.Proofs.Ytbalahgfikeobas.fnExactReadZone
open Go.ChangeShapes Go.WideShapes Go.ChangeAt Go.RowKit
open Go.ChangeMaps (open_string shut_string)
set_option maxRecDepth 100000
theorem own : ownKnob Try.prog.godebug = none := by kernel_rfl
theorem laidOut : laidOutB Try.prog = true := by kernel_rfl
theorem lifted (os : Os) (started : os.Started) (H : Type) (enc : TypeId × Value → H) :
    ReturnsInHanded {} Try.checked os 6 .any (Rows.fnExactReadZoneSpec.pre6 enc Try.prog Try.f6 Rows.fnExactReadZoneRow.domain false) (Rows.fnExactReadZoneSpec.post enc Try.prog Try.f6 false true false false) := by
  refine returnsInHanded_of_change (C := Try.checked) own started (by kernel_rfl) Try.func6
    (ChangeSpec.witness6 (enc := enc) (C := Try.checked) false ⟨#[], #[.agg #[.slice none 0 0], .int .i64 0, .int .i64 0, .int .i64 0], []⟩ 8 (by kernel_rfl) (by kernel_rfl) (by kernel_rfl) (by kernel_rfl)) ?_
  intro W base args ds gs before hval0 hW hcnd _
  have hval : ∀ (j : Nat) t v, Try.f6.params[j]? = some t → args[j]? = some v → Value.okWide Try.prog W .any base t v := hval0
  have hW' := hW
  obtain ⟨p, q, hA0, hV, rfl, hfz, hnd⟩ := hW
  have hA : DataW.TrodAll enc Try.prog W 0 (fun _ => true) true Try.f6.params.toList args.toList ds p := hA0
  rw [Try.params6] at hA hval
  obtain ⟨v0, vs0, d0, ds0, p0, q0, hargs, rfl, rfl, h0, r0⟩ := trodAll_cons hA
  obtain ⟨v1, vs1, d1, ds1, p1, q1, rfl, rfl, rfl, h1, r1⟩ := trodAll_cons r0
  obtain ⟨v2, vs2, d2, ds2, p2, q2, rfl, rfl, rfl, h2, r2⟩ := trodAll_cons r1
  obtain ⟨v3, vs3, d3, ds3, p3, q3, rfl, rfl, rfl, h3, r3⟩ := trodAll_cons r2
  obtain ⟨rfl, rfl, rfl⟩ := trodAll_nil r3
  obtain rfl : args = #[v0, v1, v2, v3] := by cases args; simp_all
  obtain ⟨rfl, rfl⟩ := trodVars_none hV
  obtain ⟨a0, c0, zs0, rfl, hZ0, hs0, hl0⟩ := device_of Try.underlying24 (by kernel_rfl) rfl (by kernel_rfl) Try.underlying22 Try.underlying62 (by kernel_rfl) rfl rfl rfl Try.underlying9 Try.underlying3 Try.underlying4 (by kernel_rfl) (by kernel_rfl) (by kernel_rfl) (hval 0 24 v0 rfl rfl) h0
  obtain ⟨a1, rfl, rfl, rfl, w1⟩ := open_int Try.underlying3 (hval 1 3 v1 rfl rfl) h1
  obtain ⟨a2, rfl, rfl, rfl, w2⟩ := open_int Try.underlying3 (hval 2 3 v2 rfl rfl) h2
  obtain ⟨a3, rfl, rfl, rfl, w3⟩ := open_int Try.underlying3 (hval 3 3 v3 rfl rfl) h3
  clear hA0 hval0
  refine (walk_Read a0 c0 zs0 a1 a2 a3 W hs0 hl0 hZ0).mono fun e W' ⟨he, hg⟩ => ?_
  subst he
  exact ⟨_, rfl, law_post laidOut (by kernel_rfl) (by kernel_rfl) rfl (trodAll_mk1 (shut_bool Try.underlying4 _)) hW' hg⟩
end Go.Proofs.Ytbalahgfikeobas.fnExactReadZone
namespace Go.Proofs.Ytbalahgfikeobas
open Go.ChangeShapes Go.WideShapes Go.ChangeAt Go.RowKit
theorem fnExactReadZone_said : Rows.FnExactReadZoneSaid :=
  OpenClaim.holds_of_wide 6 Try.f6 rfl rfl rfl rfl rfl rfl rfl ⟨rfl, rfl, rfl, rfl, rfl⟩ rfl rfl rfl rfl rfl (by kernel_rfl) Try.func6 (by kernel_rfl)
    (of_decide_eq_true (by kernel_rfl)) (by unfold Func.isWrapper; first | (rw [if_pos (by decide +kernel)]; kernel_rfl) | (rw [if_neg (by decide +kernel)]; exact ⟨rfl, rfl⟩))
    (fun os started H enc _ => fnExactReadZone.lifted os started H enc)
end Go.Proofs.Ytbalahgfikeobas
