/- What the model's and the program's functions tell of a device, in one form for both. -/
import Derived.Test.YteofdaecknlkdaaSFinish
import Derived.Test.YteofdaecknlkdaaIFinish
import Derived.Test.YteofdaecknlkdaaSReset
import Derived.Test.YteofdaecknlkdaaIReset
import Derived.Test.YteofdaecknlkdaaSFlush
import Derived.Test.YteofdaecknlkdaaIFlush
import Derived.Test.YteofdaecknlkdaaSAppend
import Derived.Test.YteofdaecknlkdaaIAppend
import Derived.Test.YteofdaecknlkdaaSNew
namespace Go.Proofs.Yteofdaecknlkdaa
set_option maxRecDepth 100000
open Go.ChangeShapes Go.WideShapes Go.ChangeAt Go.RowKit
/-- function f answers V and ok of zones zs and a number, in memory of its own -/
def TellsK (f : Nat) (zs : List Zn) (k : Int) (V : List Zn) (ok : Bool) : Prop := ∀ (a : Option Addr) (cap : Nat) (w : World), Zs w.heap.size a zs w →
  Calls Try.prog f #[.agg #[.slice a zs.length cap], .int .i64 k] w fun e w' => ∃ b c, e = .returned (.tuple #[.agg #[.slice b V.length c], .bool ok]) ∧ Own w.heap.size w'.heap.size b V w' ∧ Below w.heap.size w w'
/-- function f answers V and ok of zones zs, in memory of its own -/
def Tells0 (f : Nat) (zs : List Zn) (V : List Zn) (ok : Bool) : Prop := ∀ (a : Option Addr) (cap : Nat) (w : World), Zs w.heap.size a zs w →
  Calls Try.prog f #[.agg #[.slice a zs.length cap]] w fun e w' => ∃ b c, e = .returned (.tuple #[.agg #[.slice b V.length c], .bool ok]) ∧ Own w.heap.size w'.heap.size b V w' ∧ Below w.heap.size w w'
/-- function f answers V, a place and ok of zones zs, a number and a text, in memory of its own -/
def TellsA (f : Nat) (zs : List Zn) (k : Int) (s : ByteArray) (V : List Zn) (p : Int) (ok : Bool) : Prop := ∀ (a : Option Addr) (cap : Nat) (w : World), Zs w.heap.size a zs w →
  Calls Try.prog f #[.agg #[.slice a zs.length cap], .int .i64 k, .string s] w fun e w' => ∃ b c, e = .returned (.tuple #[.agg #[.slice b V.length c], .int .i64 p, .bool ok]) ∧ Own w.heap.size w'.heap.size b V w' ∧ Below w.heap.size w w'
theorem finish_tells (zs : List Zn) (k : Int) (hn : zs.length ≤ 1048576) : ∃ (V : List Zn) (ok : Bool), TellsK 15 zs k V ok ∧ TellsK 14 zs k V ok ∧ (ok = false → V = []) ∧
    (ok = true → there zs k ∧ ∃ (n : Nat) (hk : n < zs.length), k = n ∧ openZ zs[n] = true ∧ V = zs.set n ⟨zs[n].data, zs[n].sure, true⟩) := by
  by_cases h : there zs k ∧ ∃ (n : Nat) (hk : n < zs.length), k = n ∧ openZ zs[n] = true
  · obtain ⟨ht, n, hk, rfl, ho⟩ := h
    refine ⟨zs.set n ⟨zs[n].data, zs[n].sure, true⟩, true, fun a c v hv => (finish_yes a c zs n v hv ht hk ho).mono ?_, fun a c v hv => (ifinish_yes a c zs n v hv ht hk ho).mono ?_, fun h => (by cases h), fun _ => ⟨ht, n, hk, rfl, ho, rfl⟩⟩
    all_goals
      rintro e w' ⟨R, c, hR, rfl, hrow, hb⟩
      exact ⟨_, c, by rw [List.length_set], Or.inr ⟨R, hR, hrow.lt, rfl, hrow⟩, hb⟩
  · refine ⟨[], false, fun a c v hv => (finish_no a c zs k v hn hv h).mono ?_, fun a c v hv => (ifinish_no a c zs k v hn hv h).mono ?_, fun _ => rfl, fun h => (by cases h)⟩
    all_goals
      rintro e w' ⟨rfl, hb⟩
      exact ⟨none, 0, rfl, Or.inl rfl, hb⟩
theorem reset_tells (zs : List Zn) (k : Int) (hn : zs.length ≤ 1048576) : ∃ (V : List Zn) (ok : Bool), TellsK 17 zs k V ok ∧ TellsK 16 zs k V ok ∧ (ok = false → V = []) ∧
    (ok = true → there zs k ∧ ∃ (n : Nat), n < zs.length ∧ k = n ∧ V = zs.set n zeroZ) := by
  by_cases h : there zs k
  · obtain ⟨n, rfl⟩ : ∃ n : Nat, k = n := ⟨k.toNat, by have := h.2.1; omega⟩
    have hk : n < zs.length := by have := h.2.2; omega
    refine ⟨zs.set n zeroZ, true, fun a c v hv => (reset_yes a c zs n v hv h hk).mono ?_, fun a c v hv => (ireset_yes a c zs n v hv h hk).mono ?_, fun h => (by cases h), fun _ => ⟨h, n, hk, rfl, rfl⟩⟩
    all_goals
      rintro e w' ⟨R, c, hR, rfl, hrow, hb⟩
      exact ⟨_, c, by rw [List.length_set], Or.inr ⟨R, hR, hrow.lt, rfl, hrow⟩, hb⟩
  · refine ⟨[], false, fun a c v hv => (reset_no a c zs k v hn hv h).mono ?_, fun a c v hv => (ireset_no a c zs k v hn hv h).mono ?_, fun _ => rfl, fun h => (by cases h)⟩
    all_goals
      rintro e w' ⟨rfl, hb⟩
      exact ⟨none, 0, rfl, Or.inl rfl, hb⟩
theorem flush_tells (zs : List Zn) (hn : zs.length ≤ 1048576) : ∃ (V : List Zn) (ok : Bool), Tells0 31 zs V ok ∧ Tells0 30 zs V ok ∧ (ok = false → V = []) ∧ (ok = true → goodD zs = true ∧ V = zs.map flushZ) := by
  cases h : goodD zs
  · refine ⟨[], false, fun a c v hv => (flush_no a c zs v hn hv h).mono ?_, fun a c v hv => (iflush_no a c zs v hn hv h).mono ?_, fun _ => rfl, fun h => (by cases h)⟩
    all_goals
      rintro e w' ⟨rfl, hb⟩
      exact ⟨none, 0, rfl, Or.inl rfl, hb⟩
  · refine ⟨zs.map flushZ, true, fun a c v hv => (flush_yes a c zs v hv h).mono ?_, fun a c v hv => (iflush_yes a c zs v hv h).mono ?_, fun h => (by cases h), fun _ => ⟨rfl, rfl⟩⟩
    all_goals
      rintro e w' ⟨R, c, hR, rfl, hrow, hb⟩
      exact ⟨_, c, by rw [List.length_map], Or.inr ⟨R, hR, hrow.lt, rfl, hrow⟩, hb⟩
theorem tells_ago {f : Nat} {zs V : List Zn} {gd : Bool} {k : Int} {s : ByteArray} {p : Int} (hVl : V.length = zs.length)
    (h : ∀ (a : Option Addr) (cap : Nat) (w : World), Zs w.heap.size a zs w → Calls Try.prog f #[.agg #[.slice a zs.length cap], .int .i64 k, .string s] w fun e w' => (∃ b c, if gd = true then e = .returned (.tuple #[.agg #[.slice b zs.length c], .int .i64 p, .bool true]) ∧ Own w.heap.size w'.heap.size b V w' else e = .returned (.tuple #[.agg #[.slice none 0 0], .int .i64 0, .bool false])) ∧ Below w.heap.size w w') :
    TellsA f zs k s (if gd = true then V else []) (if gd = true then p else 0) gd := fun a cap w hw => by
  refine (h a cap w hw).mono ?_
  rintro e w' ⟨⟨b, c, hbc⟩, hb⟩
  cases gd
  · rw [if_neg (by decide)] at hbc
    subst hbc
    exact ⟨none, 0, rfl, Or.inl rfl, hb⟩
  · rw [if_pos rfl] at hbc
    obtain ⟨rfl, ho⟩ := hbc
    exact ⟨b, c, by rw [if_pos rfl, if_pos rfl, hVl], ho, hb⟩
theorem append_tells (zs : List Zn) (k : Int) (s : ByteArray) (hn : zs.length ≤ 1048576) (hs : s.size ≤ 1048576) : ∃ (V : List Zn) (p : Int) (ok : Bool), TellsA 7 zs k s V p ok ∧ TellsA 6 zs k s V p ok ∧ (ok = false → V = [] ∧ p = 0) ∧
    (ok = true → there zs k ∧ ∃ (n : Nat) (hk : n < zs.length), k = n ∧ p = zs[n].data.size ∧ V = zs.set n (appZ zs[n] s) ∧ goodD V = true ∧ 1 ≤ s.size ∧ s.size ≤ 20) := by
  by_cases h : there zs k
  · obtain ⟨n, rfl⟩ : ∃ n : Nat, k = n := ⟨k.toNat, by have := h.2.1; omega⟩
    have hk : n < zs.length := by have := h.2.2; omega
    by_cases hbad : zs[n].full = true ∨ s.size < 1 ∨ 20 < s.size
    · refine ⟨[], 0, false, fun a c v hv => (append_bad a c zs n s v hv h hk hs (by rcases hbad with h | h | h <;> simp [h])).mono ?_, fun a c v hv => (iappend_bad a c zs n s v hv h hk hs hbad).mono ?_, fun _ => ⟨rfl, rfl⟩, fun h => (by cases h)⟩
      all_goals
        rintro e w' ⟨rfl, hb⟩
        exact ⟨none, 0, rfl, Or.inl rfl, hb⟩
    · have hfull : zs[n].full = false := by
        cases hq : zs[n].full
        · rfl
        · exact absurd (Or.inl hq) hbad
      have h1 : 1 ≤ s.size := by omega
      have h2 : s.size ≤ 20 := by omega
      have hVl : (zs.set n (appZ zs[n] s)).length = zs.length := List.length_set
      refine ⟨_, _, goodD (zs.set n (appZ zs[n] s)), ?_, tells_ago hVl (fun a c v hv => iappend_go a c zs _ _ n s v hv h hk h1 h2 hfull rfl rfl), fun h => (by rw [h]; exact ⟨rfl, rfl⟩), fun hg => ⟨h, n, hk, rfl, by rw [hg, if_pos rfl], by rw [hg, if_pos rfl], by rw [hg, if_pos rfl]; exact hg, h1, h2⟩⟩
      by_cases hroom : zs[n].data.size + s.size ≤ 60
      · exact tells_ago hVl (fun a c v hv => append_go a c zs _ _ n s v hv h hk h1 h2 hfull hroom rfl rfl)
      · rw [app_room hk s (by omega)]
        intro a c v hv
        refine (append_bad a c zs n s v hv h hk hs (Or.inr (Or.inr (Or.inr (by omega))))).mono ?_
        rintro e w' ⟨rfl, hb⟩
        exact ⟨none, 0, rfl, Or.inl rfl, hb⟩
  · refine ⟨[], 0, false, fun a c v hv => (append_none a c zs k s v hn hv h).mono ?_, fun a c v hv => (iappend_none a c zs k s v hn hv h).mono ?_, fun _ => ⟨rfl, rfl⟩, fun h => (by cases h)⟩
    all_goals
      rintro e w' ⟨rfl, hb⟩
      exact ⟨none, 0, rfl, Or.inl rfl, hb⟩
end Go.Proofs.Yteofdaecknlkdaa
