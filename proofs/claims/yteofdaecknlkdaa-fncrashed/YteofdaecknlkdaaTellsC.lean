/- What both sides tell of a device behind a crash. -/
import Derived.Test.YteofdaecknlkdaaSCrash
import Derived.Test.YteofdaecknlkdaaICrash
import Derived.Test.YteofdaecknlkdaaTells
namespace Go.Proofs.Yteofdaecknlkdaa
set_option maxRecDepth 100000
open Go.ChangeShapes Go.WideShapes Go.ChangeAt Go.RowKit
def TellsC (f : Nat) (zs : List Zn) (ks : List Int) (V : List Zn) (ok : Bool) : Prop := ∀ (a : Option Addr) (cap : Nat) (ka : Option Addr) (kc : Nat) (w : World), Zs w.heap.size a zs w → Is w.heap.size ka ks w →
  Calls Try.prog f #[.agg #[.slice a zs.length cap], .slice ka ks.length kc] w fun e w' => ∃ b c, e = .returned (.tuple #[.agg #[.slice b V.length c], .bool ok]) ∧ Own w.heap.size w'.heap.size b V w' ∧ Below w.heap.size w w'
theorem tells_crash {f : Nat} {zs V : List Zn} {ks : List Int} {gd : Bool} (hVl : V.length = zs.length)
    (h : ∀ (a : Option Addr) (cap : Nat) (ka : Option Addr) (kc : Nat) (w : World), Zs w.heap.size a zs w → Is w.heap.size ka ks w → Calls Try.prog f #[.agg #[.slice a zs.length cap], .slice ka ks.length kc] w fun e w' => (∃ b c, if gd = true then e = .returned (.tuple #[.agg #[.slice b zs.length c], .bool true]) ∧ Own w.heap.size w'.heap.size b V w' else e = .returned (.tuple #[.agg #[.slice none 0 0], .bool false])) ∧ Below w.heap.size w w') :
    TellsC f zs ks (if gd = true then V else []) gd := fun a cap ka kc w hw hi => by
  refine (h a cap ka kc w hw hi).mono ?_
  rintro e w' ⟨⟨b, c, hbc⟩, hb⟩
  cases gd
  · rw [if_neg (by decide)] at hbc
    subst hbc
    exact ⟨none, 0, rfl, Or.inl rfl, hb⟩
  · rw [if_pos rfl] at hbc
    obtain ⟨rfl, ho⟩ := hbc
    exact ⟨b, c, by rw [if_pos rfl, hVl], ho, hb⟩
/-- a zone behind a crash, against what it was -/
def Crashed (z y : Zn) : Prop := z.sure ≤ (y.data.size : Int) ∧ y.data.size ≤ z.data.size ∧ z.data.extract 0 y.data.size = y.data ∧ y.sure = (y.data.size : Int)
theorem crashed_at {z : Zn} {n : Int} (hz : goodZ z = true) (h : okZ z n = true) : Crashed z (crashZ z n) := by
  have g := of_decide_eq_true hz
  unfold okZ at h
  rw [Bool.and_eq_true] at h
  have h1 := of_decide_eq_true h.1
  have h2 := of_decide_eq_true h.2
  have hs : (crashZ z n).data.size = n.toNat := by
    show (z.data.extract 0 n.toNat).size = n.toNat
    rw [ByteArray.size_extract]; omega
  refine ⟨by rw [hs]; omega, by rw [hs]; omega, by rw [hs]; rfl, ?_⟩
  show n = _
  rw [hs]; omega
theorem okL_at {zs : List Zn} {ks : List Int} (h : okL zs ks = true) (i : Nat) (hi : i < zs.length) (hk : i < ks.length) : okZ zs[i] ks[i] = true := by
  unfold okL at h
  have := List.all_eq_true.1 h i (by simpa using hi)
  rw [okAt_eq zs ks i hi hk] at this
  exact this
theorem crash_tells (zs : List Zn) (ks : List Int) (hn : zs.length ≤ 1048576) (hlen : ks.length = zs.length) : ∃ (V : List Zn) (ok : Bool), TellsC 28 zs ks V ok ∧ TellsC 27 zs ks V ok ∧ V.length ≤ 1048576 ∧
    (ok = true → goodD V = true ∧ V.length = zs.length ∧ ∀ k (hk : k < zs.length) (hk2 : k < V.length), Crashed zs[k] V[k]) := by
  cases hg : goodD zs
  · have h : ¬ (goodD zs = true ∧ ks.length = zs.length) := fun h => by rw [hg] at h; cases h.1
    refine ⟨[], false, fun a c ka kc v hv _ => (crash_no a ka c kc zs ks v hn hv h).mono ?_, fun a c ka kc v hv _ => (icrash_no a ka c kc zs ks v hn hv h).mono ?_, by simp, fun h => (by cases h)⟩
    all_goals
      rintro e w' ⟨rfl, hb⟩
      exact ⟨none, 0, rfl, Or.inl rfl, hb⟩
  · have hVl := crashV_len zs ks
    refine ⟨_, okL zs ks && goodD (crashV zs ks), tells_crash hVl (fun a c ka kc v hv hi => crash_go a ka c kc zs ks _ v hv hi hg hlen rfl), tells_crash hVl (fun a c ka kc v hv hi => icrash_go a ka c kc zs ks _ v hv hi hg hlen rfl), ?_, fun h => ?_⟩
    · split
      · rw [hVl]; exact hn
      · simp
    · rw [h, if_pos rfl]
      rw [Bool.and_eq_true] at h
      refine ⟨h.2, hVl, fun k hk hk2 => ?_⟩
      rw [crashV_at zs ks k hk (by omega)]
      exact crashed_at (goodD_at hg k hk) (okL_at h.1 k hk (by omega))
end Go.Proofs.Yteofdaecknlkdaa
