/- What a law on drawn asks keeps while it goes; what both sides tell. -/
import Derived.Test.YtpjmblhfahbopaaADrw
import Derived.Test.YtpjmblhfahbopaaASwM
import Derived.Test.YtpjmblhfahbopaaANeS
import Derived.Test.YtpjmblhfahbopaaALea
import Derived.Test.YtpjmblhfahbopaaAWait
import Derived.Test.YtpjmblhfahbopaaARnd
namespace Go.Proofs.Ytpjmblhfahbopaa
set_option maxRecDepth 100000
open Go Go.ChangeShapes Go.WideShapes Go.ChangeAt Go.RowKit
set_option maxHeartbeats 1000000 in
theorem sameInts_same (a1 a2 : Option Addr) (c1 c2 : Nat) (l : List Int) (w : World) (hn : l.length ≤ 1048576) (h1 : Is w.heap.size a1 l w) (h2 : Is w.heap.size a2 l w) :
    Calls Try.prog 12 #[.slice a1 l.length c1, .slice a2 l.length c2] w fun e w' => e = .returned (.bool true) ∧ Below w.heap.size w w' := by
  have H1 : Hid (Is w.heap.size a1 l w) := h1
  have H2 : Hid (Is w.heap.size a2 l w) := h2
  clear h1 h2
  go_enter Try.func12, Try.ntmps12
  go_wp2
  go_loopw [13] (fun i wr => ∃ k : Nat, k ≤ l.length ∧ i = .int .i64 k ∧ Below w.heap.size w wr) (fun i _ => l.length - (intOf i).toNat)
  case atStart => exact ⟨0, Nat.zero_le _, rfl, Below.refl _ _⟩
  case round =>
    obtain ⟨k, hk, rfl, hbel⟩ := hrel
    have HBEL : Hid (Below w.heap.size w wr) := hbel
    by_cases hlt : k < l.length
    · obtain ⟨b1, o1, rfl, hb1, hc1⟩ := H1.out.cell (by omega)
      obtain ⟨b2, o2, rfl, hb2, hc2⟩ := H2.out.cell (by omega)
      have x0 := (hbel.cell (p := ⟨b1, o1 + k, none⟩) hb1).trans (hc1 k hlt)
      have y0 := (hbel.cell (p := ⟨b2, o2 + k, none⟩) hb2).trans (hc2 k hlt)
      clear hc1 hc2 hbel
      generalize l[k] = n at *
      go_wp2
      go_region
      all_goals
        go_wp2
        go_roundw
        · exact ⟨k + 1, by omega, by go_num, HBEL.out.drew⟩
        · simp [intOf]; omega
    · clear hbel
      go_wp2
      go_ret
      exact ⟨rfl, HBEL.out⟩
/-- what is kept: the bytes still to be read, lists -/
structure S8 (w0 : World) (I : List (Option Addr × List Int)) (l2 c2 : Nat) (a2 : Option Addr) (w : World) : Prop where
  below : Below w0.heap.size w0 w
  code : Code w0.heap.size l2 c2 a2 w
  is : ∀ p ∈ I, Is w.heap.size p.1 p.2 w
theorem S8.on {w0 w w' : World} {I : List (Option Addr × List Int)} {l2 c2 : Nat} {a2 : Option Addr} (h : S8 w0 I l2 c2 a2 w) (g : Below w.heap.size w w') : S8 w0 I l2 c2 a2 w' :=
  ⟨h.below.trans (g.mono h.below.size), h.code.below (g.mono h.below.size), fun p hp => ((h.is p hp).below g).mono g.size⟩
theorem S8.add {w0 w : World} {I : List (Option Addr × List Int)} {l2 c2 : Nat} {a2 : Option Addr} (h : S8 w0 I l2 c2 a2 w) {b : Option Addr} {l : List Int} (hx : Is w.heap.size b l w) : S8 w0 ((b, l) :: I) l2 c2 a2 w :=
  ⟨h.below, h.code, fun p hp => by
    rcases List.mem_cons.1 hp with rfl | hp
    · exact hx
    · exact h.is p hp⟩
theorem S8.i {w0 w : World} {I : List (Option Addr × List Int)} {l2 c2 : Nat} {a2 : Option Addr} (h : S8 w0 I l2 c2 a2 w) (b : Option Addr) (l : List Int) (hp : (b, l) ∈ I) : Is w.heap.size b l w := h.is _ hp
theorem S8.bare {w0 w : World} {I : List (Option Addr × List Int)} {l2 c2 : Nat} {a2 : Option Addr} (h : S8 w0 I l2 c2 a2 w) : S8 w0 [] l2 c2 a2 w := ⟨h.below, h.code, fun _ h => by cases h⟩
theorem S8.draw {w0 w : World} {I : List (Option Addr × List Int)} {l2 c2 : Nat} {a2 : Option Addr} (h : S8 w0 I l2 c2 a2 w) : Code w.heap.size l2 c2 a2 w := h.code.mono h.below.size
theorem best_tells (s : Int) (l : List Int) (hn : l.length ≤ 1048576) : ∃ (V : List Int) (n : Int), V.length ≤ l.length ∧ (goodT s l = true → V = bestL s l ∧ n = (trav s V : Int)) ∧
    (∀ q d v, Is v.heap.size q l v → Calls Try.prog 7 #[.int .i64 s, .slice q l.length d] v (BOut V n (goodT s l) v)) ∧ (∀ q d v, Is v.heap.size q l v → Calls Try.prog 6 #[.int .i64 s, .slice q l.length d] v (BOut V n (goodT s l) v)) := by
  cases hg : goodT s l
  · exact ⟨[], 0, Nat.zero_le _, (fun h => by cases h), fun q d v hv => sbs_no s q d l v hn hv hg, fun q d v hv => ibs_no s q d l v hn hv hg⟩
  · exact ⟨bestL s l, (trav s (bestL s l) : Int), by rw [bestL_len]; exact Nat.le_refl _, fun _ => ⟨rfl, rfl⟩, fun q d v hv => sbs_yes s q d l v hn hv hg, fun q d v hv => ibs_yes s q d l v hn hv hg⟩
theorem near_tells (s : Int) (l : List Int) (hn : l.length ≤ 1048576) : ∃ (V : List Int), V.length ≤ l.length ∧ (goodT s l = true → NearOrd s l V) ∧
    (∀ q d v, Is v.heap.size q l v → Calls Try.prog 17 #[.int .i64 s, .slice q l.length d] v (LOut V (goodT s l) v)) ∧ (∀ q d v, Is v.heap.size q l v → Calls Try.prog 15 #[.int .i64 s, .slice q l.length d] v (LOut V (goodT s l) v)) := by
  cases hg : goodT s l
  · exact ⟨[], Nat.zero_le _, (fun h => by cases h), fun q d v hv => sno_no s q d l v hn hv hg, fun q d v hv => ino_no s q d l v hn hv hg⟩
  · obtain ⟨V, hV, hlV⟩ := ord_ex l.length s l rfl
    exact ⟨V, by omega, fun _ => hV, fun q d v hv => sno_yes s q d l V v hn hv hg hV, fun q d v hv => ino_yes s q d l V v hn hv hg hV⟩
theorem sweep_tells (s : Int) (l : List Int) (up : Bool) (hn : l.length ≤ 1048576) : ∃ (V : List Int), V.length ≤ l.length ∧ (goodT s l = true → V = sweepL s l up) ∧
    (∀ q d v, Is v.heap.size q l v → Calls Try.prog 20 #[.int .i64 s, .slice q l.length d, .bool up] v (LOut V (goodT s l) v)) ∧ (∀ q d v, Is v.heap.size q l v → Calls Try.prog 19 #[.int .i64 s, .slice q l.length d, .bool up] v (LOut V (goodT s l) v)) := by
  cases hg : goodT s l
  · exact ⟨[], Nat.zero_le _, (fun h => by cases h), fun q d v hv => sso_no s q d l up v hn hv hg, fun q d v hv => iso_no s q d l up v hn hv hg⟩
  · exact ⟨sweepL s l up, by rw [sweepL_len]; exact Nat.le_refl _, fun _ => rfl, fun q d v hv => sso_yes s q d l up v hn hv hg, fun q d v hv => iso_yes s q d l up v hn hv hg⟩
theorem round_tells (s : Int) (l : List Int) (hn : l.length ≤ 1048576) : ∃ (V : List Int), V.length ≤ l.length ∧
    (∀ q d v, Is v.heap.size q l v → Calls Try.prog 24 #[.int .i64 s, .slice q l.length d] v (LOut V (goodT s l) v)) ∧ (∀ q d v, Is v.heap.size q l v → Calls Try.prog 23 #[.int .i64 s, .slice q l.length d] v (LOut V (goodT s l) v)) := by
  cases hg : goodT s l
  · exact ⟨[], Nat.zero_le _, fun q d v hv => sro_no s q d l v hn hv hg, fun q d v hv => iro_no s q d l v hn hv hg⟩
  · exact ⟨roundL s l, by rw [roundL_len]; exact Nat.le_refl _, fun q d v hv => sro_yes s q d l v hn hv hg, fun q d v hv => iro_yes s q d l v hn hv hg⟩
theorem wait_tells (s : Int) (l : List Int) (hn : l.length ≤ 1048576) : ∃ (V : List Int), V.length ≤ l.length ∧ (goodT s l = true → V = waitsL s l l.length) ∧
    (∀ q d v, Is v.heap.size q l v → l.length ≤ d → Calls Try.prog 26 #[.int .i64 s, .slice q l.length d] v (LOut V (goodT s l) v)) ∧ (∀ q d v, Is v.heap.size q l v → l.length ≤ d → Calls Try.prog 21 #[.int .i64 s, .slice q l.length d] v (LOut V (goodT s l) v)) := by
  cases hg : goodT s l
  · exact ⟨[], Nat.zero_le _, (fun h => by cases h), fun q d v hv _ => swaits_no s q d l v hn hv hg, fun q d v hv _ => iwaits_no s q d l v hn hv hg⟩
  · exact ⟨waitsL s l l.length, by rw [waitsL_len]; exact Nat.le_refl _, fun _ => rfl, fun q d v hv hc => swaits_yes s q d l v hn hc hv hg, fun q d v hv hc => iwaits_yes s q d l v hn hc hv hg⟩
end Go.Proofs.Ytpjmblhfahbopaa
