/- WaitsOf: the program and the model. -/
import Derived.Test.YtpjmblhfahbopaaATrav
import Derived.Test.YtpjmblhfahbopaaAApp
namespace Go.Proofs.Ytpjmblhfahbopaa
set_option maxRecDepth 100000
open Go Go.ChangeShapes Go.WideShapes Go.ChangeAt Go.RowKit
/-- the steps made when each of the first k was reached -/
def waitsL (s : Int) (l : List Int) (k : Nat) : List Int := (List.range k).map fun j => (trav s (l.take (j + 1)) : Int)
theorem waitsL_len (s : Int) (l : List Int) (k : Nat) : (waitsL s l k).length = k := by simp [waitsL]
theorem waitsL_succ (s : Int) (l : List Int) (k : Nat) : waitsL s l (k + 1) = waitsL s l k ++ [(trav s (l.take (k + 1)) : Int)] := by simp [waitsL, List.range_succ]
set_option maxHeartbeats 2000000 in
theorem swaits_no (s : Int) (a : Option Addr) (cap : Nat) (l : List Int) (w : World) (hn : l.length ≤ 1048576) (hZ : Is w.heap.size a l w) (hg : goodT s l = false) :
    Calls Try.prog 26 #[.int .i64 s, .slice a l.length cap] w (LOut [] false w) := by
  have HG := hid (l8Good_any s a cap l w hn hZ)
  rw [hg] at HG
  go_enter Try.func26, Try.ntmps26
  go_wp2_with fail
  refine HG.out.mono ?_
  rintro e w2 ⟨rfl, hw2⟩
  rw [hw2]
  clear hw2
  go_wp2
  go_ret2
  exact LOut.no (Below.refl _ _)
set_option maxHeartbeats 2000000 in
theorem swaits_yes (s : Int) (a : Option Addr) (cap : Nat) (l : List Int) (w : World) (hn : l.length ≤ 1048576) (hc : l.length ≤ cap) (hZ : Is w.heap.size a l w) (hg : goodT s l = true) :
    Calls Try.prog 26 #[.int .i64 s, .slice a l.length cap] w (LOut (waitsL s l l.length) true w) := by
  have HG := hid (l8Good_any s a cap l w hn hZ)
  rw [hg] at HG
  have hp := goodT_parts hg
  have h8 := goodA_len hp.2
  have HT : Hid (∀ k v, k ≤ l.length → Below w.heap.size w v → Calls Try.prog 35 #[.int .i64 s, .slice a k cap] v fun e w' => e = .returned (.int .i64 (trav s (l.take k) : Int)) ∧ w' = v) := fun k v hk g => by
    have := l8Travel_any s a cap (l.take k) v hp.1 (mem_take_in (goodA_mem hp.2)) (by rw [List.length_take]; omega) (is_take ((hZ.below g).mono g.size) k)
    rwa [List.length_take, Nat.min_eq_left hk] at this
  clear hp hZ hg
  go_enter Try.func26, Try.ntmps26
  go_wp2_with fail
  refine HG.out.mono ?_
  rintro e w2 ⟨rfl, hw2⟩
  rw [hw2]
  clear hw2 HG
  go_wp2_with fail
  go_loopw [6, 14] (fun o i wr => ∃ (k : Nat) (o1 : Value), k ≤ l.length ∧ i = .int .i64 k ∧ o = o1 ∧ AL w.heap.size o1 (waitsL s l k) wr ∧ Below w.heap.size w wr) (fun _ i _ => l.length - (intOf i).toNat)
  case atStart => exact ⟨0, _, Nat.zero_le _, rfl, rfl, AL.nil _ _, Below.refl _ _⟩
  case round =>
    obtain ⟨k, _, hk, rfl, rfl, hown, hbel⟩ := hrel
    have HOWN := hid hown
    have HBEL := hid hbel
    have hszr := hbel.size
    clear hown hbel
    by_cases hlt : k < l.length
    · have HTK := hid (HT.out (k + 1) wr (by omega) HBEL.out)
      have HW := hid (waitsL_succ s l k)
      have hb1 : k + 1 ≤ cap := by omega
      go_wp2_with fail
      refine HTK.out.mono ?_
      rintro e w9 ⟨rfl, hw9⟩
      rw [hw9]
      clear hw9 HTK
      obtain ⟨v', w', r1, o1, g1, -⟩ := HOWN.out.push hszr (trav s (l.take (k + 1)) : Int) (by rw [waitsL_len]; omega)
      rw [← HW.out] at o1
      have HO := hid o1
      have HB' : Hid (Below w.heap.size w w') := HBEL.out.trans g1
      clear o1 g1 HOWN HW
      generalize trav s (l.take (k + 1)) = tv at *
      go_wp2_with (at_builtin; refine wpList_append_run rfl (.tmp 17) (.tmp 24) 23 rfl _ _ rfl rfl _ _ r1 ?_)
      go_roundw
      case rel => exact ⟨k + 1, _, by omega, by go_num, rfl, HO.out, HB'.out⟩
      case measure => simp [intOf]; omega
    · obtain rfl : k = l.length := by omega
      go_wp2
      go_ret2
      exact LOut.yes HOWN.out HBEL.out
set_option maxHeartbeats 2000000 in
theorem iwaits_no (s : Int) (a : Option Addr) (cap : Nat) (l : List Int) (w : World) (hn : l.length ≤ 1048576) (hZ : Is w.heap.size a l w) (hg0 : goodT s l = false) :
    Calls Try.prog 21 #[.int .i64 s, .slice a l.length cap] w (LOut [] false w) := by
  have HT := hid (isTrack_any s w)
  have HG := hid (igoodA_any a cap l w hn hZ)
  rcases goodT_cases s l with ⟨ht, hg⟩ | ⟨ht, ha, hg⟩ | ⟨ht, ha, hg⟩
  · rw [ht] at HT
    clear hg0 hg
    go_enter Try.func21, Try.ntmps21
    go_wp2_with fail
    refine HT.out.mono ?_
    rintro e w2 ⟨rfl, hw2⟩
    rw [hw2]
    clear hw2
    go_wp2
    go_ret2
    exact LOut.no (Below.refl _ _)
  · rw [ht] at HT
    rw [ha] at HG
    clear hg0 hg
    go_enter Try.func21, Try.ntmps21
    go_wp2_with fail
    refine HT.out.mono ?_
    rintro e w2 ⟨rfl, hw2⟩
    rw [hw2]
    clear hw2
    go_wp2_with fail
    refine HG.out.mono ?_
    rintro e w2 ⟨rfl, hw2⟩
    rw [hw2]
    clear hw2
    go_wp2
    go_ret2
    exact LOut.no (Below.refl _ _)
  · rw [hg0] at hg; cases hg
set_option maxHeartbeats 2000000 in
theorem iwaits_yes (s : Int) (a : Option Addr) (cap : Nat) (l : List Int) (w : World) (hn : l.length ≤ 1048576) (hc : l.length ≤ cap) (hZ : Is w.heap.size a l w) (hg : goodT s l = true) :
    Calls Try.prog 21 #[.int .i64 s, .slice a l.length cap] w (LOut (waitsL s l l.length) true w) := by
  have HI := hid (isTrack_any s w)
  have HG := hid (igoodA_any a cap l w hn hZ)
  have hp := goodT_parts hg
  rw [trkB_iff.2 hp.1] at HI
  rw [hp.2] at HG
  have h8 := goodA_len hp.2
  have HT : Hid (∀ k v, k ≤ l.length → Below w.heap.size w v → ∃ U D : Nat, U ≤ 2000 ∧ D ≤ 2000 ∧ trav s (l.take k) = U + D ∧ Calls Try.prog 32 #[.int .i64 s, .slice a k cap] v fun e w' => e = .returned (.complex .f64 (fl U) (fl D)) ∧ w' = v) := fun k v hk g => by
    have h1 := ups_le (l.take k) s hp.1 (mem_take_in (goodA_mem hp.2))
    have h2 := dns_le (l.take k) s hp.1 (mem_take_in (goodA_mem hp.2))
    rw [List.length_take] at h1 h2
    have := along_any s a cap (l.take k) v hp.1 (mem_take_in (goodA_mem hp.2)) (by rw [List.length_take]; omega) (is_take ((hZ.below g).mono g.size) k)
    rw [List.length_take, Nat.min_eq_left hk] at this
    exact ⟨_, _, by omega, by omega, rfl, this⟩
  clear hp hZ hg
  go_enter Try.func21, Try.ntmps21
  go_wp2_with fail
  refine HI.out.mono ?_
  rintro e w2 ⟨rfl, hw2⟩
  rw [hw2]
  clear hw2 HI
  go_wp2_with fail
  refine HG.out.mono ?_
  rintro e w2 ⟨rfl, hw2⟩
  rw [hw2]
  clear hw2 HG
  go_wp2_with fail
  go_loopw [6, 18] (fun o i wr => ∃ (k : Nat) (o1 : Value), k ≤ l.length ∧ i = .int .i64 k ∧ o = o1 ∧ AL w.heap.size o1 (waitsL s l k) wr ∧ Below w.heap.size w wr) (fun _ i _ => l.length - (intOf i).toNat)
  case atStart => exact ⟨0, _, Nat.zero_le _, rfl, rfl, AL.nil _ _, Below.refl _ _⟩
  case round =>
    obtain ⟨k, _, hk, rfl, rfl, hown, hbel⟩ := hrel
    have HOWN := hid hown
    have HBEL := hid hbel
    have hszr := hbel.size
    clear hown hbel
    by_cases hlt : k < l.length
    · obtain ⟨U, D, hU, hD, hUD, hcall⟩ := HT.out (k + 1) wr (by omega) HBEL.out
      have HTK := hid hcall
      have HS := hid (steps_any U D wr hU hD)
      have HW := hid (waitsL_succ s l k)
      rw [hUD] at HW
      have hb1 : k + 1 ≤ cap := by omega
      clear hUD hcall
      generalize fl U = fU at *
      generalize fl D = fD at *
      go_wp2_with fail
      refine HTK.out.mono ?_
      rintro e w9 ⟨rfl, hw9⟩
      rw [hw9]
      clear hw9 HTK
      go_wp2_with fail
      refine HS.out.mono ?_
      rintro e w9 ⟨rfl, hw9⟩
      rw [hw9]
      clear hw9 HS
      obtain ⟨v', w', r1, o1, g1, -⟩ := HOWN.out.push hszr ((U + D : Nat) : Int) (by rw [waitsL_len]; omega)
      rw [← HW.out] at o1
      have HO := hid o1
      have HB' : Hid (Below w.heap.size w w') := HBEL.out.trans g1
      clear o1 g1 HOWN HW hU hD
      generalize U + D = tv at *
      go_wp2_with (at_builtin; refine wpList_append_run rfl (.tmp 21) (.tmp 29) 23 rfl _ _ rfl rfl _ _ r1 ?_)
      go_roundw
      case rel => exact ⟨k + 1, _, by omega, by go_num, rfl, HO.out, HB'.out⟩
      case measure => simp [intOf]; omega
    · obtain rfl : k = l.length := by omega
      go_wp2
      go_ret2
      exact LOut.yes HOWN.out HBEL.out
end Go.Proofs.Ytpjmblhfahbopaa
