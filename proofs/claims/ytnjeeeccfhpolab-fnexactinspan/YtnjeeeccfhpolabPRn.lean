/- Ranks and reduced masks, of both sides. -/
import Derived.Test.YtnjeeeccfhpolabPSr
import Derived.Test.YtnjeeeccfhpolabPIr
import Derived.Test.YtnjeeeccfhpolabPLs
namespace Go.Proofs.Ytnjeeeccfhpolab
set_option maxRecDepth 100000
open Go Go.ChangeShapes Go.WideShapes Go.ChangeAt Go.RowKit
theorem maskOk_yes {n : Int} {l : List Int} (h : maskOk n l = true) : ∃ k : Nat, n = (k : Int) ∧ k ≤ 10 ∧ l.length ≤ 20 ∧ ∀ x ∈ l, okI x := by
  unfold maskOk at h
  rw [Bool.and_eq_true, Bool.and_eq_true] at h
  obtain ⟨k, rfl, h1, h2⟩ := many_nat h.1
  refine ⟨k, rfl, h2, of_decide_eq_true h.2.1, fun x hx => ?_⟩
  obtain ⟨i, hi, rfl⟩ := List.getElem_of_mem hx
  have := allIn_at l _ _ h.2.2 i hi
  rw [Int.toNat_natCast] at this
  have hp := (pow_le k h2).2
  exact ⟨by omega, by omega⟩
theorem okI.bare {m : Int} (h : okI m) : okP 0 (bareP m) := ⟨h, rfl⟩
set_option maxHeartbeats 1000000 in
theorem l10Of_any (a : Option Addr) (cap : Nat) (l : List Int) (w : World) (hn : l.length ≤ 1000) (hZ : Is w.heap.size a l w) :
    Calls Try.prog 16 #[.slice a l.length cap] w fun e w' => ∃ v, e = .returned v ∧ GL KP w.heap.size v (l.map bareP) w' ∧ Below w.heap.size w w' := by
  have HZ := hid hZ
  clear hZ
  go_enter Try.func16, Try.ntmps16
  go_wp2_with fail
  go_loopw [3, 8] (fun o i wr => ∃ (k : Nat) (o1 : Value), k ≤ l.length ∧ i = .int .i64 k ∧ o = o1 ∧ GL KP w.heap.size o1 ((l.take k).map bareP) wr ∧ Below w.heap.size w wr) (fun _ i _ => l.length - (ivl i).toNat)
  case atStart => exact ⟨0, _, Nat.zero_le _, rfl, rfl, GL.nil _ _ _, Below.refl _ _⟩
  case round =>
    obtain ⟨k, o1, hk, rfl, ho, hown, hbel⟩ := hrel
    obtain rfl := ho.symm
    have HBEL := hid hbel
    by_cases hlt : k < l.length
    · obtain ⟨b, off, rfl, hb, hc⟩ := HZ.out.cell (by omega)
      have x0 := (hbel.cell (p := ⟨b, off + k, none⟩) hb).trans (hc k hlt)
      have e : (l.take (k + 1)).map bareP = (l.take k).map bareP ++ [bareP l[k]] := by
        rw [List.take_succ_eq_append_getElem hlt, List.map_append]
        rfl
      obtain ⟨v', w', r1', o2, g3, -⟩ := hown.pushP hbel.size (bareP l[k]) (by rw [List.length_map, List.length_take]; omega)
      rw [← e] at o2
      have r1 : ∀ ty, (Builtin.append_ #[34, 34] ty #[o1, .slice (some ⟨wr.heap.size, 0, none⟩) 1 1]).run Try.prog (wr.alloc (.cells #[.int .i64 l[k], .string ⟨#[]⟩] 46)) = .ok v' w' := r1'
      have HO := hid o2
      have HB' := hid (hbel.trans g3)
      clear hc hbel hown e r1' o2 g3
      generalize l[k] = m at *
      go_wp2_with (at_builtin; refine wpList_append_run rfl (.tmp 12) (.tmp 15) 34 rfl _ _ rfl rfl _ _ r1 ?_)
      go_roundw
      case rel => exact ⟨k + 1, _, by omega, by go_num, rfl, HO.out, HB'.out⟩
      case measure => simp [ivl]; omega
    · obtain rfl : k = l.length := by omega
      rw [List.take_length] at hown
      have HO := hid hown
      clear hown hbel
      go_wp2_with fail
      go_ret
      exact ⟨_, rfl, HO.out, HBEL.out⟩
set_option maxHeartbeats 1000000 in
theorem srank_any (n : Nat) (a : Option Addr) (cap : Nat) (l : List Int) (w : World) (h2 : n ≤ 10) (hn : l.length ≤ 1000) (hok : ∀ x ∈ l, okI x) (hZ : Is w.heap.size a l w) :
    Calls Try.prog 10 #[.int .i64 n, .slice a l.length cap] w fun e w' => e = .returned (.int .i64 ((redI n l).1.length : Int)) ∧ Below w.heap.size w w' := by
  have HC := hid (l10Of_any a cap l w hn hZ)
  have HL : Hid (∀ (b : Option Addr) (c : Nat) (v : World), Ps v.heap.size b (l.map bareP) v → Calls Try.prog 15 #[.int .i64 n, .slice b (l.map bareP).length c] v fun e w' => ∃ tv lv, e = .returned (.tuple #[tv, lv]) ∧ GL KP v.heap.size tv (redP n (l.map bareP)).1 w' ∧ GL KP v.heap.size lv (redP n (l.map bareP)).2 w' ∧ Apart tv lv ∧ Below v.heap.size v w') := fun b c v h => l10Reduce_any 0 n b c (l.map bareP) v h2 (by omega) (by rw [List.length_map]; exact hn) (fun x hx => by
    obtain ⟨y, hy, rfl⟩ := List.mem_map.1 hx
    exact (hok y hy).bare) h
  have HE : Hid ((redP n (l.map bareP)).1.length = (redI n l).1.length) := by show _ = _; rw [redP_bare, List.length_map]
  rw [← HE.out]
  clear hZ hok HE
  generalize redP n (l.map bareP) = rp at *
  generalize l.map bareP = P at *
  go_enter Try.func10, Try.ntmps10
  go_wp2_with fail
  refine HC.out.mono ?_
  rintro e w1 ⟨v1, rfl, o1, g1⟩
  obtain ⟨b, c, rfl, ob, -⟩ := o1.pks
  have HR := hid (HL.out b c w1 ob.ps)
  have HG := hid g1
  clear o1 ob g1 HC HL
  go_wp2_with fail
  refine HR.out.mono ?_
  rintro e w2 ⟨tv, lv, rfl, ot, -, -, g2⟩
  obtain ⟨b2, c2, rfl, -, -⟩ := ot.pks
  have HG2 := hid (HG.out.trans (g2.mono HG.out.size))
  clear ot g2 HR
  go_wp2_with fail
  go_ret
  exact ⟨rfl, HG2.out⟩
set_option maxHeartbeats 1000000 in
theorem irank_any (n : Nat) (a : Option Addr) (cap : Nat) (l : List Int) (w : World) (h2 : n ≤ 10) (hn : l.length ≤ 1000) (hok : ∀ x ∈ l, okI x) (hZ : Is w.heap.size a l w) :
    Calls Try.prog 12 #[.int .i64 n, .slice a l.length cap] w fun e w' => e = .returned (.int .i64 ((redI n l).1.length : Int)) ∧ Below w.heap.size w w' := by
  have HR := hid (redI_any n a cap l w h2 hn hok hZ)
  clear hZ hok
  generalize redI n l = rp at *
  go_enter Try.func12, Try.ntmps12
  go_wp2_with fail
  refine HR.out.mono ?_
  rintro e w2 ⟨tv, lv, rfl, ot, -, -, g2⟩
  obtain ⟨b2, c2, rfl, -, -⟩ := ot.ints
  have HG2 := hid g2
  clear ot g2 HR
  go_wp2_with fail
  go_ret
  exact ⟨rfl, HG2.out⟩
def rankV (n : Int) (l : List Int) : Int := cond (maskOk n l) ((redI n.toNat l).1.length : Int) 0
def redV (n : Int) (l : List Int) : List Int := cond (maskOk n l) (redI n.toNat l).1 []
theorem redI_len (n : Nat) (l : List Int) : (redI n l).1.length ≤ l.length := by
  have := redG_len hasI unI n ([], l)
  unfold redI
  simp at this
  omega
theorem redV_len (n : Int) (l : List Int) (h : l.length ≤ 1048576) : (redV n l).length ≤ 1048576 := by
  unfold redV
  cases maskOk n l
  · exact Nat.zero_le _
  · exact Nat.le_trans (redI_len _ _) h
end Go.Proofs.Ytnjeeeccfhpolab
