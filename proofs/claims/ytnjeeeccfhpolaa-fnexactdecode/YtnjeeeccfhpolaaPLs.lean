/- Parts of packets listed, and both sides' GoodPackets. -/
import Derived.Test.YtnjeeeccfhpolaaPApp
import Derived.Test.YtnjeeeccfhpolaaPMs
namespace Go.Proofs.Ytnjeeeccfhpolaa
set_option maxRecDepth 100000
open Go Go.ChangeShapes Go.WideShapes Go.ChangeAt Go.RowKit
set_option maxHeartbeats 400000 in
theorem maskOf_any (n : Int) (D : ByteArray) (w : World) : Calls Try.prog 46 #[.agg #[.int .i64 n, .string D]] w fun e w' => e = .returned (.int .i64 n) ∧ Below w.heap.size w w' := by
  go_enter Try.func46, Try.ntmps46
  go_wp2
  go_ret
  exact ⟨rfl, boxB _ _⟩
set_option maxHeartbeats 1000000 in
theorem maskOf_list (a : Option Addr) (cap : Nat) (p : List Pk) (w : World) (hn : p.length ≤ 1048576) (hZ : Ps w.heap.size a p w) :
    Calls Try.prog 45 #[.slice a p.length cap, .func (.func 46) #[] #[]] w fun e w' => ∃ v, e = .returned v ∧ GL KI w.heap.size v (p.map Pk.ms) w' ∧ Below w.heap.size w w' := by
  have HZ := hid hZ
  clear hZ
  go_enter Try.func45, Try.ntmps45
  go_wp2_with fail
  go_loopw [5, 10] (fun o i wr => ∃ (k : Nat) (o1 : Value), k ≤ p.length ∧ i = .int .i64 k ∧ o = o1 ∧ GL KI w.heap.size o1 ((p.take k).map Pk.ms) wr ∧ Below w.heap.size w wr) (fun _ i _ => p.length - (intOf i).toNat)
  case atStart => exact ⟨0, _, Nat.zero_le _, rfl, rfl, GL.nil _ _ _, Below.refl _ _⟩
  case round =>
    obtain ⟨k, o1, hk, rfl, rfl, hown, hbel⟩ := hrel
    have HBEL := hid hbel
    have HOWN := hid hown
    by_cases hlt : k < p.length
    · obtain ⟨b, off, rfl, hb, hc⟩ := HZ.out.cell (by omega)
      obtain ⟨c0, c1⟩ := hc k hlt
      have hb' : ∀ o, wr.cell? ⟨b, o, none⟩ = w.cell? ⟨b, o, none⟩ := fun o => hbel.cell (p := ⟨b, o, none⟩) hb
      rw [← hb'] at c0 c1
      have HT : Hid ((p.take (k + 1)).map Pk.ms = (p.take k).map Pk.ms ++ [p[k].ms]) := by
        show _ = _
        rw [List.take_succ_eq_append_getElem hlt, List.map_append]
        rfl
      have HLN : Hid (((p.take k).map Pk.ms).length + 1 ≤ 4194304) := by show _ ≤ _; rw [List.length_map, List.length_take]; omega
      clear hc hb' hown hbel
      have gA := boxB wr (.cells #[.int .i64 p[k].ms, .string p[k].tx] 28)
      have HGA := hid gA
      generalize p[k].ms = zm at *
      generalize p[k].tx = zt at *
      clear gA
      go_wp2_with fail
      generalize wr.alloc (.cells #[.int .i64 zm, .string zt] 28) = W at *
      refine (maskOf_any zm zt _).mono ?_
      rintro e w2 ⟨rfl, g2⟩
      have G2 : Below wr.heap.size wr w2 := HGA.out.trans (g2.mono HGA.out.size)
      have HB2 := hid (HBEL.out.trans (G2.mono HBEL.out.size))
      obtain ⟨v', w', r1, o2, g3, -⟩ := (HOWN.out.below G2).pushI (HB2.out.size) zm HLN.out
      rw [← HT.out] at o2
      have HO := hid o2
      have HB' : Hid (Below w.heap.size w w') := HB2.out.trans g3
      clear G2 o2 g2 g3
      go_wp2_with (at_builtin; refine wpList_append_run rfl (.tmp 14) (.tmp 18) 40 rfl _ _ rfl rfl _ _ r1 ?_)
      go_roundw
      case rel => exact ⟨k + 1, _, by omega, by go_num, rfl, HO.out, HB'.out⟩
      case measure => simp [intOf]; omega
    · obtain rfl : k = p.length := by omega
      rw [List.take_length] at HOWN
      clear hown hbel
      go_wp2
      go_ret
      exact ⟨_, rfl, HOWN.out, HBEL.out⟩
set_option maxHeartbeats 400000 in
theorem textOf_any (n : Int) (D : ByteArray) (w : World) : Calls Try.prog 48 #[.agg #[.int .i64 n, .string D]] w fun e w' => e = .returned (.string D) ∧ Below w.heap.size w w' := by
  go_enter Try.func48, Try.ntmps48
  go_wp2
  go_ret
  exact ⟨rfl, boxB _ _⟩
set_option maxHeartbeats 1000000 in
theorem textOf_list (a : Option Addr) (cap : Nat) (p : List Pk) (w : World) (hn : p.length ≤ 1048576) (hZ : Ps w.heap.size a p w) :
    Calls Try.prog 47 #[.slice a p.length cap, .func (.func 48) #[] #[]] w fun e w' => ∃ v, e = .returned v ∧ GL KS w.heap.size v (p.map Pk.tx) w' ∧ Below w.heap.size w w' := by
  have HZ := hid hZ
  clear hZ
  go_enter Try.func47, Try.ntmps47
  go_wp2_with fail
  go_loopw [5, 10] (fun o i wr => ∃ (k : Nat) (o1 : Value), k ≤ p.length ∧ i = .int .i64 k ∧ o = o1 ∧ GL KS w.heap.size o1 ((p.take k).map Pk.tx) wr ∧ Below w.heap.size w wr) (fun _ i _ => p.length - (intOf i).toNat)
  case atStart => exact ⟨0, _, Nat.zero_le _, rfl, rfl, GL.nil _ _ _, Below.refl _ _⟩
  case round =>
    obtain ⟨k, o1, hk, rfl, rfl, hown, hbel⟩ := hrel
    have HBEL := hid hbel
    have HOWN := hid hown
    by_cases hlt : k < p.length
    · obtain ⟨b, off, rfl, hb, hc⟩ := HZ.out.cell (by omega)
      obtain ⟨c0, c1⟩ := hc k hlt
      have hb' : ∀ o, wr.cell? ⟨b, o, none⟩ = w.cell? ⟨b, o, none⟩ := fun o => hbel.cell (p := ⟨b, o, none⟩) hb
      rw [← hb'] at c0 c1
      have HT : Hid ((p.take (k + 1)).map Pk.tx = (p.take k).map Pk.tx ++ [p[k].tx]) := by
        show _ = _
        rw [List.take_succ_eq_append_getElem hlt, List.map_append]
        rfl
      have HLN : Hid (((p.take k).map Pk.tx).length + 1 ≤ 4194304) := by show _ ≤ _; rw [List.length_map, List.length_take]; omega
      clear hc hb' hown hbel
      have gA := boxB wr (.cells #[.int .i64 p[k].ms, .string p[k].tx] 28)
      have HGA := hid gA
      generalize p[k].ms = zm at *
      generalize p[k].tx = zt at *
      clear gA
      go_wp2_with fail
      generalize wr.alloc (.cells #[.int .i64 zm, .string zt] 28) = W at *
      refine (textOf_any zm zt _).mono ?_
      rintro e w2 ⟨rfl, g2⟩
      have G2 : Below wr.heap.size wr w2 := HGA.out.trans (g2.mono HGA.out.size)
      have HB2 := hid (HBEL.out.trans (G2.mono HBEL.out.size))
      obtain ⟨v', w', r1, o2, g3, -⟩ := (HOWN.out.below G2).pushS (HB2.out.size) zt HLN.out
      rw [← HT.out] at o2
      have HO := hid o2
      have HB' : Hid (Below w.heap.size w w') := HB2.out.trans g3
      clear G2 o2 g2 g3
      go_wp2_with (at_builtin; refine wpList_append_run rfl (.tmp 14) (.tmp 18) 22 rfl _ _ rfl rfl _ _ r1 ?_)
      go_roundw
      case rel => exact ⟨k + 1, _, by omega, by go_num, rfl, HO.out, HB'.out⟩
      case measure => simp [intOf]; omega
    · obtain rfl : k = p.length := by omega
      rw [List.take_length] at HOWN
      clear hown hbel
      go_wp2
      go_ret
      exact ⟨_, rfl, HOWN.out, HBEL.out⟩
/-- packets -/
def goodPk (many : Int) (p : List Pk) : Bool := maskOk many (p.map Pk.ms) && likeL (p.map Pk.tx)
set_option maxHeartbeats 600000 in
theorem igoodPk_any (n : Int) (a : Option Addr) (cap : Nat) (p : List Pk) (w : World) (hn : p.length ≤ 1048576) (hs : ∀ r ∈ p, r.tx.size ≤ 9223372036854775807) (hZ : Ps w.heap.size a p w) :
    Calls Try.prog 20 #[.int .i64 n, .slice a p.length cap] w fun e w' => e = .returned (.bool (goodPk n p)) ∧ Below w.heap.size w w' := by
  have HZ : Hid (∀ v, Below w.heap.size w v → Ps v.heap.size a p v) := fun v g => (hZ.below g).mono g.size
  have HN := hid hn
  have HS : Hid (∀ s ∈ p.map Pk.tx, s.size ≤ 9223372036854775807) := fun s h => by
    obtain ⟨x, hx, rfl⟩ := List.mem_map.1 h
    exact hs x hx
  clear hZ hs hn
  unfold goodPk
  have HC1 : Hid (∀ v, Below w.heap.size w v → Calls Try.prog 45 #[.slice a p.length cap, .func (.func 46) #[] #[]] v fun e w' => ∃ v', e = .returned v' ∧ GL KI v.heap.size v' (p.map Pk.ms) w' ∧ Below v.heap.size v w') := fun v g => maskOf_list a cap p v HN.out (HZ.out _ g)
  have HC2 : Hid (∀ v, Below w.heap.size w v → Calls Try.prog 47 #[.slice a p.length cap, .func (.func 48) #[] #[]] v fun e w' => ∃ v', e = .returned v' ∧ GL KS v.heap.size v' (p.map Pk.tx) w' ∧ Below v.heap.size v w') := fun v g => textOf_list a cap p v HN.out (HZ.out _ g)
  have HM0 : Hid ((p.map Pk.ms).length ≤ 1048576) := by show _ ≤ _; rw [List.length_map]; exact HN.out
  have HT0 : Hid ((p.map Pk.tx).length ≤ 1048576) := by show _ ≤ _; rw [List.length_map]; exact HN.out
  clear HZ HN
  generalize p.map Pk.ms = M at *
  generalize p.map Pk.tx = T at *
  have HB0 : Hid (Below w.heap.size w w) := Below.refl _ _
  generalize hx : maskOk n M = x at *
  have HX := hid hx
  clear hx
  go_enter Try.func20, Try.ntmps20
  go_wp2_with fail
  refine (HC1.out _ HB0.out).mono ?_
  rintro e w1 ⟨v1, rfl, o1, g1⟩
  obtain ⟨b1, c1, rfl, o1, -⟩ := o1.ints
  have HG1 := hid g1
  have HM := hid (goodMasks_any n b1 c1 M w1 HM0.out o1.is)
  clear g1 o1
  go_wp2_with fail
  refine HM.out.mono ?_
  rintro e w2 ⟨rfl, hw2⟩
  rw [hw2, HX.out]
  clear hw2 HM
  cases x
  · go_wp2_with fail
    go_ret
    exact ⟨rfl, HG1.out⟩
  · go_wp2_with fail
    refine (HC2.out _ HG1.out).mono ?_
    rintro e w3 ⟨v3, rfl, o3, g3⟩
    obtain ⟨b3, c3, rfl, o3, -⟩ := o3.strs
    have HG3 := hid (HG1.out.trans (g3.mono HG1.out.size))
    have HT := hid (alikeLong_any b3 c3 T w3 HT0.out HS.out o3.ss)
    clear g3 o3
    go_wp2_with fail
    refine HT.out.mono ?_
    rintro e w4 ⟨rfl, hw4⟩
    rw [hw4]
    clear hw4 HT
    go_wp2_with fail
    go_ret
    exact ⟨rfl, HG3.out⟩
end Go.Proofs.Ytnjeeeccfhpolaa
