/- The model's GoodPackets. -/
import Derived.Test.YtnjeeeccfhpolaaPLs
namespace Go.Proofs.Ytnjeeeccfhpolaa
set_option maxRecDepth 100000
open Go Go.ChangeShapes Go.WideShapes Go.ChangeAt Go.RowKit
set_option maxHeartbeats 1500000 in
theorem sgoodPk_any (n : Int) (a : Option Addr) (cap : Nat) (p : List Pk) (w : World) (hn : p.length ≤ 1048576) (hs : ∀ r ∈ p, r.tx.size ≤ 9223372036854775807) (hZ : Ps w.heap.size a p w) :
    Calls Try.prog 18 #[.int .i64 n, .slice a p.length cap] w fun e w' => e = .returned (.bool (goodPk n p)) ∧ Below w.heap.size w w' := by
  have HZ := hid hZ
  have HS := hid hs
  clear hZ hs
  go_enter Try.func18, Try.ntmps18
  go_wp2_with fail
  go_loopw [5, 10] (fun o i wr => ∃ (k : Nat) (o1 : Value), k ≤ p.length ∧ i = .int .i64 k ∧ o = o1 ∧ GL KI w.heap.size o1 ((p.take k).map Pk.ms) wr ∧ Below w.heap.size w wr ∧ (∀ j (hj : j < p.length), j < k → likeOk (p.map Pk.tx) p[j].tx = true)) (fun _ i _ => p.length - (intOf i).toNat)
  case atStart => exact ⟨0, _, Nat.zero_le _, rfl, rfl, GL.nil _ _ _, Below.refl _ _, (fun _ _ h => absurd h (Nat.not_lt_zero _))⟩
  case round =>
    obtain ⟨k, o1, hk, rfl, rfl, hown, hbel, hall⟩ := hrel
    have HBEL := hid hbel
    have HOWN := hid hown
    have HALL := hid hall
    clear hall
    by_cases hlt : k < p.length
    · obtain ⟨b, off, rfl, hb, hc⟩ := HZ.out.cell (by omega)
      obtain ⟨c0, c1⟩ := hc k hlt
      have d1 : w.cell? ⟨b, off + 1, none⟩ = some (.string (p[0]'(by omega)).tx) := by simpa using (hc 0 (by omega)).2
      have hb' : ∀ o, wr.cell? ⟨b, o, none⟩ = w.cell? ⟨b, o, none⟩ := fun o => hbel.cell (p := ⟨b, o, none⟩) hb
      have hbr : b < wr.heap.size := Nat.lt_of_lt_of_le hb hbel.size
      rw [← hb'] at c0 c1 d1
      have HT : Hid ((p.take (k + 1)).map Pk.ms = (p.take k).map Pk.ms ++ [p[k].ms]) := by
        show _ = _
        rw [List.take_succ_eq_append_getElem hlt, List.map_append]
        rfl
      have HLN : Hid (((p.take k).map Pk.ms).length + 1 ≤ 4194304) := by show _ ≤ _; rw [List.length_map, List.length_take]; omega
      have hz1 := HS.out p[k] (List.getElem_mem hlt)
      have hz2 := HS.out (p[0]'(by omega)) (List.getElem_mem (by omega))
      have hhd : (p.map Pk.tx).headD ⟨#[]⟩ = (p[0]'(by omega)).tx := by
        rw [headD_zero _ (by rw [List.length_map]; omega), List.getElem_map]
      have hL : likeOk (p.map Pk.tx) p[k].tx = true → ∀ j (hj : j < p.length), j < k + 1 → likeOk (p.map Pk.tx) p[j].tx = true := fun hok j hj hjk => by
          by_cases e : j = k
          · subst e; exact hok
          · exact HALL.out j hj (by omega)
      have hB : likeOk (p.map Pk.tx) p[k].tx = false → likeL (p.map Pk.tx) = false := fun hok => likeL_bad _ k (by rw [List.length_map]; exact hlt) (by rw [List.getElem_map]; exact hok)
      have HL := hid hL
      have HBD := hid hB
      clear hc hb' hown hbel hL hB HALL
      have gA := boxB wr (.cells #[.int .i64 p[k].ms, .string p[k].tx] 28)
      have kA := heap_last wr (.cells #[.int .i64 p[k].ms, .string p[k].tx] 28)
      cases hok : likeOk (p.map Pk.tx) p[k].tx
      · have HV : Hid (likeL (p.map Pk.tx) = false) := HBD.out hok
        unfold likeOk at hok
        rw [hhd] at hok
        clear HL HBD hhd HT
        generalize p[k].ms = zm at *
        generalize p[k].tx = x at *
        generalize (p[0]'(by omega)).tx = y at *
        generalize hW : wr.alloc (.cells #[.int .i64 zm, .string x] 28) = W at *
        have z0 : W.cell? ⟨wr.heap.size, 0, none⟩ = some (.int .i64 zm) := box_cell kA 0
        have z1 : W.cell? ⟨wr.heap.size, 1, none⟩ = some (.string x) := box_cell kA 1
        have d2 := (gA.cell (p := ⟨b, off + 1, none⟩) hbr).trans d1
        have HBD : Hid (Below w.heap.size w W.drew) := (HBEL.out.trans (gA.mono HBEL.out.size)).drew
        clear kA gA
        by_cases q : x.size = y.size
        · have hd1 : ((x.size : Int) != (y.size : Int)) = false := by rw [q]; simp
          have hd2 : decide ((20 : Int) < (x.size : Int)) = true := decide_eq_true (by
            rw [decide_eq_true q] at hok
            have : ¬ x.size ≤ 20 := fun h => by rw [decide_eq_true h] at hok; simp at hok
            omega)
          clear hok q
          go_wp2_with fail
          go_big_region
          all_goals
            go_wp2_with fail
            go_ret
            exact ⟨ret_b2 (by unfold goodPk; rw [HV.out, Bool.and_false]), HBD.out⟩
        · have hd1 : ((x.size : Int) != (y.size : Int)) = true := bne_iff_ne.2 (by omega)
          clear hok q
          go_wp2_with fail
          go_big_region
          all_goals
            go_wp2_with fail
            go_ret
            exact ⟨ret_b2 (by unfold goodPk; rw [HV.out, Bool.and_false]), HBD.out⟩
      · have HL2 := hid (HL.out hok)
        unfold likeOk at hok
        rw [hhd, Bool.and_eq_true] at hok
        have q := of_decide_eq_true hok.1
        have q2 := of_decide_eq_true hok.2
        clear hok HL HBD hhd
        generalize p[k].ms = zm at *
        generalize p[k].tx = x at *
        generalize (p[0]'(by omega)).tx = y at *
        generalize hW : wr.alloc (.cells #[.int .i64 zm, .string x] 28) = W at *
        have z0 : W.cell? ⟨wr.heap.size, 0, none⟩ = some (.int .i64 zm) := box_cell kA 0
        have z1 : W.cell? ⟨wr.heap.size, 1, none⟩ = some (.string x) := box_cell kA 1
        have d2 := (gA.cell (p := ⟨b, off + 1, none⟩) hbr).trans d1
        have hd1 : ((x.size : Int) != (y.size : Int)) = false := by rw [q]; simp
        have hd2 : decide ((20 : Int) < (x.size : Int)) = false := decide_eq_false (by omega)
        have G2 : Below wr.heap.size wr W.drew := gA.drew
        have HB2 := hid (HBEL.out.trans (G2.mono HBEL.out.size))
        obtain ⟨v', w', r1, o2, g3, -⟩ := (HOWN.out.below G2).pushI (HB2.out.size) zm HLN.out
        rw [← HT.out] at o2
        have HO := hid o2
        have HB' : Hid (Below w.heap.size w w') := HB2.out.trans g3
        clear G2 o2 g3 q q2 kA gA HT
        go_wp2_with fail
        go_big_region
        all_goals
          go_wp2_with (at_builtin; refine wpList_append_run rfl (.tmp 29) (.tmp 32) 40 rfl _ _ rfl rfl _ _ r1 ?_)
          go_roundw
          · exact ⟨k + 1, _, by omega, by go_num, rfl, HO.out, HB'.out, HL2.out⟩
          · simp [intOf]; omega
    · obtain rfl : k = p.length := by omega
      rw [List.take_length] at HOWN
      have HV : Hid (likeL (p.map Pk.tx) = true) := likeL_all _ (fun j hj => by rw [List.getElem_map]; exact HALL.out j (by simpa using hj) (by simpa using hj))
      obtain ⟨b1, c1, e1, o1', -⟩ := HOWN.out.ints
      have HM := hid (l10Masks_any n b1 c1 (p.map Pk.ms) wr (by rw [List.length_map]; exact hn) o1'.is)
      have HG : Hid (goodPk n p = maskOk n (p.map Pk.ms)) := by show _ = _; unfold goodPk; rw [HV.out, Bool.and_true]
      clear hown hbel o1' HOWN HALL
      rw [e1]
      generalize p.map Pk.ms = M at *
      go_wp2_with fail
      refine HM.out.mono ?_
      rintro e w2 ⟨rfl, hw2⟩
      rw [hw2]
      clear hw2 HM
      go_wp2_with fail
      go_ret
      exact ⟨ret_b2 HG.out.symm, HBEL.out⟩
end Go.Proofs.Ytnjeeeccfhpolaa
