/- Sources: texts of one length, and both sides' GoodSources. -/
import Derived.Test.YtnjeeeccfhpolaaPOpen
namespace Go.Proofs.Ytnjeeeccfhpolaa
set_option maxRecDepth 100000
open Go Go.ChangeShapes Go.WideShapes Go.ChangeAt Go.RowKit
/-- a text as long as the first one, and short -/
def likeOk (l : List ByteArray) (s : ByteArray) : Bool := decide (s.size = (l.headD ⟨#[]⟩).size) && decide (s.size ≤ 20)
def likeL (l : List ByteArray) : Bool := l.all (likeOk l)
/-- sources -/
def goodSr (l : List ByteArray) : Bool := decide (1 ≤ l.length ∧ l.length ≤ 10) && likeL l
theorem headD_zero (l : List ByteArray) (h : 0 < l.length) : l.headD ⟨#[]⟩ = l[0] := by
  cases l with
  | nil => simp at h
  | cons a t => rfl
theorem likeL_bad (l : List ByteArray) (k : Nat) (h : k < l.length) (hb : likeOk l l[k] = false) : likeL l = false := by
  unfold likeL
  rw [List.all_eq_false]
  exact ⟨l[k], List.getElem_mem h, by rw [hb]; decide⟩
theorem likeL_all (l : List ByteArray) (h : ∀ j (hj : j < l.length), likeOk l l[j] = true) : likeL l = true := by
  unfold likeL
  rw [List.all_eq_true]
  intro x hx
  obtain ⟨j, hj, rfl⟩ := List.getElem_of_mem hx
  exact h j hj
theorem likeL_at (l : List ByteArray) (h : likeL l = true) (j : Nat) (hj : j < l.length) : l[j].size = (l.headD ⟨#[]⟩).size ∧ l[j].size ≤ 20 := by
  unfold likeL at h
  rw [List.all_eq_true] at h
  have := h _ (List.getElem_mem hj)
  unfold likeOk at this
  rw [Bool.and_eq_true] at this
  exact ⟨of_decide_eq_true this.1, of_decide_eq_true this.2⟩
set_option maxHeartbeats 1000000 in
theorem salike_any (a : Option Addr) (cap : Nat) (l : List ByteArray) (w : World) (hn : l.length ≤ 1048576) (hs : ∀ s ∈ l, s.size ≤ 9223372036854775807) (hZ : Ss w.heap.size a l w) :
    Calls Try.prog 10 #[.slice a l.length cap] w fun e w' => e = .returned (.bool (goodSr l)) ∧ w' = w := by
  have HZ : Hid (Ss w.heap.size a l w) := hZ
  have HS : Hid (∀ s ∈ l, s.size ≤ 9223372036854775807) := hs
  clear hZ hs
  go_enter Try.func10, Try.ntmps10
  go_wp2
  go_loopw [7] (fun i wr => ∃ k : Nat, k ≤ l.length ∧ i = .int .i64 k ∧ (∀ j (hj : j < l.length), j < k → likeOk l l[j] = true) ∧ wr = w) (fun i _ => l.length - (intOf i).toNat)
  case atStart => exact ⟨0, Nat.zero_le _, rfl, (fun _ _ h => absurd h (Nat.not_lt_zero _)), rfl⟩
  case round =>
    obtain ⟨k, hk, rfl, hall, hwr⟩ := hrel
    subst hwr
    have HALL : Hid (∀ j (hj : j < l.length), j < k → likeOk l l[j] = true) := hall
    clear hall
    by_cases hlt : k < l.length
    · obtain ⟨b, off, rfl, hb, hc⟩ := HZ.out.cell (by omega)
      have x0 := hc k hlt
      have z0 : wr.cell? ⟨b, off, none⟩ = some (.string (l[0]'(by omega))) := hc 0 (by omega)
      clear hc
      have hz1 := HS.out l[k] (List.getElem_mem hlt)
      have hz2 := HS.out (l[0]'(by omega)) (List.getElem_mem (by omega))
      cases hok : likeOk l l[k]
      · have HV : Hid (likeL l = false) := likeL_bad l k hlt hok
        unfold likeOk at hok
        rw [headD_zero l (by omega)] at hok
        generalize l[k] = x at *
        generalize (l[0]'(by omega)) = y at *
        by_cases q : x.size = y.size
        · have hd1 : ((x.size : Int) != (y.size : Int)) = false := by rw [q]; simp
          have hd2 : decide ((20 : Int) < (x.size : Int)) = true := decide_eq_true (by
            rw [decide_eq_true q] at hok
            have : ¬ x.size ≤ 20 := fun h => by rw [decide_eq_true h] at hok; simp at hok
            omega)
          clear hok q
          go_wp2
          go_ret
          exact ⟨ret_b2 (by unfold goodSr; rw [HV.out]; simp), rfl⟩
        · have hd1 : ((x.size : Int) != (y.size : Int)) = true := bne_iff_ne.2 (by omega)
          clear hok q
          go_wp2
          go_ret
          exact ⟨ret_b2 (by unfold goodSr; rw [HV.out]; simp), rfl⟩
      · have HL : Hid (∀ j (hj : j < l.length), j < k + 1 → likeOk l l[j] = true) := fun j hj hjk => by
          by_cases e : j = k
          · subst e; exact hok
          · exact HALL.out j hj (by omega)
        unfold likeOk at hok
        rw [headD_zero l (by omega), Bool.and_eq_true] at hok
        have q := of_decide_eq_true hok.1
        have q2 := of_decide_eq_true hok.2
        clear hok
        generalize l[k] = x at *
        generalize (l[0]'(by omega)) = y at *
        have hd1 : ((x.size : Int) != (y.size : Int)) = false := by rw [q]; simp
        have hd2 : decide ((20 : Int) < (x.size : Int)) = false := decide_eq_false (by omega)
        clear q
        go_wp2
        go_roundw
        case rel => exact ⟨k + 1, by omega, by go_num, HL.out, by trivial⟩
        case measure => simp [intOf]; omega
    · have HV : Hid (likeL l = true) := likeL_all l (fun j hj => HALL.out j hj (by omega))
      by_cases hm : 1 ≤ l.length ∧ l.length ≤ 10
      · go_wp2_with fail
        refine (l1In_yes _ _ _ _ (by omega) (by omega)).mono ?_
        rintro e w2 ⟨rfl, hw2⟩
        rw [hw2]
        clear hw2
        go_wp2
        go_ret
        exact ⟨ret_b2 (by unfold goodSr; rw [HV.out, decide_eq_true hm]; rfl), rfl⟩
      · go_wp2_with fail
        refine (l1In_no _ _ _ _ (by omega)).mono ?_
        rintro e w2 ⟨rfl, hw2⟩
        rw [hw2]
        clear hw2
        go_wp2
        go_ret
        exact ⟨ret_b2 (by unfold goodSr; rw [decide_eq_false hm]; rfl), rfl⟩
set_option maxHeartbeats 1000000 in
theorem alikeLong_any (a : Option Addr) (cap : Nat) (l : List ByteArray) (w : World) (hn : l.length ≤ 1048576) (hs : ∀ s ∈ l, s.size ≤ 9223372036854775807) (hZ : Ss w.heap.size a l w) :
    Calls Try.prog 37 #[.slice a l.length cap] w fun e w' => e = .returned (.bool (likeL l)) ∧ w' = w := by
  have HZ : Hid (Ss w.heap.size a l w) := hZ
  have HS : Hid (∀ s ∈ l, s.size ≤ 9223372036854775807) := hs
  clear hZ hs
  go_enter Try.func37, Try.ntmps37
  go_wp2
  go_loopw [7] (fun i wr => ∃ k : Nat, k ≤ l.length ∧ i = .int .i64 k ∧ (∀ j (hj : j < l.length), j < k → likeOk l l[j] = true) ∧ wr = w) (fun i _ => l.length - (intOf i).toNat)
  case atStart => exact ⟨0, Nat.zero_le _, rfl, (fun _ _ h => absurd h (Nat.not_lt_zero _)), rfl⟩
  case round =>
    obtain ⟨k, hk, rfl, hall, hwr⟩ := hrel
    subst hwr
    have HALL : Hid (∀ j (hj : j < l.length), j < k → likeOk l l[j] = true) := hall
    clear hall
    by_cases hlt : k < l.length
    · obtain ⟨b, off, rfl, hb, hc⟩ := HZ.out.cell (by omega)
      have x0 := hc k hlt
      have z0 : wr.cell? ⟨b, off, none⟩ = some (.string (l[0]'(by omega))) := hc 0 (by omega)
      clear hc
      have hz1 := HS.out l[k] (List.getElem_mem hlt)
      have hz2 := HS.out (l[0]'(by omega)) (List.getElem_mem (by omega))
      cases hok : likeOk l l[k]
      · have HV : Hid (likeL l = false) := likeL_bad l k hlt hok
        unfold likeOk at hok
        rw [headD_zero l (by omega)] at hok
        generalize l[k] = x at *
        generalize (l[0]'(by omega)) = y at *
        by_cases q : x.size = y.size
        · have hd1 : ((x.size : Int) != (y.size : Int)) = false := by rw [q]; simp
          have hd2 : decide ((20 : Int) < (x.size : Int)) = true := decide_eq_true (by
            rw [decide_eq_true q] at hok
            have : ¬ x.size ≤ 20 := fun h => by rw [decide_eq_true h] at hok; simp at hok
            omega)
          clear hok q
          go_wp2
          go_ret
          exact ⟨ret_b2 (by rw [HV.out]), rfl⟩
        · have hd1 : ((x.size : Int) != (y.size : Int)) = true := bne_iff_ne.2 (by omega)
          clear hok q
          go_wp2
          go_ret
          exact ⟨ret_b2 (by rw [HV.out]), rfl⟩
      · have HL : Hid (∀ j (hj : j < l.length), j < k + 1 → likeOk l l[j] = true) := fun j hj hjk => by
          by_cases e : j = k
          · subst e; exact hok
          · exact HALL.out j hj (by omega)
        unfold likeOk at hok
        rw [headD_zero l (by omega), Bool.and_eq_true] at hok
        have q := of_decide_eq_true hok.1
        have q2 := of_decide_eq_true hok.2
        clear hok
        generalize l[k] = x at *
        generalize (l[0]'(by omega)) = y at *
        have hd1 : ((x.size : Int) != (y.size : Int)) = false := by rw [q]; simp
        have hd2 : decide ((20 : Int) < (x.size : Int)) = false := decide_eq_false (by omega)
        clear q
        go_wp2
        go_roundw
        case rel => exact ⟨k + 1, by omega, by go_num, HL.out, by trivial⟩
        case measure => simp [intOf]; omega
    · have HV : Hid (likeL l = true) := likeL_all l (fun j hj => HALL.out j hj (by omega))
      go_wp2
      go_ret
      exact ⟨ret_b2 (by rw [HV.out]), rfl⟩
/-- how many sources there may be -/
def manyB (n : Int) : Bool := decide (1 ≤ n ∧ n ≤ 10)
set_option maxHeartbeats 400000 in
theorem isMany_any (n : Int) (w : World) : Calls Try.prog 36 #[.int .i64 n] w fun e w' => e = .returned (.bool (manyB n)) ∧ w' = w := by
  by_cases h1 : 1 ≤ n
  · have d1 : decide ((1 : Int) ≤ n) = true := decide_eq_true h1
    go_enter Try.func36, Try.ntmps36
    go_wp2
    go_ret
    exact ⟨ret_b2 (by unfold manyB; simp [h1]), rfl⟩
  · have d1 : decide ((1 : Int) ≤ n) = false := decide_eq_false h1
    go_enter Try.func36, Try.ntmps36
    go_wp2
    go_ret
    exact ⟨ret_b2 (by unfold manyB; rw [decide_eq_false (by omega)]), rfl⟩
set_option maxHeartbeats 1000000 in
theorem igoodSr_any (a : Option Addr) (cap : Nat) (l : List ByteArray) (w : World) (hn : l.length ≤ 1048576) (hs : ∀ s ∈ l, s.size ≤ 9223372036854775807) (hZ : Ss w.heap.size a l w) :
    Calls Try.prog 12 #[.slice a l.length cap] w fun e w' => e = .returned (.bool (goodSr l)) ∧ w' = w := by
  have HC := hid (alikeLong_any a cap l w hn hs hZ)
  clear hZ hs
  have hm : manyB (l.length : Int) = decide (1 ≤ l.length ∧ l.length ≤ 10) := by unfold manyB; apply decide_eq_decide.2; omega
  have HM : Hid (manyB (l.length : Int) = decide (1 ≤ l.length ∧ l.length ≤ 10)) := hm
  clear hm
  go_enter Try.func12, Try.ntmps12
  go_wp2_with fail
  refine (isMany_any _ _).mono ?_
  rintro e w2 ⟨rfl, hw2⟩
  rw [hw2]
  clear hw2
  cases h : manyB (l.length : Int)
  · go_wp2_with fail
    go_ret
    exact ⟨ret_b2 (by unfold goodSr; rw [← HM.out, h]; rfl), rfl⟩
  · go_wp2_with fail
    refine HC.out.mono ?_
    rintro e w2 ⟨rfl, hw2⟩
    rw [hw2]
    clear hw2
    go_wp2_with fail
    go_ret
    exact ⟨ret_b2 (by unfold goodSr; rw [← HM.out, h]; rfl), rfl⟩
end Go.Proofs.Ytnjeeeccfhpolaa
