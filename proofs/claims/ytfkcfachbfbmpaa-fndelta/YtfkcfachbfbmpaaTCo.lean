/- CostOf of both sides. -/
import Derived.Test.YtfkcfachbfbmpaaTGd
namespace Go.Proofs.Ytfkcfachbfbmpaa
set_option maxRecDepth 100000
open Go Go.ChangeShapes Go.WideShapes Go.ChangeAt Go.RowKit
def costP (p : Pt) : Nat := if p.tx.size = 0 then 3 else 1 + p.tx.size
def costD : List Pt → Nat
  | [] => 0
  | p :: l => costP p + costD l
theorem costD_snoc (l : List Pt) (p : Pt) : costD (l ++ [p]) = costD l + costP p := by
  induction l with
  | nil => simp [costD]
  | cons q l ih => simp only [List.cons_append, costD, ih]; omega
theorem costD_le (l : List Pt) (h : ∀ p ∈ l, p.tx.size ≤ 1048576) : costD l ≤ l.length * 1048579 := by
  induction l with
  | nil => exact Nat.le_refl _
  | cons p l ih =>
    have h1 := ih (fun x hx => h x (List.mem_cons_of_mem _ hx))
    have h2 := h p (List.mem_cons_self ..)
    have h3 : costP p ≤ 1048577 := by unfold costP; split <;> omega
    simp only [costD, List.length_cons]
    omega
/-- what CostOf answers -/
def costV (l : List Pt) : Nat := cond (decide (l.length ≤ 60)) (costD l) 0
set_option maxHeartbeats 1000000 in
theorem sCost_any (a : Option Addr) (cap : Nat) (l : List Pt) (w : World) (hz : ∀ r ∈ l, r.tx.size ≤ 1048576) (hZ : Pts w.heap.size a l w) :
    Calls Try.prog 18 #[.slice a l.length cap] w fun e w' => e = .returned (.tuple #[.int .i64 (costV l : Nat), .bool (decide (l.length ≤ 60))]) ∧ Below w.heap.size w w' := by
  by_cases h : l.length ≤ 60
  · have hd : decide ((60 : Int) < (l.length : Int)) = false := decide_eq_false (by omega)
    have HV : Hid (costV l = costD l) := by show costV l = _; unfold costV; rw [decide_eq_true h]; rfl
    rw [decide_eq_true h]
    generalize costV l = cv at *
    have HZ := hid hZ
    have HT := hid hz
    clear hZ hz
    go_enter Try.func18, Try.ntmps18
    go_wp2_with fail
    go_loopw [4, 12] (fun t i wr => ∃ k n : Nat, k ≤ l.length ∧ i = .int .i64 k ∧ t = .int .i64 n ∧ n = costD (l.take k) ∧ Below w.heap.size w wr) (fun _ i _ => l.length - (intOf i).toNat)
    case atStart => exact ⟨0, 0, Nat.zero_le _, rfl, rfl, rfl, Below.refl _ _⟩
    case round =>
      obtain ⟨k, n, hk, rfl, rfl, hnl, hbel⟩ := hrel
      have HBEL := hid hbel
      have HNL := hid hnl
      have hb2 : n ≤ 100000000 := by
        have h1 := costD_le (l.take k) (fun p hp => HT.out p (List.mem_of_mem_take hp))
        rw [← hnl, List.length_take, Nat.min_eq_left hk] at h1
        omega
      clear hbel hnl
      by_cases hlt : k < l.length
      · obtain ⟨b, off, rfl, hb, hcells⟩ := HZ.out.cell (by omega)
        obtain ⟨c0, c1, c2⟩ := hcells k hlt
        have hb' : ∀ o, wr.cell? ⟨b, o, none⟩ = w.cell? ⟨b, o, none⟩ := fun o => HBEL.out.cell (p := ⟨b, o, none⟩) hb
        rw [← hb'] at c0 c1 c2
        clear hcells hb'
        have HTK : Hid (costD (l.take (k + 1)) = n + costP l[k]) := by
          show _ = _
          rw [List.take_succ_eq_append_getElem hlt, costD_snoc, ← HNL.out]
        have hzk := HT.out _ (List.getElem_mem hlt)
        have HG := hid (fun cs => boxB wr (.cells cs 63))
        by_cases hD : l[k].tx.size = 0
        · have HC : Hid (costP l[k] = 3) := by show costP l[k] = 3; unfold costP; rw [if_pos hD]
          have hDe := ba_zero hD
          rw [hDe] at c2
          clear hDe hD hzk
          generalize l[k].fr = fr at *
          generalize l[k].lg = lg at *
          go_wp2_with fail
          go_roundw
          case rel => exact ⟨k + 1, n + 3, by omega, by go_num, by go_num, by rw [HTK.out, HC.out], HBEL.out.trans ((HG.out _).mono HBEL.out.size)⟩
          case measure => simp [intOf]; omega
        · have HC : Hid (costP l[k] = 1 + l[k].tx.size) := by show costP l[k] = _; unfold costP; rw [if_neg hD]
          have hne := ba_some hD
          generalize hfr : l[k].fr = fr at *
          generalize hlg : l[k].lg = lg at *
          generalize hDD : l[k].tx = D at *
          clear hfr hlg hDD
          go_wp2_with fail
          go_roundw
          case rel => exact ⟨k + 1, n + (1 + D.size), by omega, by go_num, by go_num, by rw [HTK.out, HC.out], HBEL.out.trans ((HG.out _).mono HBEL.out.size)⟩
          case measure => simp [intOf]; omega
      · obtain rfl : k = l.length := by omega
        rw [List.take_length] at HNL
        go_wp2_with fail
        go_ret2
        refine ⟨?_, HBEL.out⟩
        rw [HV.out, ← HNL.out]
        rfl
  · have hd : decide ((60 : Int) < (l.length : Int)) = true := decide_eq_true (by omega)
    have HV : Hid (costV l = 0) := by show costV l = _; unfold costV; rw [decide_eq_false h]; rfl
    rw [HV.out, decide_eq_false h]
    clear hZ hz
    go_enter Try.func18, Try.ntmps18
    go_wp2_with fail
    go_ret2
    exact ⟨rfl, Below.refl _ _⟩
set_option maxHeartbeats 1000000 in
theorem iCost_any (a : Option Addr) (cap : Nat) (l : List Pt) (w : World) (hz : ∀ r ∈ l, r.tx.size ≤ 1048576) (hZ : Pts w.heap.size a l w) :
    Calls Try.prog 10 #[.slice a l.length cap] w fun e w' => e = .returned (.tuple #[.int .i64 (costV l : Nat), .bool (decide (l.length ≤ 60))]) ∧ Below w.heap.size w w' := by
  by_cases h : l.length ≤ 60
  · have hd : decide ((60 : Int) < (l.length : Int)) = false := decide_eq_false (by omega)
    have HV : Hid (costV l = costD l) := by show costV l = _; unfold costV; rw [decide_eq_true h]; rfl
    rw [decide_eq_true h]
    generalize costV l = cv at *
    have HZ := hid hZ
    have HT := hid hz
    clear hZ hz
    go_enter Try.func10, Try.ntmps10
    go_wp2_with fail
    go_loopw [4, 12] (fun t i wr => ∃ k n : Nat, k ≤ l.length ∧ i = .int .i64 k ∧ t = .int .i64 n ∧ n = costD (l.take k) ∧ Below w.heap.size w wr) (fun _ i _ => l.length - (intOf i).toNat)
    case atStart => exact ⟨0, 0, Nat.zero_le _, rfl, rfl, rfl, Below.refl _ _⟩
    case round =>
      obtain ⟨k, n, hk, rfl, rfl, hnl, hbel⟩ := hrel
      have HBEL := hid hbel
      have HNL := hid hnl
      have hb2 : n ≤ 100000000 := by
        have h1 := costD_le (l.take k) (fun p hp => HT.out p (List.mem_of_mem_take hp))
        rw [← hnl, List.length_take, Nat.min_eq_left hk] at h1
        omega
      clear hbel hnl
      by_cases hlt : k < l.length
      · obtain ⟨b, off, rfl, hb, hcells⟩ := HZ.out.cell (by omega)
        obtain ⟨c0, c1, c2⟩ := hcells k hlt
        have hb' : ∀ o, wr.cell? ⟨b, o, none⟩ = w.cell? ⟨b, o, none⟩ := fun o => HBEL.out.cell (p := ⟨b, o, none⟩) hb
        rw [← hb'] at c0 c1 c2
        clear hcells hb'
        have HTK : Hid (costD (l.take (k + 1)) = n + costP l[k]) := by
          show _ = _
          rw [List.take_succ_eq_append_getElem hlt, costD_snoc, ← HNL.out]
        have hzk := HT.out _ (List.getElem_mem hlt)
        have HG := hid (fun cs => boxB wr (.cells cs 63))
        by_cases hD : l[k].tx.size = 0
        · have HC : Hid (costP l[k] = 3) := by show costP l[k] = 3; unfold costP; rw [if_pos hD]
          have hDe := ba_zero hD
          rw [hDe] at c2
          clear hDe hD hzk
          generalize l[k].fr = fr at *
          generalize l[k].lg = lg at *
          go_wp2_with fail
          go_roundw
          case rel => exact ⟨k + 1, n + 3, by omega, by go_num, by go_num, by rw [HTK.out, HC.out], HBEL.out.trans ((HG.out _).mono HBEL.out.size)⟩
          case measure => simp [intOf]; omega
        · have HC : Hid (costP l[k] = 1 + l[k].tx.size) := by show costP l[k] = _; unfold costP; rw [if_neg hD]
          have hne := ba_some hD
          generalize hfr : l[k].fr = fr at *
          generalize hlg : l[k].lg = lg at *
          generalize hDD : l[k].tx = D at *
          clear hfr hlg hDD
          go_wp2_with fail
          go_roundw
          case rel => exact ⟨k + 1, n + (1 + D.size), by omega, by go_num, by go_num, by rw [HTK.out, HC.out], HBEL.out.trans ((HG.out _).mono HBEL.out.size)⟩
          case measure => simp [intOf]; omega
      · obtain rfl : k = l.length := by omega
        rw [List.take_length] at HNL
        go_wp2_with fail
        go_ret2
        refine ⟨?_, HBEL.out⟩
        rw [HV.out, ← HNL.out]
        rfl
  · have hd : decide ((60 : Int) < (l.length : Int)) = true := decide_eq_true (by omega)
    have HV : Hid (costV l = 0) := by show costV l = _; unfold costV; rw [decide_eq_false h]; rfl
    rw [HV.out, decide_eq_false h]
    clear hZ hz
    go_enter Try.func10, Try.ntmps10
    go_wp2_with fail
    go_ret2
    exact ⟨rfl, Below.refl _ _⟩
end Go.Proofs.Ytfkcfachbfbmpaa
