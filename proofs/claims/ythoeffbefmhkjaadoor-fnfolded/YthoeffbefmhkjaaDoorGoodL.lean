/- Lists of records that are good: the model's l3Good. -/
import Derived.Test.YthoeffbefmhkjaaDoorQA
namespace Go.Proofs.YthoeffbefmhkjaaDoor
set_option maxRecDepth 100000
open Go.ChangeShapes Go.WideShapes Go.ChangeAt Go.RowKit G00541
def goodL (l : List Rc) : Bool := l.all goodR
theorem goodL_bad (l : List Rc) (k : Nat) (h : k < l.length) (hb : goodR l[k] = false) : goodL l = false := by
  unfold goodL
  rw [List.all_eq_false]
  exact ⟨l[k], List.getElem_mem h, by rw [hb]; decide⟩
theorem good_at {l : List Rc} (h : goodL l = true) (k : Nat) (hk : k < l.length) : goodR l[k] = true := List.all_eq_true.1 h _ (List.getElem_mem hk)
set_option maxHeartbeats 1000000 in
theorem l3good_any (a : Option Addr) (cap : Nat) (l : List Rc) (w : World) (hn : l.length ≤ 1048576) (hZ : Rs w.heap.size a l w) :
    Calls Tryd.prog 33 #[.slice a l.length cap] w fun e w' => e = .returned (.bool (goodL l)) ∧ Below w.heap.size w w' := by
  have HZ : Hid (Rs w.heap.size a l w) := hZ
  clear hZ
  go_enter Tryd.func33, Tryd.ntmps33
  go_wp2
  go_loopw [7] (fun i wr => ∃ k : Nat, k ≤ l.length ∧ i = .int .i64 k ∧ (∀ j (hj : j < l.length), j < k → goodR l[j] = true) ∧ Below w.heap.size w wr) (fun i _ => l.length - (intOf i).toNat)
  case atStart => exact ⟨0, Nat.zero_le _, rfl, fun _ _ h => absurd h (Nat.not_lt_zero _), Below.refl _ _⟩
  case round =>
    obtain ⟨k, hk, rfl, hall, hbel⟩ := hrel
    have HALL : Hid (∀ j (hj : j < l.length), j < k → goodR l[j] = true) := hall
    have HBEL : Hid (Below w.heap.size w wr) := hbel
    clear hall hbel
    by_cases hlt : k < l.length
    · obtain ⟨b, off, rfl, hb, hcells⟩ := HZ.out.cell (by omega)
      obtain ⟨c0, c1, c2, c3⟩ := hcells k hlt
      have hb' : ∀ o, wr.cell? ⟨b, o, none⟩ = w.cell? ⟨b, o, none⟩ := fun o => HBEL.out.cell (p := ⟨b, o, none⟩) hb
      rw [← hb'] at c0 c1 c2 c3
      clear hcells hb'
      have HC : Hid (∀ v, Calls Tryd.prog 49 #[.agg #[.int .i64 l[k].kind, .int .i64 l[k].place, .int .i64 l[k].long, .string (str l[k].data)]] v fun e w' => e = .returned (.bool (goodR l[k])) ∧ Below v.heap.size v w') := fun v => by
        have := sgood_any l[k].kind l[k].place l[k].long (str l[k].data) v
        rw [str_list] at this
        exact this
      cases hg : goodR l[k]
      · have HB : Hid (goodL l = false) := goodL_bad l k hlt hg
        rw [hg] at HC
        clear hg
        generalize l[k].kind = rk at *
        generalize l[k].place = rp at *
        generalize l[k].long = rn at *
        generalize str l[k].data = rd at *
        go_wp2_with fail
        refine (HC.out _).mono ?_
        rintro e w1 ⟨rfl, b1⟩
        have HB1 : Hid (Below w.heap.size w w1) := (HBEL.out.alloc HBEL.out.size _).trans (b1.mono (by have := HBEL.out.size; simp; omega))
        clear b1
        go_wp2
        go_ret
        exact ⟨by rw [HB.out]; rfl, HB1.out⟩
      · have HL : Hid (∀ j (hj : j < l.length), j < k + 1 → goodR l[j] = true) := fun j hj hjk => by
          by_cases e : j = k
          · subst e; exact hg
          · exact HALL.out j hj (by omega)
        rw [hg] at HC
        clear hg
        generalize l[k].kind = rk at *
        generalize l[k].place = rp at *
        generalize l[k].long = rn at *
        generalize str l[k].data = rd at *
        go_wp2_with fail
        refine (HC.out _).mono ?_
        rintro e w1 ⟨rfl, b1⟩
        have HB1 : Hid (Below w.heap.size w w1) := (HBEL.out.alloc HBEL.out.size _).trans (b1.mono (by have := HBEL.out.size; simp; omega))
        clear b1
        go_wp2
        go_roundw
        case rel => exact ⟨k + 1, by omega, by go_num, HL.out, HB1.out⟩
        case measure => simp [intOf]; omega
    · have HG : Hid (goodL l = true) := by
        show l.all goodR = true
        rw [List.all_eq_true]
        intro x hx
        obtain ⟨j, hj, rfl⟩ := List.getElem_of_mem hx
        exact HALL.out j hj (by omega)
      go_wp2
      go_ret
      exact ⟨by rw [HG.out]; rfl, HBEL.out⟩
end Go.Proofs.YthoeffbefmhkjaaDoor
