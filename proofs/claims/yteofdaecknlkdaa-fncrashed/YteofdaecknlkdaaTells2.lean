/- What both sides tell of a device: what is read, the open ones, a new one; whether a number is among some. -/
import Derived.Test.YteofdaecknlkdaaTells
import Derived.Test.YteofdaecknlkdaaSRead
import Derived.Test.YteofdaecknlkdaaIRead
import Derived.Test.YteofdaecknlkdaaSOpen
import Derived.Test.YteofdaecknlkdaaIOpen
import Derived.Test.YteofdaecknlkdaaSNew
import Derived.Test.YteofdaecknlkdaaIntD
namespace Go.Proofs.Yteofdaecknlkdaa
set_option maxRecDepth 100000
open Go.ChangeShapes Go.WideShapes Go.ChangeAt Go.RowKit
def TellsR (f : Nat) (zs : List Zn) (k x l : Int) (s : ByteArray) (ok : Bool) : Prop := ∀ (a : Option Addr) (cap : Nat) (w : World), Zs w.heap.size a zs w →
  Calls Try.prog f #[.agg #[.slice a zs.length cap], .int .i64 k, .int .i64 x, .int .i64 l] w fun e w' => e = .returned (.tuple #[.string s, .bool ok]) ∧ Below w.heap.size w w'
def TellsO (f : Nat) (zs : List Zn) (l : List Int) (ok : Bool) : Prop := ∀ (a : Option Addr) (cap : Nat) (w : World), Zs w.heap.size a zs w →
  Calls Try.prog f #[.agg #[.slice a zs.length cap]] w fun e w' => ∃ b c, e = .returned (.tuple #[.slice b l.length c, .bool ok]) ∧ OwnI w.heap.size w'.heap.size b l w' ∧ Below w.heap.size w w'
def TellsN (f : Nat) (n : Int) (V : List Zn) (ok : Bool) : Prop := ∀ (w : World),
  Calls Try.prog f #[.int .i64 n] w fun e w' => ∃ b c, e = .returned (.tuple #[.agg #[.slice b V.length c], .bool ok]) ∧ Own w.heap.size w'.heap.size b V w' ∧ Below w.heap.size w w'
theorem read_tells (zs : List Zn) (k x l : Int) (hn : zs.length ≤ 1048576) : ∃ (s : ByteArray) (ok : Bool), TellsR 22 zs k x l s ok ∧ TellsR 11 zs k x l s ok := by
  by_cases h : there zs k
  · obtain ⟨n, rfl⟩ : ∃ n : Nat, k = n := ⟨k.toNat, by have := h.2.1; omega⟩
    have hk : n < zs.length := by have := h.2.2; omega
    by_cases hf : x < 0 ∨ (zs[n].data.size : Int) < x
    · exact ⟨⟨#[]⟩, false, fun a c v hv => read_out a c zs n x l v hv h hk hf, fun a c v hv => iread_out a c zs n x l v hv h hk hf⟩
    · have f0 : 0 ≤ x := by omega
      have f1 : x ≤ (zs[n].data.size : Int) := by omega
      by_cases hg : l < 0 ∨ (zs[n].data.size : Int) - x < l
      · exact ⟨⟨#[]⟩, false, fun a c v hv => read_long a c zs n x l v hv h hk f0 f1 hg, fun a c v hv => iread_long a c zs n x l v hv h hk f0 f1 hg⟩
      · obtain ⟨i, rfl⟩ : ∃ i : Nat, x = i := ⟨x.toNat, by omega⟩
        obtain ⟨j, rfl⟩ : ∃ j : Nat, l = j := ⟨l.toNat, by omega⟩
        have hfl : i + j ≤ zs[n].data.size := by omega
        exact ⟨zs[n].data.extract i (i + j), true, fun a c v hv => read_yes a c zs n i j v hv h hk hfl, fun a c v hv => iread_yes a c zs n i j v hv h hk hfl⟩
  · exact ⟨⟨#[]⟩, false, fun a c v hv => read_none a c zs k x l v hn hv h, fun a c v hv => iread_none a c zs k x l v hn hv h⟩
theorem ivals_flat (l : List Int) : (l.map icell).flatten = ivals l := by
  induction l with
  | nil => rfl
  | cons x l ih => rw [List.map_cons, List.flatten_cons, ih]; rfl
theorem own_ints {w w' : World} {v : Value} {l : List Int} (h : w'.ownsRow w.heap.size 3 1 v l.length (ivals l)) : ∃ b c, v = .slice b l.length c ∧ OwnI w.heap.size w'.heap.size b l w' := by
  by_cases hv : v = .slice none 0 0
  · have h0 : l.length = 0 := by
      rcases h.2 with ⟨_, h0⟩ | ⟨g, cap, cur, e, _⟩
      · exact h0
      · rw [hv] at e; cases e
    exact ⟨none, 0, by rw [hv, h0], Or.inl (List.eq_nil_of_length_eq_zero h0)⟩
  · rw [← ivals_flat] at h
    obtain ⟨R, cap, e, hR, hrow⟩ := GRow.ofOwns (rows := l.map icell) (fun i hi => by rw [List.getElem_map]; rfl) h (by simp) hv
    exact ⟨some ⟨R, 0, none⟩, cap, e, Or.inr ⟨R, hR, GRow.lt hrow, rfl, hrow⟩⟩
theorem open_tells (zs : List Zn) (hn : zs.length ≤ 1048576) : ∃ (l : List Int) (ok : Bool), TellsO 18 zs l ok ∧ TellsO 12 zs l ok ∧ l.length ≤ 1048576 ∧ (goodD zs = true → ok = true ∧ l = opens zs zs.length) := by
  cases h : goodD zs
  · refine ⟨[], false, fun a c v hv => (open_no a c zs v hn hv h).mono ?_, fun a c v hv => (iopen_no a c zs v hn hv h).mono ?_, by simp, fun h => (by cases h)⟩
    all_goals
      rintro e w' ⟨rfl, hb⟩
      exact ⟨none, 0, rfl, Or.inl rfl, hb⟩
  · refine ⟨opens zs zs.length, true, fun a c v hv => (open_yes a c zs v hv h).mono ?_, fun a c v hv => (iopen_yes a c zs v hv h).mono ?_, Nat.le_trans (opens_len _ _) hn, fun _ => ⟨rfl, rfl⟩⟩
    all_goals
      rintro e w' ⟨x, rfl, hown, hb⟩
      obtain ⟨b, c, rfl, ho⟩ := own_ints hown
      exact ⟨b, c, rfl, ho, hb⟩
theorem new_tells (n : Int) : ∃ (V : List Zn) (ok : Bool), TellsN 25 n V ok ∧ TellsN 24 n V ok ∧ V.length ≤ 1048576 := by
  by_cases h : 1 ≤ n ∧ n ≤ 6
  · obtain ⟨m, rfl⟩ : ∃ m : Nat, n = m := ⟨n.toNat, by omega⟩
    refine ⟨List.replicate m zeroZ, true, fun v => (new_yes m v (by omega) (by omega)).mono ?_, fun v => (inew_yes m v (by omega) (by omega)).mono ?_, by rw [List.length_replicate]; omega⟩
    all_goals
      rintro e w' ⟨R, c, hR, rfl, hrow, hb⟩
      exact ⟨_, c, by rw [List.length_replicate], Or.inr ⟨R, hR, hrow.lt, rfl, hrow⟩, hb⟩
  · have h' : n < 1 ∨ 6 < n := by omega
    refine ⟨[], false, fun v => (new_no n v h').mono ?_, fun v => (inew_no n v h').mono ?_, by simp⟩
    all_goals
      rintro e w' ⟨rfl, hb⟩
      exact ⟨none, 0, rfl, Or.inl rfl, hb⟩
theorem open_count (zs : List Zn) : ∀ k, k ≤ zs.length → (opens zs k).length = ((zs.take k).filter openZ).length
  | 0, _ => by simp [opens]
  | k + 1, h => by
    rw [opens_step zs k (by omega), count_step zs k (by omega), List.length_append, open_count zs k (by omega)]
    split <;> rfl
theorem opens_all (zs : List Zn) : (opens zs zs.length).length = (zs.filter openZ).length := by
  rw [open_count zs zs.length (Nat.le_refl _), List.take_length]
theorem goodD_open {zs : List Zn} (h : goodD zs = true) : (opens zs zs.length).length ≤ 3 := by
  rw [opens_all]
  unfold goodD at h
  rw [Bool.and_eq_true] at h
  exact (of_decide_eq_true h.2).2.2
/-- a finished zone among the others: one open one less -/
theorem filter_set (zs : List Zn) (n : Nat) (hk : n < zs.length) (z : Zn) (ho : openZ zs[n] = true) (hz : openZ z = false) : ((zs.set n z).filter openZ).length + 1 = (zs.filter openZ).length := by
  have e : zs = zs.take n ++ zs[n] :: zs.drop (n + 1) := by rw [← List.drop_eq_getElem_cons hk, List.take_append_drop]
  have e2 : zs.set n z = zs.take n ++ z :: zs.drop (n + 1) := by rw [List.set_eq_take_append_cons_drop, if_pos hk]
  have c1 : (zs.filter openZ).length = ((zs.take n).filter openZ).length + (1 + ((zs.drop (n + 1)).filter openZ).length) := by
    conv => lhs; rw [e]
    rw [List.filter_append, List.length_append, List.filter_cons, if_pos ho, List.length_cons]; omega
  rw [e2, List.filter_append, List.length_append, List.filter_cons, hz, c1]
  simp
  omega
theorem goodD_finish {zs : List Zn} (h : goodD zs = true) (n : Nat) (hk : n < zs.length) (ho : openZ zs[n] = true) : goodD (zs.set n ⟨zs[n].data, zs[n].sure, true⟩) = true := by
  have hz : openZ ⟨zs[n].data, zs[n].sure, true⟩ = false := by unfold openZ; simp
  have hf := filter_set zs n hk _ ho hz
  have hg := goodD_at h n hk
  unfold goodD at h ⊢
  rw [Bool.and_eq_true] at h ⊢
  have h2 := of_decide_eq_true h.2
  refine ⟨List.all_eq_true.2 fun y hy => ?_, decide_eq_true ⟨by rw [List.length_set]; exact h2.1, by rw [List.length_set]; exact h2.2.1, by omega⟩⟩
  rcases List.mem_or_eq_of_mem_set hy with hy | rfl
  · exact List.all_eq_true.1 h.1 y hy
  · have hg' := of_decide_eq_true hg
    exact decide_eq_true ⟨hg'.1, hg'.2.1, hg'.2.2.1, fun _ => rfl⟩
theorem finish_len {zs : List Zn} (n : Nat) (hk : n < zs.length) (ho : openZ zs[n] = true) : (opens (zs.set n ⟨zs[n].data, zs[n].sure, true⟩) (zs.set n ⟨zs[n].data, zs[n].sure, true⟩).length).length + 1 = (opens zs zs.length).length := by
  rw [opens_all, opens_all]
  exact filter_set zs n hk _ ho (by unfold openZ; simp)
theorem opens_not (zs : List Zn) (n : Nat) (hk : n < zs.length) (h : openZ zs[n] = false) (k : Nat) : (n : Int) ∉ opens zs k := by
  unfold opens
  intro hm
  obtain ⟨i, hi, e⟩ := List.mem_map.1 hm
  have e' : i = n := by unfold toI at e; omega
  subst e'
  have := (List.mem_filter.1 hi).2
  unfold openAt at this
  rw [List.getElem?_eq_getElem hk] at this
  have t2 : openZ zs[i] = true := this
  rw [h] at t2
  cases t2
theorem finish_not {zs : List Zn} (n : Nat) (hk : n < zs.length) : (n : Int) ∉ opens (zs.set n ⟨zs[n].data, zs[n].sure, true⟩) (zs.set n ⟨zs[n].data, zs[n].sure, true⟩).length :=
  opens_not _ n (by rw [List.length_set]; exact hk) (by rw [List.getElem_set_self]; unfold openZ; simp) _
set_option maxHeartbeats 1000000 in
theorem among_no (a : Option Addr) (cap : Nat) (l : List Int) (n : Int) (w : World) (hn : l.length ≤ 1048576) (hI : Is w.heap.size a l w) (h : n ∉ l) :
    Calls Try.prog 20 #[.slice a l.length cap, .int .i64 n] w fun e w' => e = .returned (.bool false) ∧ w' = w := by
  have HI : Hid (Is w.heap.size a l w) := hI
  have HN : Hid (n ∉ l) := h
  clear hI h
  go_enter Try.func20, Try.ntmps20
  go_wp2
  go_loop [9] (fun i => ∃ k : Nat, k ≤ l.length ∧ i = .int .i64 k) (fun i => l.length - (intOf i).toNat)
  case atStart => exact ⟨0, Nat.zero_le _, rfl⟩
  case round =>
    obtain ⟨k, hk, rfl⟩ := hrel
    by_cases hlt : k < l.length
    · obtain ⟨b, o, rfl, hb, hc⟩ := HI.out.cell (by omega)
      have x0 := hc k hlt
      have hne : (l[k] == n) = false := by
        have : l[k] ≠ n := fun e => HN.out (e ▸ List.getElem_mem hlt)
        simpa using this
      clear hc
      generalize l[k] = m at *
      go_wp2
      go_round
      case rel => exact ⟨k + 1, by omega, by go_num⟩
      case measure => simp [intOf]; omega
    · go_wp2
      go_ret
      exact ⟨rfl, rfl⟩
end Go.Proofs.Yteofdaecknlkdaa
