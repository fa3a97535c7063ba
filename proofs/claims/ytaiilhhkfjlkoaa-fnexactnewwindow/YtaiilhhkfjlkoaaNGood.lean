/- What a good window is: plain; small walks of both sides. -/
import Derived.Test.YtaiilhhkfjlkoaaNWin
import Derived.BigQuiet
import Derived.Deep.RegionHeld
namespace Go.Proofs.Ytaiilhhkfjlkoaa
set_option maxRecDepth 100000
open Go.ChangeShapes Go.WideShapes Go.ChangeAt Go.RowKit
def sEq (a b : ByteArray) : Bool := a.toList == b.toList
def sNil (a : ByteArray) : Bool := a.toList == []
theorem sEq_refl (a : ByteArray) : sEq a a = true := by simp [sEq]
/-- how many are there without a gap -/
def toldN (l : List Bool) : Nat := (l.takeWhile id).length
theorem toldN_eq : ∀ (l : List Bool) (n : Nat), (∀ j (h : j < l.length), j < n → l[j] = true) → (n = l.length ∨ ∃ h : n < l.length, l[n] = false) → toldN l = n
  | [], n, _, h2 => by
    rcases h2 with h | ⟨h, _⟩
    · simp at h; subst h; rfl
    · exact absurd h (by simp)
  | b :: l, 0, _, h2 => by
    rcases h2 with h | ⟨h, hb⟩
    · simp at h
    · have : b = false := hb
      subst this; rfl
  | b :: l, n + 1, h1, h2 => by
    have hb : b = true := h1 0 (by simp) (by omega)
    subst hb
    have := toldN_eq l n (fun j hj hjn => h1 (j + 1) (by simpa using hj) (by omega)) (by
      rcases h2 with h | ⟨h, hb⟩
      · exact Or.inl (by simpa using h)
      · exact Or.inr ⟨by simpa using h, hb⟩)
    show ((true :: l).takeWhile id).length = n + 1
    rw [List.takeWhile_cons]
    simpa [toldN] using this
theorem toldN_le : ∀ (l : List Bool), toldN l ≤ l.length
  | [] => Nat.le_refl _
  | false :: l => Nat.zero_le _
  | true :: l => by
    have := toldN_le l
    show ((true :: l).takeWhile id).length ≤ (true :: l).length
    rw [List.takeWhile_cons]
    simpa [toldN] using this
def pcOk (l : List ByteArray) : Bool := decide (l.length ≤ 12) && l.all (fun s => decide (s.size ≤ 20))
theorem pcOk_iff {l : List ByteArray} : pcOk l = true ↔ l.length ≤ 12 ∧ ∀ k (h : k < l.length), l[k].size ≤ 20 := by
  unfold pcOk
  rw [Bool.and_eq_true, decide_eq_true_eq, List.all_eq_true]
  constructor
  · rintro ⟨h1, h2⟩; exact ⟨h1, fun k hk => of_decide_eq_true (h2 _ (List.getElem_mem hk))⟩
  · rintro ⟨h1, h2⟩; refine ⟨h1, fun x hx => ?_⟩
    obtain ⟨k, hk, rfl⟩ := List.getElem_of_mem hx
    exact decide_eq_true (h2 k hk)
theorem pcOk_no {l : List ByteArray} (h : ¬ (l.length ≤ 12 ∧ ∀ k (h : k < l.length), l[k].size ≤ 20)) : pcOk l = false := by
  cases g : pcOk l
  · rfl
  · exact absurd (pcOk_iff.1 g) h
def szOk (n : Int) : Bool := decide (1 ≤ n ∧ n ≤ 12)
def eOk (has : Bool) (held piece : ByteArray) (heard : Bool) : Bool := cond has (sEq held piece) (sNil held && !heard)
def endK (X : Wd) (k : Nat) : Bool := eOk (X.hs.getD k false) (X.hl.getD k ⟨#[]⟩) (X.pc.getD k ⟨#[]⟩) (X.hd.getD k false)
def frK (X : Wd) (f : Fr) : Bool := decide (0 ≤ f.no ∧ f.no < X.pc.length) && cond f.back (sNil f.tx && X.hs.getD f.no.toNat false) (sEq f.tx (X.pc.getD f.no.toNat ⟨#[]⟩))
/-- a good window -/
structure GoodW (X : Wd) : Prop where
  pcs : pcOk X.pc = true
  size : szOk X.sz = true
  nh : X.hd.length = X.pc.length
  ne : X.hl.length = X.pc.length
  ns : X.hs.length = X.pc.length
  told : X.td = (toldN X.hs : Int)
  line : X.ln.length ≤ 30
  ends : ∀ k, k < X.pc.length → endK X k = true
  frs : ∀ k (h : k < X.ln.length), frK X X.ln[k] = true
def goodW (X : Wd) : Bool := pcOk X.pc && szOk X.sz && decide (X.hd.length = X.pc.length) && decide (X.hl.length = X.pc.length) && decide (X.hs.length = X.pc.length) && decide (X.td = (toldN X.hs : Int)) && decide (X.ln.length ≤ 30) && (List.range X.pc.length).all (endK X) && X.ln.all (frK X)
theorem goodW_iff {X : Wd} : goodW X = true ↔ GoodW X := by
  unfold goodW
  simp only [Bool.and_eq_true, decide_eq_true_eq, List.all_eq_true, List.mem_range]
  constructor
  · rintro ⟨⟨⟨⟨⟨⟨⟨⟨h1, h2⟩, h3⟩, h4⟩, h5⟩, h6⟩, h7⟩, h8⟩, h9⟩
    exact ⟨h1, h2, h3, h4, h5, h6, h7, h8, fun k hk => h9 _ (List.getElem_mem hk)⟩
  · intro h
    refine ⟨⟨⟨⟨⟨⟨⟨⟨h.pcs, h.size⟩, h.nh⟩, h.ne⟩, h.ns⟩, h.told⟩, h.line⟩, h.ends⟩, fun x hx => ?_⟩
    obtain ⟨k, hk, rfl⟩ := List.getElem_of_mem hx
    exact h.frs k hk
theorem goodW_no {X : Wd} (h : ¬ GoodW X) : goodW X = false := by
  cases g : goodW X
  · rfl
  · exact absurd (goodW_iff.1 g) h
theorem getD_at {α : Type} {l : List α} {k : Nat} (h : k < l.length) (d : α) : l.getD k d = l[k] := by
  rw [List.getD_eq_getElem?_getD, List.getElem?_eq_getElem h]; rfl
theorem ret_bN {a b : Bool} (h : a = b) : Ending.returned (.bool a) = .returned (.bool b) := by rw [h]
theorem ret_iN {a b : Int} (h : a = b) : Ending.returned (.int .i64 a) = .returned (.int .i64 b) := by rw [h]
set_option maxHeartbeats 1000000 in
theorem l9Told_any (a : Option Addr) (cap : Nat) (l : List Bool) (w : World) (hn : l.length ≤ 1048576) (hZ : Bs w.heap.size a l w) :
    Calls Try.prog 50 #[.slice a l.length cap] w fun e w' => e = .returned (.int .i64 (toldN l : Nat)) ∧ w' = w := by
  have HZ := hid hZ
  clear hZ
  go_enter Try.func50, Try.ntmps50
  go_wp2
  go_loopw [3] (fun i wr => ∃ k : Nat, k ≤ l.length ∧ i = .int .i64 k ∧ (∀ j (h : j < l.length), j < k → l[j] = true) ∧ wr = w) (fun i _ => l.length - (intOf i).toNat)
  case atStart => exact ⟨0, Nat.zero_le _, rfl, fun _ _ h => absurd h (Nat.not_lt_zero _), rfl⟩
  case round =>
    obtain ⟨k, hk, rfl, hall, hwr⟩ := hrel
    obtain rfl := hwr.symm
    have HALL := hid hall
    clear hall hwr
    by_cases hlt : k < l.length
    · obtain ⟨b, off, rfl, hb, hcells⟩ := HZ.out.cell (by omega)
      have c0 := hcells k hlt
      have HT : Hid (l[k] = false → toldN l = k) := fun h => toldN_eq l k HALL.out (Or.inr ⟨hlt, h⟩)
      have HN : Hid (l[k] = true → ∀ j (h : j < l.length), j < k + 1 → l[j] = true) := fun h j hj hjk => by
        by_cases e : j = k
        · subst e; exact h
        · exact HALL.out j hj (by omega)
      clear hcells HALL
      have d1 : decide ((k : Int) < (l.length : Int)) = true := decide_eq_true (by omega)
      have d2 : decide (k < l.length) = true := decide_eq_true hlt
      generalize l[k] = v at *
      cases v
      · have HE := hid (HT.out rfl)
        clear HT HN
        go_wp2
        go_ret
        exact ⟨ret_iN (by rw [HE.out]), rfl⟩
      · have HE := hid (HN.out rfl)
        clear HT HN
        go_wp2
        go_roundw
        case rel => exact ⟨k + 1, by omega, by go_num, HE.out, by trivial⟩
        case measure => simp [intOf]; omega
    · have d1 : decide ((k : Int) < (l.length : Int)) = false := decide_eq_false (by omega)
      have d2 : decide (k < l.length) = false := decide_eq_false hlt
      have HE := hid (toldN_eq l k HALL.out (Or.inl (by omega)))
      go_wp2
      go_ret
      exact ⟨ret_iN (by rw [HE.out]), rfl⟩
set_option maxHeartbeats 1000000 in
theorem withoutGap_any (a : Option Addr) (cap : Nat) (l : List Bool) (w : World) (hn : l.length ≤ 1048576) (hZ : Bs w.heap.size a l w) :
    Calls Try.prog 54 #[.slice a l.length cap] w fun e w' => e = .returned (.int .i64 (toldN l : Nat)) ∧ w' = w := by
  have HZ := hid hZ
  clear hZ
  go_enter Try.func54, Try.ntmps54
  go_wp2
  go_loopw [7] (fun i wr => ∃ k : Nat, k ≤ l.length ∧ i = .int .i64 k ∧ (∀ j (h : j < l.length), j < k → l[j] = true) ∧ wr = w) (fun i _ => l.length - (intOf i).toNat)
  case atStart => exact ⟨0, Nat.zero_le _, rfl, fun _ _ h => absurd h (Nat.not_lt_zero _), rfl⟩
  case round =>
    obtain ⟨k, hk, rfl, hall, hwr⟩ := hrel
    obtain rfl := hwr.symm
    have HALL := hid hall
    clear hall hwr
    by_cases hlt : k < l.length
    · obtain ⟨b, off, rfl, hb, hcells⟩ := HZ.out.cell (by omega)
      have c0 := hcells k hlt
      have HT : Hid (l[k] = false → toldN l = k) := fun h => toldN_eq l k HALL.out (Or.inr ⟨hlt, h⟩)
      have HN : Hid (l[k] = true → ∀ j (h : j < l.length), j < k + 1 → l[j] = true) := fun h j hj hjk => by
        by_cases e : j = k
        · subst e; exact h
        · exact HALL.out j hj (by omega)
      clear hcells HALL
      generalize l[k] = v at *
      cases v
      · have HE := hid (HT.out rfl)
        clear HT HN
        go_wp2
        go_ret
        exact ⟨ret_iN (by rw [HE.out]), rfl⟩
      · have HE := hid (HN.out rfl)
        clear HT HN
        go_wp2
        go_roundw
        case rel => exact ⟨k + 1, by omega, by go_num, HE.out, by trivial⟩
        case measure => simp [intOf]; omega
    · have HE := hid (toldN_eq l k HALL.out (Or.inl (by omega)))
      have HK : Hid (l.length = k) := by show l.length = k; omega
      go_wp2
      go_ret
      exact ⟨ret_iN (by rw [HE.out, HK.out]), rfl⟩
set_option maxHeartbeats 1000000 in
theorem l9Pieces_any (a : Option Addr) (cap : Nat) (l : List ByteArray) (w : World) (hn : l.length ≤ 1048576) (hZ : Ss w.heap.size a l w) :
    Calls Try.prog 39 #[.slice a l.length cap] w fun e w' => e = .returned (.bool (pcOk l)) ∧ w' = w := by
  have HZ := hid hZ
  clear hZ
  go_enter Try.func39, Try.ntmps39
  go_wp2
  go_loopw [7] (fun i wr => ∃ k : Nat, k ≤ l.length ∧ i = .int .i64 k ∧ (∀ j (h : j < l.length), j < k → l[j].size ≤ 20) ∧ wr = w) (fun i _ => l.length - (intOf i).toNat)
  case atStart => exact ⟨0, Nat.zero_le _, rfl, fun _ _ h => absurd h (Nat.not_lt_zero _), rfl⟩
  case round =>
    obtain ⟨k, hk, rfl, hall, hwr⟩ := hrel
    obtain rfl := hwr.symm
    have HALL := hid hall
    clear hall hwr
    by_cases hlt : k < l.length
    · obtain ⟨b, off, rfl, hb, hcells⟩ := HZ.out.cell (by omega)
      have c0 := hcells k hlt
      have HT : Hid (¬ l[k].size ≤ 20 → pcOk l = false) := fun h => pcOk_no (fun g => h (g.2 k hlt))
      have HN : Hid (l[k].size ≤ 20 → ∀ j (h : j < l.length), j < k + 1 → l[j].size ≤ 20) := fun h j hj hjk => by
        by_cases e : j = k
        · subst e; exact h
        · exact HALL.out j hj (by omega)
      clear hcells HALL
      generalize l[k] = v at *
      by_cases hv : v.size ≤ 20
      · have d1 : decide ((20 : Int) < (v.size : Int)) = false := decide_eq_false (by omega)
        have d2 : decide (20 < v.size) = false := decide_eq_false (by omega)
        have HE := hid (HN.out hv)
        clear HT HN
        go_wp2
        go_roundw
        case rel => exact ⟨k + 1, by omega, by go_num, HE.out, by trivial⟩
        case measure => simp [intOf]; omega
      · have d1 : decide ((20 : Int) < (v.size : Int)) = true := decide_eq_true (by omega)
        have d2 : decide (20 < v.size) = true := decide_eq_true (by omega)
        have HE := hid (HT.out hv)
        clear HT HN
        go_wp2
        go_ret
        exact ⟨ret_bN HE.out.symm, rfl⟩
    · by_cases h12 : l.length ≤ 12
      · have d1 : decide ((l.length : Int) ≤ 12) = true := decide_eq_true (by omega)
        have d2 : decide (l.length ≤ 12) = true := decide_eq_true (by omega)
        have HE : Hid (pcOk l = true) := pcOk_iff.2 ⟨h12, fun j hj => HALL.out j hj (by omega)⟩
        clear HALL
        go_wp2
        go_ret
        exact ⟨ret_bN HE.out.symm, rfl⟩
      · have d1 : decide ((l.length : Int) ≤ 12) = false := decide_eq_false (by omega)
        have d2 : decide (l.length ≤ 12) = false := decide_eq_false (by omega)
        have HE : Hid (pcOk l = false) := pcOk_no (fun g => h12 g.1)
        clear HALL
        go_wp2
        go_ret
        exact ⟨ret_bN HE.out.symm, rfl⟩
set_option maxHeartbeats 1000000 in
theorem goodPieces_any (a : Option Addr) (cap : Nat) (l : List ByteArray) (w : World) (hn : l.length ≤ 1048576) (hZ : Ss w.heap.size a l w) :
    Calls Try.prog 41 #[.slice a l.length cap] w fun e w' => e = .returned (.bool (pcOk l)) ∧ w' = w := by
  have HZ := hid hZ
  clear hZ
  by_cases h12 : l.length ≤ 12
  case neg =>
    have d1 : decide ((12 : Int) < (l.length : Int)) = true := decide_eq_true (by omega)
    have d2 : decide (12 < l.length) = true := decide_eq_true (by omega)
    have HE : Hid (pcOk l = false) := pcOk_no (fun g => h12 g.1)
    go_enter Try.func41, Try.ntmps41
    go_wp2
    go_ret
    exact ⟨ret_bN HE.out.symm, rfl⟩
  have d1 : decide ((12 : Int) < (l.length : Int)) = false := decide_eq_false (by omega)
  have d2 : decide (12 < l.length) = false := decide_eq_false (by omega)
  go_enter Try.func41, Try.ntmps41
  go_wp2
  go_loopw [10] (fun i wr => ∃ k : Nat, k ≤ l.length ∧ i = .int .i64 k ∧ (∀ j (h : j < l.length), j < k → l[j].size ≤ 20) ∧ wr = w) (fun i _ => l.length - (intOf i).toNat)
  case atStart => exact ⟨0, Nat.zero_le _, rfl, fun _ _ h => absurd h (Nat.not_lt_zero _), rfl⟩
  case round =>
    obtain ⟨k, hk, rfl, hall, hwr⟩ := hrel
    obtain rfl := hwr.symm
    have HALL := hid hall
    clear hall hwr
    by_cases hlt : k < l.length
    · obtain ⟨b, off, rfl, hb, hcells⟩ := HZ.out.cell (by omega)
      have c0 := hcells k hlt
      have HT : Hid (¬ l[k].size ≤ 20 → pcOk l = false) := fun h => pcOk_no (fun g => h (g.2 k hlt))
      have HN : Hid (l[k].size ≤ 20 → ∀ j (h : j < l.length), j < k + 1 → l[j].size ≤ 20) := fun h j hj hjk => by
        by_cases e : j = k
        · subst e; exact h
        · exact HALL.out j hj (by omega)
      clear hcells HALL
      generalize l[k] = v at *
      by_cases hv : v.size ≤ 20
      · have d1 : decide ((20 : Int) < (v.size : Int)) = false := decide_eq_false (by omega)
        have d2 : decide (20 < v.size) = false := decide_eq_false (by omega)
        have HE := hid (HN.out hv)
        clear HT HN
        go_wp2
        go_roundw
        case rel => exact ⟨k + 1, by omega, by go_num, HE.out, by trivial⟩
        case measure => simp [intOf]; omega
      · have d1 : decide ((20 : Int) < (v.size : Int)) = true := decide_eq_true (by omega)
        have d2 : decide (20 < v.size) = true := decide_eq_true (by omega)
        have HE := hid (HT.out hv)
        clear HT HN
        go_wp2
        go_ret
        exact ⟨ret_bN HE.out.symm, rfl⟩
    · have HE : Hid (pcOk l = true) := pcOk_iff.2 ⟨h12, fun j hj => HALL.out j hj (by omega)⟩
      clear HALL
      go_wp2
      go_ret
      exact ⟨ret_bN HE.out.symm, rfl⟩
set_option maxHeartbeats 400000 in
theorem isSize_any (n : Int) (w : World) : Calls Try.prog 42 #[.int .i64 n] w fun e w' => e = .returned (.bool (szOk n)) ∧ w' = w := by
  by_cases h1 : 1 ≤ n
  · by_cases h2 : n ≤ 12
    · have d1 : decide (1 ≤ n) = true := decide_eq_true h1
      have d2 : decide (n ≤ 12) = true := decide_eq_true h2
      have HE : Hid (szOk n = true) := decide_eq_true ⟨h1, h2⟩
      go_enter Try.func42, Try.ntmps42
      go_wp2
      go_ret
      exact ⟨ret_bN HE.out.symm, rfl⟩
    · have d1 : decide (1 ≤ n) = true := decide_eq_true h1
      have d2 : decide (n ≤ 12) = false := decide_eq_false h2
      have HE : Hid (szOk n = false) := decide_eq_false (fun h => h2 h.2)
      go_enter Try.func42, Try.ntmps42
      go_wp2
      go_ret
      exact ⟨ret_bN HE.out.symm, rfl⟩
  · have d1 : decide (1 ≤ n) = false := decide_eq_false h1
    have HE : Hid (szOk n = false) := decide_eq_false (fun h => h1 h.1)
    go_enter Try.func42, Try.ntmps42
    go_wp2
    go_ret
    exact ⟨ret_bN HE.out.symm, rfl⟩
set_option maxHeartbeats 400000 in
theorem l1In_szN (n lo hi : Int) (w : World) : Calls Try.prog 40 #[.int .i64 n, .int .i64 lo, .int .i64 hi] w fun e w' => e = .returned (.bool (decide (lo ≤ n ∧ n ≤ hi))) ∧ w' = w := by
  by_cases h1 : lo ≤ n
  · by_cases h2 : n ≤ hi
    · have d1 : decide (lo ≤ n) = true := decide_eq_true h1
      have d2 : decide (n ≤ hi) = true := decide_eq_true h2
      have HE : Hid (decide (lo ≤ n ∧ n ≤ hi) = true) := decide_eq_true ⟨h1, h2⟩
      rw [HE.out]
      go_enter Try.func40, Try.ntmps40
      go_wp2
      go_ret
      exact ⟨rfl, rfl⟩
    · have d1 : decide (lo ≤ n) = true := decide_eq_true h1
      have d2 : decide (n ≤ hi) = false := decide_eq_false h2
      have HE : Hid (decide (lo ≤ n ∧ n ≤ hi) = false) := decide_eq_false (fun h => h2 h.2)
      rw [HE.out]
      go_enter Try.func40, Try.ntmps40
      go_wp2
      go_ret
      exact ⟨rfl, rfl⟩
  · have d1 : decide (lo ≤ n) = false := decide_eq_false h1
    have HE : Hid (decide (lo ≤ n ∧ n ≤ hi) = false) := decide_eq_false (fun h => h1 h.1)
    rw [HE.out]
    go_enter Try.func40, Try.ntmps40
    go_wp2
    go_ret
    exact ⟨rfl, rfl⟩
end Go.Proofs.Ytaiilhhkfjlkoaa
