/- What folding, blocks and texts of records tell, on both sides; a number among others. -/
import Derived.Test.YthoeffbefmhkjaaDoorDrawF
import Derived.Test.YthoeffbefmhkjaaDoorLRecA
import Derived.Test.YthoeffbefmhkjaaDoorFoldI
import Derived.Test.YthoeffbefmhkjaaDoorBlocks
import Derived.Test.YthoeffbefmhkjaaDoorRMath
namespace Go.Proofs.YthoeffbefmhkjaaDoor
set_option maxRecDepth 100000
open Go.ChangeShapes Go.WideShapes Go.ChangeAt Go.RowKit G00541
theorem mem_blocks (p q : Int) (k : Nat) : q ∈ blocksL p k ↔ p ≤ q ∧ q < p + k := by
  unfold blocksL
  rw [List.mem_map]
  constructor
  · rintro ⟨i, hi, rfl⟩
    rw [List.mem_range] at hi
    omega
  · intro h
    exact ⟨(q - p).toNat, by rw [List.mem_range]; omega, by omega⟩
theorem blocks_at (p : Int) (k i : Nat) (h : i < (blocksL p k).length) : (blocksL p k)[i] = p + (i : Int) := by simp [blocksL]
theorem doK_at (ts : List ByteArray) (k : Int) (p : Nat) (D : ByteArray) : ∀ (n q : Nat), (doK ts k p D n)[q]? = if p ≤ q ∧ q < p + n ∧ q < ts.length then some (pieceT k D (q - p)) else ts[q]?
  | 0, q => by rw [if_neg (by omega)]; rfl
  | n + 1, q => by
    show ((doK ts k p D n).set (p + n) (pieceT k D n))[q]? = _
    rw [List.getElem?_set]
    by_cases h : p + n = q
    · subst h
      rw [if_pos rfl, doK_len]
      by_cases hl : p + n < ts.length
      · rw [if_pos hl, if_pos ⟨by omega, by omega, hl⟩, Nat.add_sub_cancel_left]
      · rw [if_neg hl, if_neg (by omega), List.getElem?_eq_none (by omega)]
    · rw [if_neg h, doK_at ts k p D n q]
      by_cases hc : p ≤ q ∧ q < p + n ∧ q < ts.length
      · rw [if_pos hc, if_pos (by omega)]
      · rw [if_neg hc, if_neg (by omega)]
theorem getD_of {α : Type} (l : List α) (q : Nat) (d : α) (x : Option α) (h : l[q]? = x) : l.getD q d = x.getD d := by rw [List.getD_eq_getElem?_getD, h]
theorem fold_out (L : List Rc) (r : Rc) (q : Nat) (hg : goodR r = true) (h : ¬ (q : Int) ∈ blocksL r.place r.long.toNat) : (foldR (L ++ [r])).getD q ⟨#[]⟩ = (foldR L).getD q ⟨#[]⟩ := by
  have hc := good_cases hg
  rw [mem_blocks] at h
  rw [foldR_snoc]
  unfold doR
  rw [getD_of _ q _ _ (doK_at _ _ _ _ _ q), if_neg (by omega), ← List.getD_eq_getElem?_getD]
theorem fold_in (L : List Rc) (r : Rc) (i : Nat) (hg : goodR r = true) (hi : i < r.long.toNat) : (foldR (L ++ [r])).getD (r.place.toNat + i) ⟨#[]⟩ = pieceT r.kind (str r.data) i := by
  have hc := good_cases hg
  have hl := foldR_len L
  rw [foldR_snoc]
  unfold doR
  rw [getD_of _ _ _ _ (doK_at _ _ _ _ _ (r.place.toNat + i)), if_pos (by omega), Nat.add_sub_cancel_left]
  rfl
theorem srow_getD {R : Nat} {l : List ByteArray} {w : World} (h : SRow R l w) (i : Nat) (hi : i < l.length) : w.cell? ⟨R, i, none⟩ = some (.string (l.getD i ⟨#[]⟩)) := by
  rw [h.cell i hi, List.getD_eq_getElem?_getD, List.getElem?_eq_getElem hi]; rfl
set_option maxHeartbeats 1000000 in
theorem has_any (a : Option Addr) (c : Nat) (l : List Int) (n : Int) (w : World) (hn : l.length ≤ 1048576) (h1 : Is w.heap.size a l w) :
    Calls Tryd.prog 25 #[.slice a l.length c, .int .i64 n] w fun e w' => e = .returned (.bool (decide (n ∈ l))) ∧ w' = w := by
  have H1 : Hid (Is w.heap.size a l w) := h1
  clear h1
  go_enter Tryd.func25, Tryd.ntmps25
  go_wp2
  go_loopw [9] (fun i wr => ∃ k : Nat, k ≤ l.length ∧ i = .int .i64 k ∧ n ∉ l.take k ∧ wr = w) (fun i _ => l.length - (intOf i).toNat)
  case atStart => exact ⟨0, Nat.zero_le _, rfl, by simp, rfl⟩
  case round =>
    obtain ⟨k, hk, rfl, hno, rfl⟩ := hrel
    have HNO : Hid (n ∉ l.take k) := hno
    clear hno
    by_cases hlt : k < l.length
    · obtain ⟨b1, o1, rfl, hb1, hc1⟩ := H1.out.cell (by omega)
      have x0 := hc1 k hlt
      have HS : Hid (l.take (k + 1) = l.take k ++ [l[k]]) := take_snoc l k hlt
      have HM : Hid (l[k] ∈ l) := List.getElem_mem hlt
      clear hc1
      generalize l[k] = m at *
      by_cases he : m = n
      · subst he
        go_wp2
        go_ret
        exact ⟨by rw [decide_eq_true HM.out]; rfl, rfl⟩
      · have hd : (m == n) = false := by rw [beq_eq_false_iff_ne]; exact he
        have HN : Hid (n ∉ l.take (k + 1)) := by
          show n ∉ l.take (k + 1)
          rw [HS.out, List.mem_append, List.mem_singleton]
          intro h
          rcases h with h | h
          · exact HNO.out h
          · exact he h.symm
        go_wp2
        go_roundw
        case rel => exact ⟨k + 1, by omega, by go_num, HN.out, by trivial⟩
        case measure => simp [intOf]; omega
    · have e : l.take k = l := List.take_of_length_le (by omega)
      have hnl : n ∉ l := by have := HNO.out; rwa [e] at this
      have HD : Hid (decide (n ∈ l) = false) := decide_eq_false hnl
      clear e hnl
      go_wp2
      go_ret
      exact ⟨by rw [HD.out]; rfl, rfl⟩
/-- function f answers the texts V and ok of records, in memory of its own -/
def TellsF (f : Nat) (l : List Rc) (V : List ByteArray) (ok : Bool) : Prop := ∀ (b : Option Addr) (c : Nat) (w : World), Rs w.heap.size b l w →
  Calls Tryd.prog f #[.slice b l.length c] w fun e w' => ∃ d x, e = .returned (.tuple #[.slice d V.length x, .bool ok]) ∧ OwnS w.heap.size w'.heap.size d V w' ∧ Below w.heap.size w w'
theorem fold_tells (l : List Rc) (hl : l.length ≤ 1048576) : TellsF 21 l (if foldOk l = true then foldR l else []) (foldOk l) ∧ TellsF 22 l (if foldOk l = true then foldR l else []) (foldOk l) := by
  have hlen := foldR_len l
  constructor
  · intro b c w hZ
    by_cases h60 : 60 < l.length
    · have hf : foldOk l = false := by unfold foldOk; rw [decide_eq_false (by omega), Bool.and_false]
      rw [hf]
      refine (ifold_long b c l w hl h60).mono ?_
      rintro e w' ⟨rfl, g⟩
      exact ⟨none, 0, rfl, Or.inl rfl, g⟩
    · refine (ifold_any b c l w (by omega) hZ).mono ?_
      rintro e w' ⟨⟨hf, R, x, hR, rfl, hrow⟩ | ⟨hf, rfl⟩, g⟩
      · rw [hf, if_pos rfl, hlen]
        exact ⟨_, x, rfl, Or.inr ⟨R, hR, hrow.lt, rfl, hrow⟩, g⟩
      · rw [hf]
        exact ⟨none, 0, rfl, Or.inl rfl, g⟩
  · intro b c w hZ
    cases hf : foldOk l with
    | false =>
      refine (sfold_no b c l w hl hZ hf).mono ?_
      rintro e w' ⟨rfl, g⟩
      exact ⟨none, 0, rfl, Or.inl rfl, g⟩
    | true =>
      refine (sfold_yes b c l w hZ hf).mono ?_
      rintro e w' ⟨R, x, hR, rfl, hrow, g⟩
      rw [if_pos rfl, hlen]
      exact ⟨_, x, rfl, Or.inr ⟨R, hR, hrow.lt, rfl, hrow⟩, g⟩
/-- function f answers the numbers V and ok of a record, in memory of its own -/
def TellsN (f : Nat) (k p n : Int) (D : ByteArray) (V : List Int) (ok : Bool) : Prop := ∀ (w : World),
  Calls Tryd.prog f #[.agg #[.int .i64 k, .int .i64 p, .int .i64 n, .string D]] w fun e w' => ∃ b c, e = .returned (.tuple #[.slice b V.length c, .bool ok]) ∧ OwnI w.heap.size w'.heap.size b V w' ∧ Below w.heap.size w w'
theorem blocks_tells (k p n : Int) (D : ByteArray) : ∃ V : List Int, V.length ≤ 4 ∧ TellsN 24 k p n D V (goodR ⟨k, p, n, D.data.toList⟩) ∧ TellsN 28 k p n D V (goodR ⟨k, p, n, D.data.toList⟩) ∧ (goodR ⟨k, p, n, D.data.toList⟩ = true → V = blocksL p n.toNat) := by
  cases hg : goodR ⟨k, p, n, D.data.toList⟩ with
  | false =>
    refine ⟨[], by decide, fun w => (iblocks_no k p n D w hg).mono ?_, fun w => (sblocks_no k p n D w hg).mono ?_, fun h => by cases h⟩
    all_goals
      rintro e w' ⟨rfl, g⟩
      exact ⟨none, 0, rfl, Or.inl rfl, g⟩
  | true =>
    have hc := good_cases hg
    simp only at hc
    obtain ⟨m, rfl⟩ : ∃ m : Nat, n = m := ⟨n.toNat, by omega⟩
    refine ⟨blocksL p m, by rw [blocksL_len]; omega, fun w => (iblocks_yes k p m D w (by omega) (by omega) (by omega) hg).mono ?_, fun w => (sblocks_yes k p m D w (by omega) (by omega) (by omega) hg).mono ?_, fun _ => rfl⟩
    all_goals
      rintro e w' ⟨v, rfl, hown, g⟩
      obtain ⟨b, c, rfl, ho⟩ := own_ints hown
      exact ⟨b, c, rfl, ho, g⟩
/-- what the writers of a record tell; what is written is read back -/
theorem text_tells (k p n : Int) (D : ByteArray) : ∃ X : ByteArray, X.size ≤ 300 ∧
    (∀ w, Tab w → Calls Tryd.prog 19 #[.agg #[.int .i64 k, .int .i64 p, .int .i64 n, .string D]] w fun x w' => x = .returned (.tuple #[.string X, .bool (goodR ⟨k, p, n, D.data.toList⟩)]) ∧ Below w.heap.size w w') ∧
    (∀ w, Calls Tryd.prog 27 #[.agg #[.int .i64 k, .int .i64 p, .int .i64 n, .string D]] w fun x w' => x = .returned (.tuple #[.string X, .bool (goodR ⟨k, p, n, D.data.toList⟩)]) ∧ Below w.heap.size w w') ∧
    (goodR ⟨k, p, n, D.data.toList⟩ = true → ∀ w, Tab w → Calls Tryd.prog 17 #[.string X, .int .i64 0] w fun x w' => x = .returned (.tuple #[.agg #[.int .i64 k, .int .i64 p, .int .i64 n, .string D], .int .i64 X.size, .bool true]) ∧ Below w.heap.size w w') := by
  cases hg : goodR ⟨k, p, n, D.data.toList⟩ with
  | false => exact ⟨⟨#[]⟩, by decide, fun w _ => irectext_no k p n D w hg, fun w => srectext_no k p n D w hg, fun h => by cases h⟩
  | true =>
    have hb := good_bounds hg
    have hz := textB_size k p n D
    have hX : (textB k p n D).size ≤ 300 := by omega
    refine ⟨textB k p n D, hX, fun w hT => irectext_yes k p n D w hT hg, fun w => srectext_yes k p n D w hg, fun _ w hT => ?_⟩
    have hr := read_text [] [] ⟨k, p, n, D.data.toList⟩ hg
    rw [List.nil_append, List.append_nil] at hr
    have ht : (textB k p n D).data.toList = textL ⟨k, p, n, D.data.toList⟩ := by rw [textB_eq, str_list]
    have hs : (textL ⟨k, p, n, D.data.toList⟩).length = (textB k p n D).size := by rw [← ht, bytes_size]
    have hr2 : readR (textB k p n D).data.toList 0 = some (⟨k, p, n, D.data.toList⟩, (textB k p n D).size) := by
      rw [ht, ← hs]
      simpa using hr
    have := iread_some (textB k p n D) 0 w hX hT _ _ hr2
    unfold rval at this
    rw [str_back] at this
    exact this
end Go.Proofs.YthoeffbefmhkjaaDoor
