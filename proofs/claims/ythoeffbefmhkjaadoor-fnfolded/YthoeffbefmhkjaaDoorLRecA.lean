/- What the readers of segments and records tell, on both sides. -/
import Derived.Test.YthoeffbefmhkjaaDoorDrawU
import Derived.Test.YthoeffbefmhkjaaDoorRMath
import Derived.Test.YthoeffbefmhkjaaDoorLReadSeg
import Derived.Test.YthoeffbefmhkjaaDoorLReadR
import Derived.Test.YthoeffbefmhkjaaDoorLTorn
import Derived.Test.YthoeffbefmhkjaaDoorSameR
namespace Go.Proofs.YthoeffbefmhkjaaDoor
set_option maxRecDepth 100000
open Go.ChangeShapes Go.WideShapes Go.ChangeAt Go.RowKit G00541
theorem seg_T (l : List Rc) : segL l = segT l := by
  induction l with
  | nil => rfl
  | cons r l ih => show textL r ++ segL l = textL r ++ segT l; rw [ih]
theorem cut_recs (b : Option Addr) (n k c : Nat) (hk : k ≤ c) (v : World) : Sem.run Tryd.prog (Instr.slice 23 (.slice b n c) none (some (.int .i64 (k : Int))) none) v = .ok (.slice b k c) v := by
  have hs : (sizeOf 36).run Tryd.prog v = .ok 4 v := by go_simp
  have h := run_slice_h (P := Tryd.prog) (w := v) 23 b n c Tryd.underlying23 .i64 (k : Int) (by omega) (by omega)
  rw [show Tryd.prog.elem 23 = 36 by kernel_rfl, hs] at h
  refine h.trans ?_
  simp only [Result.andThen, sliced]
  cases b with
  | none => simp
  | some x =>
    simp
    intro _
    cases x
    simp [Addr.add]
/-- what the readers of a segment tell -/
theorem seg_tells (s : ByteArray) : ∃ (V : List Rc) (p : Int) (ok : Bool), V.length ≤ 1048576 ∧
    (∀ w, TellsSeg 13 s V p ok (fun v => Below w.heap.size w v)) ∧ (∀ w, Tab w → TellsSeg 8 s V p ok (fun v => Below w.heap.size w v)) := by
  by_cases h3 : s.size ≤ 300
  · have hl := allR_len s.data.toList
    rw [bytes_size] at hl
    refine ⟨(allR s.data.toList).1, (allR s.data.toList).2, true, by omega, fun w v _ => (ssegm_any s v h3).mono ?_, fun w hT v g => (iall_any s v (hT.below g) h3).mono ?_⟩
    all_goals
      rintro e w' ⟨x, rfl, hown, hbel⟩
      obtain ⟨b, c, rfl, ho⟩ := own_recs hown rfl
      exact ⟨b, c, rfl, ho, hbel⟩
  · refine ⟨[], 0, false, by decide, fun w v _ => (sseg_off s v (by omega)).mono ?_, fun w _ v _ => (iseg_off s v (by omega)).mono ?_⟩
    all_goals
      rintro e w' ⟨rfl, hbel⟩
      exact ⟨none, 0, rfl, Or.inl rfl, hbel⟩
/-- a segment's own text is read back whole -/
theorem seg_back (l : List Rc) (h : segOk l = true) (w : World) (hT : Tab w) : TellsSeg 8 (segV l) l ((segV l).size : Int) true (fun v => Below w.heap.size w v) := by
  intro v g
  have hz := segV_le l
  have hg : ∀ r ∈ l, goodR r = true := by
    unfold segOk at h
    rw [Bool.and_eq_true] at h
    exact List.all_eq_true.1 h.1
  have hA : allR (segV l).data.toList = (l, (segV l).size) := by
    rw [segV_yes h, str_list, str_size, seg_T]
    exact all_seg l hg
  refine (iall_any (segV l) v (hT.below g) hz).mono ?_
  rw [hA]
  rintro e w' ⟨x, rfl, hown, hbel⟩
  obtain ⟨b, c, rfl, ho⟩ := own_recs hown rfl
  exact ⟨b, c, rfl, ho, hbel⟩
/-- what the tearing of a text tells -/
theorem torn_imp (s : ByteArray) (q : Nat) (w : World) (hT : Tab w) (hs3 : s.size ≤ 300) (hq : q ≤ s.size) :
    Calls Tryd.prog 9 #[.string s, .int .i64 q] w fun e w' => e = .returned (.tuple #[.string (s.extract 0 (allR (s.extract 0 q).data.toList).2), .bool true]) ∧ Below w.heap.size w w' := by
  have hTs := ext_size s 0 q (by omega) hq
  have hA := allR_end (s.extract 0 q).data.toList
  rw [bytes_size] at hA
  have hc1 := fun v => cut_to s q (q : Int) rfl hq v
  have hc2 := fun v => cut_to s (allR (s.extract 0 q).data.toList).2 ((allR (s.extract 0 q).data.toList).2 : Int) rfl (by omega) v
  refine itorn_any s _ _ q w hs3 hq _ hc1 hc2 (iall_any _ w hT (by omega)) (fun u => ?_)
  have := join_any (s.extract 0 (allR (s.extract 0 q).data.toList).2) ⟨#[]⟩ u (by rw [ByteArray.size_extract]; omega) (by decide)
  rw [show s.extract 0 (allR (s.extract 0 q).data.toList).2 ++ (⟨#[]⟩ : ByteArray) = s.extract 0 (allR (s.extract 0 q).data.toList).2 from ByteArray.append_empty] at this
  exact this
theorem torn_tells (s : ByteArray) (k : Int) : ∃ (X : ByteArray) (ok : Bool),
    (∀ w, Calls Tryd.prog 15 #[.string s, .int .i64 k] w fun e w' => e = .returned (.tuple #[.string X, .bool ok]) ∧ Below w.heap.size w w') ∧
    (∀ w, Tab w → Calls Tryd.prog 9 #[.string s, .int .i64 k] w fun e w' => e = .returned (.tuple #[.string X, .bool ok]) ∧ Below w.heap.size w w') := by
  by_cases hoff : 300 < s.size ∨ k < 0 ∨ (s.size : Int) < k
  · exact ⟨⟨#[]⟩, false, fun w => storn_off s k w hoff, fun w _ => itorn_off s k w hoff⟩
  obtain ⟨q, rfl⟩ : ∃ q : Nat, k = q := ⟨k.toNat, by omega⟩
  have hq : q ≤ s.size := by omega
  have hs3 : s.size ≤ 300 := by omega
  have hTs := ext_size s 0 q (by omega) hq
  have hA := allR_end (s.extract 0 q).data.toList
  rw [bytes_size] at hA
  have hc1 := fun v => cut_to s q (q : Int) rfl hq v
  have hc2 := fun v => cut_to s (allR (s.extract 0 q).data.toList).2 ((allR (s.extract 0 q).data.toList).2 : Int) rfl (by omega) v
  exact ⟨_, true, fun v => storn_any s _ _ q v hs3 hq _ hc1 hc2 (fun u => l3all_any _ u (by omega)), fun v hT => torn_imp s q v hT hs3 hq⟩
/-- of a torn segment the records that are left are the first ones -/
theorem torn_back (l : List Rc) (h : segOk l = true) (q : Nat) (hq : q ≤ (segV l).size) : ∃ (X : ByteArray) (V : List Rc) (p : Int), V.length ≤ l.length ∧ l.take V.length = V ∧
    (∀ w, Tab w → Calls Tryd.prog 9 #[.string (segV l), .int .i64 q] w fun e w' => e = .returned (.tuple #[.string X, .bool true]) ∧ Below w.heap.size w w') ∧
    (∀ w, Tab w → TellsSeg 8 X V p true (fun v => Below w.heap.size w v)) := by
  have hz := segV_le l
  have hg : ∀ r ∈ l, goodR r = true := by
    unfold segOk at h
    rw [Bool.and_eq_true] at h
    exact List.all_eq_true.1 h.1
  have hA : allR (segV l).data.toList = (l, (segV l).size) := by
    rw [segV_yes h, str_list, str_size, seg_T]
    exact all_seg l hg
  generalize hS : segV l = S at *
  have hx : (S.extract 0 (allR (S.extract 0 q).data.toList).2).size ≤ 300 := by rw [ByteArray.size_extract]; omega
  have hp := all_take S.data.toList (allR (S.extract 0 q).data.toList).2
  rw [hA] at hp
  have hl : (S.extract 0 (allR (S.extract 0 q).data.toList).2).data.toList = S.data.toList.take (allR (S.extract 0 q).data.toList).2 := by rw [ext_list, List.drop_zero, Nat.sub_zero]
  refine ⟨S.extract 0 (allR (S.extract 0 q).data.toList).2, (allR (S.extract 0 (allR (S.extract 0 q).data.toList).2).data.toList).1, (allR (S.extract 0 (allR (S.extract 0 q).data.toList).2).data.toList).2, ?_, ?_, fun w hT => torn_imp S q w hT hz hq, fun w hT v g => (iall_any _ v (hT.below g) hx).mono ?_⟩
  · rw [hl]; exact hp.length_le
  · rw [hl]; exact (List.prefix_iff_eq_take.1 hp).symm
  · rintro e w' ⟨x, rfl, hown, hbel⟩
    obtain ⟨b, c, rfl, ho⟩ := own_recs hown rfl
    exact ⟨b, c, rfl, ho, hbel⟩
/-- what the readers of a record tell -/
theorem rec_tells (s : ByteArray) (p : Int) : ∃ (k q n e : Int) (D : ByteArray) (ok : Bool),
    (∀ w, Calls Tryd.prog 18 #[.string s, .int .i64 p] w fun x w' => x = .returned (.tuple #[.agg #[.int .i64 k, .int .i64 q, .int .i64 n, .string D], .int .i64 e, .bool ok]) ∧ Below w.heap.size w w') ∧
    (∀ w, Tab w → Calls Tryd.prog 17 #[.string s, .int .i64 p] w fun x w' => x = .returned (.tuple #[.agg #[.int .i64 k, .int .i64 q, .int .i64 n, .string D], .int .i64 e, .bool ok]) ∧ Below w.heap.size w w') ∧
    (ok = true → (∀ w, Tab w → Calls Tryd.prog 19 #[.agg #[.int .i64 k, .int .i64 q, .int .i64 n, .string D]] w fun x w' => x = .returned (.tuple #[.string (textB k q n D), .bool true]) ∧ Below w.heap.size w w') ∧
      (∀ v, Sem.run Tryd.prog (Instr.slice 9 (.string s) (some (.int .i64 p)) (some (.int .i64 e)) none) v = .ok (.string (textB k q n D)) v)) := by
  by_cases hoff : 300 < s.size ∨ p < 0
  · exact ⟨0, 0, 0, 0, ⟨#[]⟩, false, fun v => sread_off s p v hoff, fun v _ => ird_out s p v (by omega), fun h => by cases h⟩
  obtain ⟨q, rfl⟩ : ∃ q : Nat, p = q := ⟨p.toNat, by omega⟩
  have hs3 : s.size ≤ 300 := by omega
  cases h : readR s.data.toList q with
  | none => exact ⟨0, 0, 0, 0, ⟨#[]⟩, false, fun v => sread_none s q v hs3 h, fun v hT => iread_none s q v hs3 hT h, fun h => by cases h⟩
  | some x =>
    obtain ⟨r, e⟩ := x
    obtain ⟨h1, h2, hg⟩ := readR_some h
    rw [bytes_size] at h2
    have hgd : goodR ⟨r.kind, r.place, r.long, (str r.data).data.toList⟩ = true := by rw [str_list]; exact hg
    have ht : s.extract q e = textB r.kind r.place r.long (str r.data) := by
      rw [textB_eq, str_list]
      apply ba_eq
      rw [ext_list, str_list]
      exact (read_back h).symm
    refine ⟨r.kind, r.place, r.long, e, str r.data, true, fun v => sread_some s q v hs3 r.kind r.place r.long (str r.data) e (fun v => sl3_some s q v hs3 r e h), fun v hT => iread_some s q v hs3 hT r e h, fun _ => ⟨fun v hT => irectext_yes _ _ _ _ v hT hgd, fun v => ?_⟩⟩
    rw [← ht]
    exact cut_at s q e (q : Int) (e : Int) rfl rfl (by omega) h2 v
end Go.Proofs.YthoeffbefmhkjaaDoor
