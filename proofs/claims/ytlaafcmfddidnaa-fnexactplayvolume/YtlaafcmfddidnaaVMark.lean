/- Marks laid and held over volumes; both sides' NewVolume. -/
import Derived.Test.YtlaafcmfddidnaaVTo
import Derived.Test.YtlaafcmfddidnaaMarkR
import Derived.Test.YtlaafcmfddidnaaFoldI
namespace Go.Proofs.Ytlaafcmfddidnaa
set_option maxRecDepth 100000
open Go.ChangeShapes Go.WideShapes Go.ChangeAt Go.RowKit G00541
theorem mark_ownSk (lo hi : Nat) (a : Option Addr) (c k : Nat) (l : List ByteArray) (w : World) (hn : l.length ≤ 1048576) (k1 : 1 ≤ k) (k2 : k ≤ 10000000) (h : OwnS lo hi a l w) :
    Calls Try.prog 27 #[.slice a l.length c, .int .i64 k] w fun e w' => e = .returned (.int .i64 (k + l.length : Nat)) ∧ OwnS lo hi a (smarks l.length k) w' ∧ Out lo hi w w' := by
  rcases h with rfl | ⟨R, h1, h3, rfl, hr⟩
  · exact (markStringS_none a c k w).mono fun e w' ⟨he, hb⟩ => ⟨he, Or.inl rfl, by subst hb; exact Out.refl _ _ _⟩
  · exact (markStringS_row R c k l w hn k1 k2 hr).mono fun e w' ⟨he, hrow, hb⟩ => ⟨he, Or.inr ⟨R, h1, h3, rfl, hrow⟩, Out.ofBut hb h1 h3⟩
theorem mark_ownRk (lo hi : Nat) (a : Option Addr) (c k : Nat) (l : List Rc) (w : World) (hn : l.length ≤ 1048576) (k1 : 1 ≤ k) (k2 : k ≤ 10000000) (h : OwnR lo hi a l w) :
    Calls Try.prog 28 #[.slice a l.length c, .int .i64 k] w fun e w' => e = .returned (.int .i64 (k + 4 * l.length : Nat)) ∧ OwnR lo hi a (rmarks l.length k) w' ∧ Out lo hi w w' := by
  rcases h with rfl | ⟨R, h1, h3, rfl, hr⟩
  · exact (markRecordS_none a c k w).mono fun e w' ⟨he, hb⟩ => ⟨he, Or.inl rfl, by subst hb; exact Out.refl _ _ _⟩
  · exact (markRecordS_row R c k l w hn k1 k2 hr).mono fun e w' ⟨he, hrow, hb⟩ => ⟨he, Or.inr ⟨R, h1, h3, rfl, hrow⟩, Out.ofBut hb h1 h3⟩
theorem Out.wide {lo hi lo' hi' : Nat} {w w' : World} (h : Out lo hi w w') (h1 : lo' ≤ lo) (h2 : hi ≤ hi') : Out lo' hi' w w' := ⟨h.os, h.tape, h.output, h.size, fun k hk hb => h.block k hk (by omega)⟩
theorem OwnV.out {lo hi l2 h2 : Nat} {aB : Option Addr} {B : List ByteArray} {aL : Option Addr} {L : List Rc} {w w' : World} (h : OwnV lo hi aB B aL L w) (g : Out l2 h2 w w') (hd : hi ≤ l2 ∨ h2 ≤ lo) : OwnV lo hi aB B aL L w' := by
  obtain ⟨mid, h1, h2', h3, h4⟩ := h
  exact ⟨mid, h1, h2', h3.out g (by omega), h4.out g (by omega)⟩
set_option maxHeartbeats 2000000 in
theorem markVolume_any (lo hi : Nat) (aB aL : Option Addr) (kB kL : Nat) (B : List ByteArray) (F : Int) (L : List Rc) (s : Int) (w : World) (hf : FitV B L) (hi' : hi ≤ w.heap.size) (h : OwnV lo hi aB B aL L w) :
    Calls Try.prog 12 #[.agg #[.slice aB B.length kB, .int .i64 F, .slice aL L.length kL, .int .i64 s], .int .i64 1] w fun e w' => e = .returned (.int .i64 (1 + B.length + 4 * L.length : Nat)) ∧ OwnV lo hi aB (smarks B.length 1) aL (rmarks L.length (1 + B.length)) w' ∧ Out lo hi w w' := by
  obtain ⟨mid, m1, m2, hB, hL⟩ := h
  have hb := boxB w (.cells #[.slice aB B.length kB, .int .i64 F, .slice aL L.length kL, .int .i64 s] 27)
  have HB := hid hb
  have HC1 := hid (mark_ownSk lo mid aB kB 1 B _ hf.1 (by omega) (by omega) (hB.below hb))
  have HL1 := hid (hL.below hb)
  have HC2 : Hid (∀ v, OwnR mid hi aL L v → Calls Try.prog 28 #[.slice aL L.length kL, .int .i64 (1 + B.length : Nat)] v fun e w' => e = .returned (.int .i64 (1 + B.length + 4 * L.length : Nat)) ∧ OwnR mid hi aL (rmarks L.length (1 + B.length)) w' ∧ Out mid hi v w') := fun v g => mark_ownRk mid hi aL kL (1 + B.length) L v hf.2 (by omega) (by have := hf.1; omega) g
  have hbx : (w.alloc (.cells #[.slice aB B.length kB, .int .i64 F, .slice aL L.length kL, .int .i64 s] 27)).heap[w.heap.size]? = some (.cells #[.slice aB B.length kB, .int .i64 F, .slice aL L.length kL, .int .i64 s] 27) := heap_last _ _
  have hsz : w.heap.size < (w.alloc (.cells #[.slice aB B.length kB, .int .i64 F, .slice aL L.length kL, .int .i64 s] 27)).heap.size := by simp
  clear hB hL hb hf
  generalize 1 + B.length = n1 at *
  generalize n1 + 4 * L.length = n2 at *
  go_enter Try.func12, Try.ntmps12
  go_wp2_with fail
  generalize w.alloc (.cells #[.slice aB B.length kB, .int .i64 F, .slice aL L.length kL, .int .i64 s] 27) = W at *
  refine HC1.out.mono ?_
  rintro e w2 ⟨rfl, o2, t2⟩
  have hbx2 := (t2.block w.heap.size hsz (by omega)).trans hbx
  have x2 : w2.cell? ⟨w.heap.size, 2, none⟩ = some (.slice aL L.length kL) := box_cell hbx2 2
  have HO2 := hid o2
  have HT2 := hid t2
  have HC3 := hid (HC2.out w2 (HL1.out.out t2 (by omega)))
  clear o2 t2 hbx hbx2 HC1 HC2 HL1
  go_wp2_with fail
  refine HC3.out.mono ?_
  rintro e w3 ⟨rfl, o3, t3⟩
  have HV : Hid (OwnV lo hi aB (smarks B.length 1) aL (rmarks L.length n1) w3) := ⟨mid, m1, m2, HO2.out.out t3 (by omega), o3⟩
  have HT : Hid (Out lo hi w w3) := ((Out.ofBelow HB.out).trans (HT2.out.wide (Nat.le_refl _) m2)).trans (t3.wide m1 (Nat.le_refl _))
  clear o3 t3 HC3
  go_wp2_with fail
  go_ret
  exact ⟨rfl, HV.out, HT.out⟩
set_option maxHeartbeats 2000000 in
theorem heldVolume_any (lo hi : Nat) (aB aL : Option Addr) (kB kL n m : Nat) (F s : Int) (w : World) (hn : n ≤ 1048576) (hm : m ≤ 1048576) (h : OwnV lo hi aB (smarks n 1) aL (rmarks m (1 + n)) w) :
    Calls Try.prog 14 #[.agg #[.slice aB n kB, .int .i64 F, .slice aL m kL, .int .i64 s], .int .i64 1] w fun e w' => e = .returned (.int .i64 (1 + n + 4 * m : Nat)) ∧ Below w.heap.size w w' := by
  obtain ⟨hB, hL⟩ := h.read
  have HB := hid (boxB w (.cells #[.slice aB n kB, .int .i64 F, .slice aL m kL, .int .i64 s] 27))
  have HC1 : Hid (∀ v, Below w.heap.size w v → Calls Try.prog 29 #[.slice aB n kB, .int .i64 1] v fun e w' => e = .returned (.int .i64 (1 + n : Nat)) ∧ Below v.heap.size v w') := fun v g => heldStringS_row aB kB 1 n v hn (by omega) (by omega) ((hB.below g).mono g.size)
  have HC2 : Hid (∀ v, Below w.heap.size w v → Calls Try.prog 30 #[.slice aL m kL, .int .i64 (1 + n : Nat)] v fun e w' => e = .returned (.int .i64 (1 + n + 4 * m : Nat)) ∧ Below v.heap.size v w') := fun v g => heldRecordS_row aL kL (1 + n) m v hm (by omega) (by omega) ((hL.below g).mono g.size)
  have y2 : (w.alloc (.cells #[.slice aB n kB, .int .i64 F, .slice aL m kL, .int .i64 s] 27)).cell? ⟨w.heap.size, 2, none⟩ = some (.slice aL m kL) := by go_simp
  have hlt : w.heap.size < (w.alloc (.cells #[.slice aB n kB, .int .i64 F, .slice aL m kL, .int .i64 s] 27)).heap.size := by simp
  have d1 : decide (((1 + n : Nat) : Int) < 0) = false := by simp; omega
  have d2 : decide (((1 + n + 4 * m : Nat) : Int) < 0) = false := by simp; omega
  clear hB hL h
  generalize 1 + n = n1 at *
  generalize n1 + 4 * m = n2 at *
  go_enter Try.func14, Try.ntmps14
  go_wp2_with fail
  generalize w.alloc (.cells #[.slice aB n kB, .int .i64 F, .slice aL m kL, .int .i64 s] 27) = W at *
  refine (HC1.out _ HB.out).mono ?_
  rintro e w2 ⟨rfl, b2⟩
  have HB2 : Hid (Below w.heap.size w w2) := HB.out.trans (b2.mono HB.out.size)
  rw [← b2.cell (p := ⟨w.heap.size, 2, none⟩) hlt] at y2
  clear b2 HC1
  go_wp2_with fail
  refine (HC2.out _ HB2.out).mono ?_
  rintro e w3 ⟨rfl, b3⟩
  have HB3 : Hid (Below w.heap.size w w3) := HB2.out.trans (b3.mono HB2.out.size)
  clear b3 HC2
  go_wp2_with fail
  go_ret
  exact ⟨rfl, HB3.out⟩
/-- a volume with nothing in it -/
def NewOut (w : World) (e : Ending) (w' : World) : Prop := ∃ b c, e = .returned (.agg #[.slice b 16 c, .int .i64 0, .slice none 0 0, .int .i64 0]) ∧ OwnV w.heap.size w'.heap.size b blankT none [] w' ∧ Below w.heap.size w w'
theorem new_own {w w' : World} {R : Nat} (hR : w.heap.size ≤ R) (hrow : SRow R blankT w') : OwnV w.heap.size w'.heap.size (some ⟨R, 0, none⟩) blankT none [] w' :=
  ⟨w'.heap.size, by have := hrow.lt; omega, Nat.le_refl _, Or.inr ⟨R, hR, hrow.lt, rfl, hrow⟩, Or.inl rfl⟩
set_option maxHeartbeats 1000000 in
theorem snew_any (w : World) : Calls Try.prog 17 #[] w fun e w' => NewOut w e w' := by
  have HB := hid (boxB w (.cells #[.slice none 0 0, .int .i64 0, .slice none 0 0, .int .i64 0] 27))
  have hbx : (w.alloc (.cells #[.slice none 0 0, .int .i64 0, .slice none 0 0, .int .i64 0] 27)).heap[w.heap.size]? = some (.cells #[.slice none 0 0, .int .i64 0, .slice none 0 0, .int .i64 0] 27) := heap_last _ _
  have hsz : (w.alloc (.cells #[.slice none 0 0, .int .i64 0, .slice none 0 0, .int .i64 0] 27)).heap.size = w.heap.size + 1 := by simp
  have HC := hid (l3blank_any (w.alloc (.cells #[.slice none 0 0, .int .i64 0, .slice none 0 0, .int .i64 0] 27)))
  go_enter Try.func17, Try.ntmps17
  go_wp2_with fail
  generalize w.alloc (.cells #[.slice none 0 0, .int .i64 0, .slice none 0 0, .int .i64 0] 27) = W at *
  refine HC.out.mono ?_
  rintro e w2 ⟨R, c, hR0, rfl, hrow, b2⟩
  have hbx2 := (b2.block w.heap.size (by omega)).trans hbx
  have HB2 : Hid (Below w.heap.size w w2) := HB.out.trans (b2.mono HB.out.size)
  have HROW := hid hrow
  have hR : w.heap.size < R := by omega
  have c0 := box_cell hbx2 0
  have f0 := box_free hbx2 0
  have c1 := box_cell hbx2 1
  have f1 := box_free hbx2 1
  have c2 := box_cell hbx2 2
  have f2 := box_free hbx2 2
  have c3 := box_cell hbx2 3
  have f3 := box_free hbx2 3
  have hbx3 := box_set (box_set (box_set (box_set hbx2 0 (.slice (some ⟨R, 0, none⟩) 16 c)) 1 (.int .i64 0)) 2 (.slice none 0 0)) 3 (.int .i64 0)
  have HOW : Hid (SRow R blankT ((((w2.setCell ⟨w.heap.size, 0, none⟩ (.slice (some ⟨R, 0, none⟩) 16 c)).setCell ⟨w.heap.size, 1, none⟩ (.int .i64 0)).setCell ⟨w.heap.size, 2, none⟩ (.slice none 0 0)).setCell ⟨w.heap.size, 3, none⟩ (.int .i64 0))) := by
    refine HROW.out.same (by simp [World.setCell]) ?_
    rw [keepB _ _ _ _ _ (by omega), keepB _ _ _ _ _ (by omega), keepB _ _ _ _ _ (by omega), keepB _ _ _ _ _ (by omega)]
  have HB3 := hid (setB (setB (setB (setB HB2.out w.heap.size 0 (Nat.le_refl _) (.slice (some ⟨R, 0, none⟩) 16 c)) w.heap.size 1 (Nat.le_refl _) (.int .i64 0)) w.heap.size 2 (Nat.le_refl _) (.slice none 0 0)) w.heap.size 3 (Nat.le_refl _) (.int .i64 0))
  have e0 := box_cell hbx3 0
  have e1 := box_cell hbx3 1
  have e2 := box_cell hbx3 2
  have e3 := box_cell hbx3 3
  clear hbx hbx2 hbx3 b2 hrow HC
  simp at c0 c1 c2 c3
  simp at e0 e1 e2 e3
  go_wp2_with fail
  generalize (((w2.setCell ⟨w.heap.size, 0, none⟩ (.slice (some ⟨R, 0, none⟩) 16 c)).setCell ⟨w.heap.size, 1, none⟩ (.int .i64 0)).setCell ⟨w.heap.size, 2, none⟩ (.slice none 0 0)).setCell ⟨w.heap.size, 3, none⟩ (.int .i64 0) = X at *
  refine bodyPost_ret (v := .agg #[.slice (some ⟨R, 0, none⟩) 16 c, .int .i64 0, .slice none 0 0, .int .i64 0]) (by simp [results, Try.results17, go_sem, e0, e1, e2, e3]) rfl ?_
  exact ⟨_, _, rfl, new_own (by omega) HOW.out, HB3.out⟩
theorem empty_one (w : World) : Calls Try.prog 36 #[] w fun e w' => ∃ R c, w.heap.size ≤ R ∧ e = .returned (.slice (some ⟨R, 0, none⟩) 16 c) ∧ SRow R blankT w' ∧ Below w.heap.size w w' :=
  (empty_any w).mono fun _ _ ⟨he, hrow, hb⟩ => ⟨_, _, Nat.le_refl _, he, hrow, hb⟩
set_option maxHeartbeats 1000000 in
theorem inew_any (w : World) : Calls Try.prog 21 #[] w fun e w' => NewOut w e w' := by
  have HB := hid (boxB w (.cells #[.slice none 0 0, .int .i64 0, .slice none 0 0, .int .i64 0] 27))
  have hbx : (w.alloc (.cells #[.slice none 0 0, .int .i64 0, .slice none 0 0, .int .i64 0] 27)).heap[w.heap.size]? = some (.cells #[.slice none 0 0, .int .i64 0, .slice none 0 0, .int .i64 0] 27) := heap_last _ _
  have hsz : (w.alloc (.cells #[.slice none 0 0, .int .i64 0, .slice none 0 0, .int .i64 0] 27)).heap.size = w.heap.size + 1 := by simp
  have HC := hid (empty_one (w.alloc (.cells #[.slice none 0 0, .int .i64 0, .slice none 0 0, .int .i64 0] 27)))
  go_enter Try.func21, Try.ntmps21
  go_wp2_with fail
  generalize w.alloc (.cells #[.slice none 0 0, .int .i64 0, .slice none 0 0, .int .i64 0] 27) = W at *
  refine HC.out.mono ?_
  rintro e w2 ⟨R, c, hR0, rfl, hrow, b2⟩
  have hbx2 := (b2.block w.heap.size (by omega)).trans hbx
  have HB2 : Hid (Below w.heap.size w w2) := HB.out.trans (b2.mono HB.out.size)
  have HROW := hid hrow
  have hR : w.heap.size < R := by omega
  have c0 := box_cell hbx2 0
  have f0 := box_free hbx2 0
  have c1 := box_cell hbx2 1
  have f1 := box_free hbx2 1
  have c2 := box_cell hbx2 2
  have f2 := box_free hbx2 2
  have c3 := box_cell hbx2 3
  have f3 := box_free hbx2 3
  have hbx3 := box_set (box_set (box_set (box_set hbx2 0 (.slice (some ⟨R, 0, none⟩) 16 c)) 1 (.int .i64 0)) 2 (.slice none 0 0)) 3 (.int .i64 0)
  have HOW : Hid (SRow R blankT ((((w2.setCell ⟨w.heap.size, 0, none⟩ (.slice (some ⟨R, 0, none⟩) 16 c)).setCell ⟨w.heap.size, 1, none⟩ (.int .i64 0)).setCell ⟨w.heap.size, 2, none⟩ (.slice none 0 0)).setCell ⟨w.heap.size, 3, none⟩ (.int .i64 0))) := by
    refine HROW.out.same (by simp [World.setCell]) ?_
    rw [keepB _ _ _ _ _ (by omega), keepB _ _ _ _ _ (by omega), keepB _ _ _ _ _ (by omega), keepB _ _ _ _ _ (by omega)]
  have HB3 := hid (setB (setB (setB (setB HB2.out w.heap.size 0 (Nat.le_refl _) (.slice (some ⟨R, 0, none⟩) 16 c)) w.heap.size 1 (Nat.le_refl _) (.int .i64 0)) w.heap.size 2 (Nat.le_refl _) (.slice none 0 0)) w.heap.size 3 (Nat.le_refl _) (.int .i64 0))
  have e0 := box_cell hbx3 0
  have e1 := box_cell hbx3 1
  have e2 := box_cell hbx3 2
  have e3 := box_cell hbx3 3
  clear hbx hbx2 hbx3 b2 hrow HC
  simp at c0 c1 c2 c3
  simp at e0 e1 e2 e3
  go_wp2_with fail
  generalize (((w2.setCell ⟨w.heap.size, 0, none⟩ (.slice (some ⟨R, 0, none⟩) 16 c)).setCell ⟨w.heap.size, 1, none⟩ (.int .i64 0)).setCell ⟨w.heap.size, 2, none⟩ (.slice none 0 0)).setCell ⟨w.heap.size, 3, none⟩ (.int .i64 0) = X at *
  refine bodyPost_ret (v := .agg #[.slice (some ⟨R, 0, none⟩) 16 c, .int .i64 0, .slice none 0 0, .int .i64 0]) (by simp [results, Try.results21, go_sem, e0, e1, e2, e3]) rfl ?_
  exact ⟨_, _, rfl, new_own (by omega) HOW.out, HB3.out⟩
end Go.Proofs.Ytlaafcmfddidnaa
