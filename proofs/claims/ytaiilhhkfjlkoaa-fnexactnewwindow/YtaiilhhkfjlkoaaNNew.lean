/- Both sides' NewWindow. -/
import Derived.Test.YtaiilhhkfjlkoaaNGood
import Derived.Test.YtaiilhhkfjlkoaaNApp
import Derived.Test.YtaiilhhkfjlkoaaNFam
import Derived.Deep.DeepCutAuto
namespace Go.Proofs.Ytaiilhhkfjlkoaa
set_option maxRecDepth 100000
open Go.ChangeShapes Go.WideShapes Go.ChangeAt Go.RowKit
/-- a window with nothing sent -/
def newW (l : List ByteArray) (sz : Int) : Wd := ⟨l, sz, List.replicate l.length false, [], List.replicate l.length ⟨#[]⟩, List.replicate l.length false, 0⟩
def newOk (l : List ByteArray) (sz : Int) : Bool := pcOk l && szOk sz
theorem GRow.of_cells {w : World} {R n : Nat} {T : TypeId} {z : Array Value} (h : w.heap[R]? = some (.cells (madeCells z (n * z.size)) T)) : GRow R z.size (List.replicate n z.toList) w := by
  refine ⟨kbox h, ?_, ?_, ?_⟩
  · intro i hi
    rw [List.getElem_replicate]; simp
  · intro i hi j hj
    have hi' : i < n := by simpa using hi
    have hlt := at_lt hi' hj
    rw [box_cell h, List.getElem_replicate]
    have e : (i * z.size + j) % z.size = j := by rw [Nat.mul_comm, Nat.mul_add_mod, Nat.mod_eq_of_lt hj]
    simp [madeCells, hlt, e, hj]
  · intro j hj
    exact box_free h j
theorem BRow.of_cells {w : World} {R n : Nat} {T : TypeId} (h : w.heap[R]? = some (.cells (madeCells (Value.bool false).cells n) T)) : BRow R (List.replicate n false) w := by
  have := GRow.of_cells (n := n) (z := #[.bool false]) (w := w) (R := R) (T := T) (by have e : n * (#[Value.bool false] : Array Value).size = n := Nat.mul_one n; rw [e]; exact h)
  unfold BRow
  rw [List.map_replicate]
  exact this
theorem SRow.of_cells {w : World} {R n : Nat} {T : TypeId} (h : w.heap[R]? = some (.cells (madeCells (Value.string ⟨#[]⟩).cells n) T)) : SRow R (List.replicate n ⟨#[]⟩) w := by
  have := GRow.of_cells (n := n) (z := #[.string ⟨#[]⟩]) (w := w) (R := R) (T := T) (by have e : n * (#[Value.string ⟨#[]⟩] : Array Value).size = n := Nat.mul_one n; rw [e]; exact h)
  unfold SRow
  rw [List.map_replicate]
  exact this
theorem up1 {w : World} {R : Nat} {o p : Obj} (h : w.heap[R]? = some o) : (w.alloc p).heap[R]? = some o := (Below.heap_alloc _ _ _ (kbox h)).trans h
theorem belA {n : Nat} {w v : World} {o : Obj} (h : Below n w v) (hn : n ≤ w.heap.size) : Below n w (v.alloc o) := h.trans ((boxB v o).mono (Nat.le_trans hn h.size))
theorem bel_on {n : Nat} {w v v' : World} (h : Below n w v) (g : Below v.heap.size v v') (hn : n ≤ w.heap.size := by exact Nat.le_refl _) : Below n w v' := h.trans (g.mono (Nat.le_trans hn h.size))
/-- what NewWindow answers -/
def NewO (l : List ByteArray) (sz : Int) (w : World) (e : Ending) (w' : World) : Prop :=
  (newOk l sz = true ∧ ∃ A, e = .returned (.tuple #[.agg #[.slice A.p (newW l sz).pc.length A.kp, .int .i64 (newW l sz).sz, .slice A.h (newW l sz).hd.length A.kh, .slice A.l (newW l sz).ln.length A.kl, .slice A.e (newW l sz).hl.length A.ke, .slice A.s (newW l sz).hs.length A.ks, .int .i64 (newW l sz).td], .bool true]) ∧ WO w.heap.size w'.heap.size A (newW l sz) w' ∧ Below w.heap.size w w') ∨
  (newOk l sz = false ∧ e = .returned (.tuple #[.agg #[.slice none 0 0, .int .i64 0, .slice none 0 0, .slice none 0 0, .slice none 0 0, .slice none 0 0, .int .i64 0], .bool false]) ∧ Below w.heap.size w w')
theorem new_own {w V F : World} {l : List ByteArray} {sz : Int} {b : Option Addr} {c R1 R2 R3 : Nat} (hQ : Out w.heap.size (w.heap.size + 1) V F) (hp : OwnS (w.heap.size + 1) V.heap.size b l V) (hcp : l.length ≤ c)
    (h1 : V.heap[R1]? = some (.cells (madeCells (Value.bool false).cells l.length) 4)) (h2 : V.heap[R2]? = some (.cells (madeCells (Value.string ⟨#[]⟩).cells l.length) 9)) (h3 : V.heap[R3]? = some (.cells (madeCells (Value.bool false).cells l.length) 4))
    (l1 : w.heap.size < R1) (l2 : w.heap.size < R2) (l3 : w.heap.size < R3) (d12 : R1 ≠ R2) (d13 : R1 ≠ R3) (d23 : R2 ≠ R3) (p1 : ∀ p, b = some p → 0 < l.length → p.block ≠ R1 ∧ p.block ≠ R2 ∧ p.block ≠ R3) :
    WO w.heap.size F.heap.size ⟨b, c, some ⟨R1, 0, none⟩, l.length, none, 0, some ⟨R2, 0, none⟩, l.length, some ⟨R3, 0, none⟩, l.length⟩ (newW l sz) F := by
  have hs := hQ.size
  have k1 := kbox h1
  have k2 := kbox h2
  have k3 := kbox h3
  have g : ∀ R o, V.heap[R]? = some o → w.heap.size < R → F.heap[R]? = some o := fun R o h hl => (hQ.block R (kbox h) (by omega)).trans h
  have a0 : ∀ {n m : Nat} {x y : Option Addr}, (∀ p q, x = some p → y = some q → p.block ≠ q.block) → Apt n x m y := fun h _ _ p q hp hq => h p q hp hq
  refine ⟨(hp.out hQ (by omega)).wide (by omega) hs, Or.inr ⟨R1, by omega, by omega, rfl, BRow.of_cells (g R1 _ h1 l1)⟩, Or.inl rfl, Or.inr ⟨R2, by omega, by omega, rfl, SRow.of_cells (g R2 _ h2 l2)⟩, Or.inr ⟨R3, by omega, by omega, rfl, BRow.of_cells (g R3 _ h3 l3)⟩, ⟨?_, ?_, ?_, ?_, ?_, ?_, ?_, ?_, ?_, ?_⟩, ⟨hcp, ?_, Nat.zero_le _, ?_, ?_⟩⟩
  · exact fun hn _ p q hp hq => by cases hq; exact (p1 p hp hn).1
  · exact fun _ h => absurd h (Nat.lt_irrefl _)
  · exact fun hn _ p q hp hq => by cases hq; exact (p1 p hp hn).2.1
  · exact fun hn _ p q hp hq => by cases hq; exact (p1 p hp hn).2.2
  · exact fun _ h => absurd h (Nat.lt_irrefl _)
  · exact a0 (fun p q hp hq => by cases hp; cases hq; exact d12)
  · exact a0 (fun p q hp hq => by cases hp; cases hq; exact d13)
  · exact fun h => absurd h (Nat.lt_irrefl _)
  · exact fun h => absurd h (Nat.lt_irrefl _)
  · exact a0 (fun p q hp hq => by cases hp; cases hq; exact d23)
  · show (List.replicate l.length false).length ≤ l.length; simp
  · show (List.replicate l.length (⟨#[]⟩ : ByteArray)).length ≤ l.length; simp
  · show (List.replicate l.length false).length ≤ l.length; simp

theorem made_rowB (v : World) (lo n : Nat) (h : lo ≤ v.heap.size) (hn : n ≤ 1048576) : (v.alloc (.cells (madeCells (Value.bool false).cells n) 4)).ownsRow lo 4 1 (.slice (some ⟨v.heap.size, 0, none⟩) n n) n (tvals (List.replicate n false)) := by
  have hs : (madeCells (Value.bool false).cells n).size = n := by simp [madeCells]
  refine ⟨by simp [tvals], .inr ⟨v.heap.size, n, _, rfl, h, heap_last _ _, Nat.le_refl _, by unfold maxLen; omega, by rw [hs, Nat.mul_one], ?_⟩⟩
  rw [Nat.mul_one, List.take_of_length_le (by rw [Array.length_toList, hs]; exact Nat.le_refl _)]
  refine List.ext_getElem (by rw [Array.length_toList, hs]; simp [tvals]) fun i h1 h2 => ?_
  simp [madeCells, tvals, Value.cells, Nat.mod_one]
theorem made_rowS (v : World) (lo n : Nat) (h : lo ≤ v.heap.size) (hn : n ≤ 1048576) : (v.alloc (.cells (madeCells (Value.string ⟨#[]⟩).cells n) 9)).ownsRow lo 9 1 (.slice (some ⟨v.heap.size, 0, none⟩) n n) n (svals (List.replicate n ⟨#[]⟩)) := by
  have hs : (madeCells (Value.string ⟨#[]⟩).cells n).size = n := by simp [madeCells]
  refine ⟨by simp [svals], .inr ⟨v.heap.size, n, _, rfl, h, heap_last _ _, Nat.le_refl _, by unfold maxLen; omega, by rw [hs, Nat.mul_one], ?_⟩⟩
  rw [Nat.mul_one, List.take_of_length_le (by rw [Array.length_toList, hs]; exact Nat.le_refl _)]
  refine List.ext_getElem (by rw [Array.length_toList, hs]; simp [svals]) fun i h1 h2 => ?_
  simp [madeCells, svals, Value.cells, Nat.mod_one]
theorem Ds.apt {n m : Nat} {a b : Option Addr} {k l c d : Nat} (h : Ds (.slice a k c) (.slice b l d)) : Apt n a m b := fun _ _ p q hp hq => by
  subst hp; subst hq
  exact h _ _ rfl rfl
/-- four rows of one's own are a new window -/
theorem rows_new {w v : World} {l : List ByteArray} {sz : Int} {x1 x2 x3 x4 : Value} (r1 : v.ownsRow (w.heap.size + 1) 9 1 x1 l.length (svals l)) (r2 : v.ownsRow (w.heap.size + 1) 4 1 x2 l.length (tvals (List.replicate l.length false)))
    (r3 : v.ownsRow (w.heap.size + 1) 9 1 x3 l.length (svals (List.replicate l.length ⟨#[]⟩))) (r4 : v.ownsRow (w.heap.size + 1) 4 1 x4 l.length (tvals (List.replicate l.length false)))
    (d12 : Ds x1 x2) (d13 : Ds x1 x3) (d14 : Ds x1 x4) (d23 : Ds x2 x3) (d24 : Ds x2 x4) (d34 : Ds x3 x4) :
    ∃ A : Ad, x1 = .slice A.p l.length A.kp ∧ x2 = .slice A.h l.length A.kh ∧ x3 = .slice A.e l.length A.ke ∧ x4 = .slice A.s l.length A.ks ∧ A.l = none ∧ A.kl = 0 ∧ WO (w.heap.size + 1) v.heap.size A (newW l sz) v := by
  have n1 : (List.replicate l.length false).length = l.length := by simp
  have n2 : (List.replicate l.length (⟨#[]⟩ : ByteArray)).length = l.length := by simp
  have c1 := r1
  have c2 := r2
  have c3 := r3
  have c4 := r4
  obtain ⟨a1, k1, rfl, o1⟩ := own_strs r1
  obtain ⟨a2, k2, e2, o2⟩ := own_bools (l := List.replicate l.length false) (by rw [n1]; exact r2)
  obtain ⟨a3, k3, e3, o3⟩ := own_strs (l := List.replicate l.length (⟨#[]⟩ : ByteArray)) (by rw [n2]; exact r3)
  obtain ⟨a4, k4, e4, o4⟩ := own_bools (l := List.replicate l.length false) (by rw [n1]; exact r4)
  rw [n1] at e2 e4
  rw [n2] at e3
  subst e2 e3 e4
  have z0 : ∀ {n : Nat} {x y : Option Addr}, Apt n x 0 y := fun _ h => absurd h (Nat.lt_irrefl _)
  have z1 : ∀ {n : Nat} {x y : Option Addr}, Apt 0 x n y := fun h => absurd h (Nat.lt_irrefl _)
  refine ⟨⟨a1, k1, a2, k2, none, 0, a3, k3, a4, k4⟩, rfl, rfl, rfl, rfl, rfl, rfl, ⟨o1, o2, Or.inl rfl, o3, o4, ⟨d12.apt, z0, d13.apt, d14.apt, z0, d23.apt, d24.apt, z1, z1, d34.apt⟩, ⟨(rw_cap c1).1, ?_, Nat.zero_le _, ?_, ?_⟩⟩⟩
  · show (List.replicate l.length false).length ≤ k2; rw [n1]; exact (rw_cap c2).1
  · show (List.replicate l.length (⟨#[]⟩ : ByteArray)).length ≤ k3; rw [n2]; exact (rw_cap c3).1
  · show (List.replicate l.length false).length ≤ k4; rw [n1]; exact (rw_cap c4).1
set_option maxHeartbeats 8000000 in
theorem inew_any (a : Option Addr) (c : Nat) (l : List ByteArray) (sz : Int) (w : World) (hn : l.length ≤ 1048576) (h : Ss w.heap.size a l w) :
    Calls Try.prog 12 #[.slice a l.length c, .int .i64 sz] w fun e w' => NewO l sz w e w' := by
  have HB := hid (boxB w (.cells #[.slice none 0 0, .int .i64 0, .slice none 0 0, .slice none 0 0, .slice none 0 0, .slice none 0 0, .int .i64 0] 27))
  have HK := hid (heap_last w (.cells #[.slice none 0 0, .int .i64 0, .slice none 0 0, .slice none 0 0, .slice none 0 0, .slice none 0 0, .int .i64 0] 27))
  have HZ : Hid (∀ v, Below w.heap.size w v → Ss v.heap.size a l v) := fun v g => (h.below g).mono g.size
  clear h
  go_enter Try.func12, Try.ntmps12
  go_wp2_with fail
  generalize w.alloc (.cells #[.slice none 0 0, .int .i64 0, .slice none 0 0, .slice none 0 0, .slice none 0 0, .slice none 0 0, .int .i64 0] 27) = W at *
  obtain ⟨⟨z0, z1, z2, z3, z4, z5, z6⟩, f0, f1, f2, f3, f4, f5, f6⟩ := box7 HK.out
  refine (goodPieces_any a c l W hn (HZ.out _ HB.out)).mono ?_
  rintro e v ⟨rfl, hv⟩
  rw [hv]
  clear hv v
  cases hp : pcOk l
  case false =>
    have HE := hid (show newOk l sz = false by unfold newOk; rw [hp]; rfl)
    go_wp2_with fail
    have hb7 := box7 (fill7 HK.out (.slice none 0 0) (.int .i64 0) (.slice none 0 0) (.slice none 0 0) (.slice none 0 0) (.slice none 0 0) (.int .i64 0))
    obtain ⟨⟨q0, q1, q2, q3, q4, q5, q6⟩, -⟩ := hb7
    refine bodyPost_ret (v := .tuple #[.agg #[.slice none 0 0, .int .i64 0, .slice none 0 0, .slice none 0 0, .slice none 0 0, .slice none 0 0, .int .i64 0], .bool false]) (by simp [results, Try.results12, go_sem, q0, q1, q2, q3, q4, q5, q6]) rfl ?_
    exact Or.inr ⟨HE.out, rfl, fill7_below HB.out (Nat.le_refl _) _ _ _ _ _ _ _⟩
  have HP := hid hp
  clear hp
  go_wp2_with fail
  refine (isSize_any sz W).mono ?_
  rintro e v ⟨rfl, hv⟩
  rw [hv]
  clear hv v
  cases hz : szOk sz
  case false =>
    have HE := hid (show newOk l sz = false by unfold newOk; rw [hz, Bool.and_false])
    go_wp2_with fail
    have hb7 := box7 (fill7 HK.out (.slice none 0 0) (.int .i64 0) (.slice none 0 0) (.slice none 0 0) (.slice none 0 0) (.slice none 0 0) (.int .i64 0))
    obtain ⟨⟨q0, q1, q2, q3, q4, q5, q6⟩, -⟩ := hb7
    refine bodyPost_ret (v := .tuple #[.agg #[.slice none 0 0, .int .i64 0, .slice none 0 0, .slice none 0 0, .slice none 0 0, .slice none 0 0, .int .i64 0], .bool false]) (by simp [results, Try.results12, go_sem, q0, q1, q2, q3, q4, q5, q6]) rfl ?_
    exact Or.inr ⟨HE.out, rfl, fill7_below HB.out (Nat.le_refl _) _ _ _ _ _ _ _⟩
  have HOK : Hid (newOk l sz = true) := by show newOk l sz = true; unfold newOk; rw [HP.out, hz]; rfl
  clear hz
  have hl12 := (pcOk_iff.1 HP.out).1
  have HL20 := hid (pcOk_iff.1 HP.out).2
  have hmB := make_bools l.length hn
  have hmS := make_strsV l.length hn
  have HCT : Hid (∀ v, Below w.heap.size w v → Calls Try.prog 43 #[.slice a l.length c] v fun e w' => ∃ x, e = .returned x ∧ w'.ownsRow v.heap.size 9 1 x l.length (svals l) ∧ Below v.heap.size v w') := fun v g => copyTexts_any a c l v (by omega) (fun k hk => by have := HL20.out k hk; omega) (HZ.out v g)
  clear hl12 z0 f0 z1 f1 z2 f2 z3 f3 z4 f4 z5 f5 z6 f6 hmB hmS
  have hmB := make_bools l.length hn
  have hmS := make_strsV l.length hn
  have HMB := hid hmB
  have HMS := hid hmS
  clear hmB hmS
  have HG0 : Hid (Below w.heap.size w W.drew ∧ W.drew.heap[w.heap.size]? = some (.cells #[.slice none 0 0, .int .i64 0, .slice none 0 0, .slice none 0 0, .slice none 0 0, .slice none 0 0, .int .i64 0] 27)) := ⟨HB.out.drew, HK.out⟩
  go_upto_region 4 with fail
  go_cut [5] (fun s5 wc => s5 = .bool true ∧ ∃ A : Ad, wc.heap[w.heap.size]? = some (.cells #[.slice A.p l.length A.kp, .int .i64 sz, .slice A.h l.length A.kh, .slice A.l 0 A.kl, .slice A.e l.length A.ke, .slice A.s l.length A.ks, .int .i64 0] 27) ∧ WO w.heap.size wc.heap.size A (newW l sz) wc ∧ Below w.heap.size w wc)
  case first =>
    refine wp_region_any (by kernel_rfl) ?_
    clear HB HK
    refine wpAny_take (i := 0) (v := .slice a l.length c) rfl (by kernel_rfl) (by kernel_rfl) (by kernel_rfl) (fun _ _ _ h => h) (Or.inl ⟨by rfl, fun _ => by go_simp⟩) ?_
    try dsimp only [Act.put]
    refine wpAny_take (i := 2) (v := .int .i64 sz) rfl (by kernel_rfl) (by kernel_rfl) (by kernel_rfl) (fun _ _ _ h => h) (Or.inl ⟨by rfl, fun _ => by go_simp⟩) ?_
    try dsimp only [Act.put]
    refine wpAny_take (i := 3) (v := .int .i64 l.length) rfl (by kernel_rfl) (by kernel_rfl) (by kernel_rfl) (fun _ _ _ h => h) (Or.inl ⟨by rfl, fun _ => by go_simp⟩) ?_
    try dsimp only [Act.put]
    refine wpAny_take (i := 5) (v := .int .i64 l.length) rfl (by kernel_rfl) (by kernel_rfl) (by kernel_rfl) (fun _ _ _ h => h) (Or.inl ⟨by rfl, fun _ => by go_simp⟩) ?_
    try dsimp only [Act.put]
    refine wpAny_take (i := 7) (v := .int .i64 l.length) rfl (by kernel_rfl) (by kernel_rfl) (by kernel_rfl) (fun _ _ _ h => h) (Or.inl ⟨by rfl, fun _ => by go_simp⟩) ?_
    try dsimp only [Act.put]
    refine wpAny_fam4 (fun b1 b2 b3 b4 => #[true, b1, true, true, b2, true, b3, true, b4, false, false, false]) (fun x1 x2 x3 x4 => { tmps := #[.slice a l.length c, .int .i64 sz, undef, undef, .pointer (some ⟨w.heap.size, 0, none⟩), .bool false, .int .i64 l.length, .slice a l.length c, .bool true, .bool false, .bool false, .int .i64 sz, .bool true, .bool false, .bool false, undef, .slice a l.length c, .int .i64 l.length, .slice a l.length c, x1, .int .i64 sz, .int .i64 l.length, x2, .int .i64 l.length, x3, .int .i64 l.length, x4, undef], defers := [] }) (fun v => Below w.heap.size w v ∧ v.heap[w.heap.size]? = some (.cells #[.slice none 0 0, .int .i64 0, .slice none 0 0, .slice none 0 0, .slice none 0 0, .slice none 0 0, .int .i64 0] 27)) (fun v x => v.ownsRow (w.heap.size + 1) 9 1 x l.length (svals l)) (fun v x => v.ownsRow (w.heap.size + 1) 4 1 x l.length (tvals (List.replicate l.length false))) (fun v x => v.ownsRow (w.heap.size + 1) 9 1 x l.length (svals (List.replicate l.length ⟨#[]⟩))) (fun v x => v.ownsRow (w.heap.size + 1) 4 1 x l.length (tvals (List.replicate l.length false))) (ownP_row _ _ _ _ _) (ownP_row _ _ _ _ _) (ownP_row _ _ _ _ _) (ownP_row _ _ _ _ _) 1 4 6 8 3 ?_ (fun _ _ _ _ => rfl) (fun _ _ _ _ => rfl) (fun _ _ _ _ => rfl) (fun _ _ _ _ => rfl) ?_ ?_ ?_ ?_ ?_ undef undef undef undef _ HG0.out
    · intro b1 b2 b3 b4 hb
      cases b1 <;> cases b2 <;> cases b3 <;> cases b4 <;> first | (exact absurd hb (by decide)) | (exact ⟨by kernel_rfl, by kernel_rfl⟩)
    · intro x1 x2 x3 x4 v hG
      have hlt := kbox hG.2
      have HGv := hid hG
      clear hG
      refine wpOp_step rfl (fun K hK => ?_)
      have HK9 := hid hK
      clear hK
      rw [if_pos (by rfl)]
      go_simp
      refine (HCT.out v HGv.out.1).mono ?_
      rintro e v' ⟨y, rfl, hown, hb⟩
      dsimp only
      exact HK9.out _ _ ⟨y, rfl, hb, ⟨bel_on HGv.out.1 hb, (hb.block _ hlt).trans HGv.out.2⟩, rw_mono hown hlt, fun k hk => (hown.lt k hk).1⟩
    · intro x1 x2 x3 x4 v hG
      have hlt := kbox hG.2
      have hrow := made_rowB v (w.heap.size + 1) l.length hlt hn
      have hm9 := HMB.out v
      have gA := boxB v (.cells (madeCells (Value.bool false).cells l.length) 4)
      have hG2 := up1 (p := .cells (madeCells (Value.bool false).cells l.length) 4) hG.2
      have hG1 := belA (o := .cells (madeCells (Value.bool false).cells l.length) 4) hG.1 (Nat.le_refl _)
      generalize madeCells (Value.bool false).cells l.length = MM at *
      refine wpOp_step rfl (fun K hK => ?_)
      have HK9 := hid hK
      clear hK
      rw [if_pos (by rfl)]
      go_simp
      exact HK9.out _ _ ⟨_, rfl, gA, ⟨hG1, hG2⟩, hrow, fun k hk => by have h9 : some v.heap.size = some k := hk; injection h9 with h8; omega⟩
    · intro x1 x2 x3 x4 v hG
      have hlt := kbox hG.2
      have hrow := made_rowS v (w.heap.size + 1) l.length hlt hn
      have hm9 := HMS.out v
      have gA := boxB v (.cells (madeCells (Value.string ⟨#[]⟩).cells l.length) 9)
      have hG2 := up1 (p := .cells (madeCells (Value.string ⟨#[]⟩).cells l.length) 9) hG.2
      have hG1 := belA (o := .cells (madeCells (Value.string ⟨#[]⟩).cells l.length) 9) hG.1 (Nat.le_refl _)
      generalize madeCells (Value.string ⟨#[]⟩).cells l.length = MM at *
      refine wpOp_step rfl (fun K hK => ?_)
      have HK9 := hid hK
      clear hK
      rw [if_pos (by rfl)]
      go_simp
      exact HK9.out _ _ ⟨_, rfl, gA, ⟨hG1, hG2⟩, hrow, fun k hk => by have h9 : some v.heap.size = some k := hk; injection h9 with h8; omega⟩
    · intro x1 x2 x3 x4 v hG
      have hlt := kbox hG.2
      have hrow := made_rowB v (w.heap.size + 1) l.length hlt hn
      have hm9 := HMB.out v
      have gA := boxB v (.cells (madeCells (Value.bool false).cells l.length) 4)
      have hG2 := up1 (p := .cells (madeCells (Value.bool false).cells l.length) 4) hG.2
      have hG1 := belA (o := .cells (madeCells (Value.bool false).cells l.length) 4) hG.1 (Nat.le_refl _)
      generalize madeCells (Value.bool false).cells l.length = MM at *
      refine wpOp_step rfl (fun K hK => ?_)
      have HK9 := hid hK
      clear hK
      rw [if_pos (by rfl)]
      go_simp
      exact HK9.out _ _ ⟨_, rfl, gA, ⟨hG1, hG2⟩, hrow, fun k hk => by have h9 : some v.heap.size = some k := hk; injection h9 with h8; omega⟩
    · intro x1 x2 x3 x4 v hG r1 r2 r3 r4 d12 d13 d14 d23 d24 d34
      obtain ⟨A, rfl, rfl, rfl, rfl, e5, e6, hW⟩ := rows_new (sz := sz) r1 r2 r3 r4 d12 d13 d14 d23 d24 d34
      have hO := fill7_out v w.heap.size (.slice A.p l.length A.kp) (.int .i64 sz) (.slice A.h l.length A.kh) (.slice none 0 0) (.slice A.e l.length A.ke) (.slice A.s l.length A.ks) (.int .i64 0)
      have hF := fill7 hG.2 (.slice A.p l.length A.kp) (.int .i64 sz) (.slice A.h l.length A.kh) (.slice none 0 0) (.slice A.e l.length A.ke) (.slice A.s l.length A.ks) (.int .i64 0)
      have hBF := fill7_below hG.1 (Nat.le_refl _) (.slice A.p l.length A.kp) (.int .i64 sz) (.slice A.h l.length A.kh) (.slice none 0 0) (.slice A.e l.length A.ke) (.slice A.s l.length A.ks) (.int .i64 0)
      have hW2 := (hW.out hO (Or.inr (Nat.le_refl _))).wide (Nat.le_succ _) hO.size
      have HW2 := hid hW2
      have HFF := hid hF
      have HBF := hid hBF
      obtain ⟨⟨z0, z1, z2, z3, z4, z5, z6⟩, f0, f1, f2, f3, f4, f5, f6⟩ := box7 hG.2
      have HE := hid (And.intro e5 e6)
      clear r1 r2 r3 r4 d12 d13 d14 d23 d24 d34 hW hO hF hBF hW2 hG e5 e6
      refine wpAny_take (i := 9) (v := .agg #[.slice A.p l.length A.kp, .int .i64 sz, .slice A.h l.length A.kh, .slice none 0 0, .slice A.e l.length A.ke, .slice A.s l.length A.ks, .int .i64 0]) rfl (by kernel_rfl) (by kernel_rfl) (by kernel_rfl) (fun _ _ _ h => h) (Or.inl ⟨by rfl, fun _ => by go_simp⟩) ?_
      try dsimp only [Act.put]
      refine wpAny_ready (rs := [10]) (by kernel_rfl) (by simp) (AllReady.cons rfl (fun K hK => ?_) AllReady.nil)
      have HK9 := hid hK
      clear hK
      rw [if_pos (by rfl)]
      go_simp
      refine HK9.out _ _ ?_
      clear HK9 K
      try dsimp only [Act.put]
      generalize (((((((v.setCell ⟨w.heap.size, 0, none⟩ (.slice A.p l.length A.kp)).setCell ⟨w.heap.size, 1, none⟩ (.int .i64 sz)).setCell ⟨w.heap.size, 2, none⟩ (.slice A.h l.length A.kh)).setCell ⟨w.heap.size, 3, none⟩ (.slice none 0 0)).setCell ⟨w.heap.size, 4, none⟩ (.slice A.e l.length A.ke)).setCell ⟨w.heap.size, 5, none⟩ (.slice A.s l.length A.ks)).setCell ⟨w.heap.size, 6, none⟩ (.int .i64 0)) = F9 at *
      refine wpAny_ready (rs := [11]) (by kernel_rfl) (by simp) (AllReady.cons rfl (fun K hK => ?_) AllReady.nil)
      have HK9 := hid hK
      clear hK
      rw [if_pos (by rfl)]
      go_simp
      refine HK9.out _ _ ?_
      clear HK9 K
      try dsimp only [Act.put]
      refine wpAny_done (by kernel_rfl) ?_ _
      go_wp2_with fail
      go_meet
      case rel =>
        obtain ⟨e5, e6⟩ := HE.out
        refine ⟨rfl, A, ?_, HW2.out, HBF.out⟩
        rw [HFF.out, e5, e6]
  case rest =>
    obtain ⟨rfl, A, hK, hO, hB⟩ := hcut
    have HO := hid hO
    have HBF := hid hB
    obtain ⟨⟨q0, q1, q2, q3, q4, q5, q6⟩, -⟩ := box7 hK
    clear hK hO hB
    go_wp2_with fail
    refine bodyPost_ret (v := .tuple #[.agg #[.slice A.p l.length A.kp, .int .i64 sz, .slice A.h l.length A.kh, .slice A.l 0 A.kl, .slice A.e l.length A.ke, .slice A.s l.length A.ks, .int .i64 0], .bool true]) (by simp [results, Try.results12, go_sem, q0, q1, q2, q3, q4, q5, q6]) rfl ?_
    refine Or.inl ⟨HOK.out, A, ?_, HO.out, HBF.out⟩
    show Ending.returned (.tuple #[.agg #[.slice A.p l.length A.kp, .int .i64 sz, .slice A.h l.length A.kh, .slice A.l 0 A.kl, .slice A.e l.length A.ke, .slice A.s l.length A.ks, .int .i64 0], .bool true]) = Ending.returned (.tuple #[.agg #[.slice A.p l.length A.kp, .int .i64 sz, .slice A.h (List.replicate l.length false).length A.kh, .slice A.l 0 A.kl, .slice A.e (List.replicate l.length (⟨#[]⟩ : ByteArray)).length A.ke, .slice A.s (List.replicate l.length false).length A.ks, .int .i64 0], .bool true])
    rw [List.length_replicate, List.length_replicate]
end Go.Proofs.Ytaiilhhkfjlkoaa
