/- Walks of the model's l5Write where there is no room, l5Block, WriteBlock. Walk of the model's WriteBlock. -/
import Derived.Test.YtohkhcjdjjlfbaaSWr
import Derived.Test.YtohkhcjdjjlfbaaSOwn
import Derived.Test.YtohkhcjdjjlfbaaHA
namespace Go.Proofs.Ytohkhcjdjjlfbaa
set_option maxRecDepth 100000
open Go.ChangeShapes Go.WideShapes Go.ChangeAt Go.RowKit G00541
set_option maxHeartbeats 2000000 in
theorem l5Write_none (aS aL : Option Addr) (kS kL : Nat) (S : List Sg) (L : List (List Bool)) (x no : Int) (w : World) (hm : S.length ≤ 8) (hroom : roomH S no = none) (hG : Gs w.heap.size aS S w) :
    Calls Try.prog 37 #[.agg #[.slice aS S.length kS, .slice aL L.length kL], .int .i64 x, .int .i64 no] w fun e w' => e = .returned (.tuple #[.agg #[.slice aS S.length kS, .slice aL L.length kL], .bool false]) ∧ Below w.heap.size w w' := by
  have HK := hid (WK.start w.heap.size w (.cells #[.slice aS S.length kS, .slice aL L.length kL] 26) (Nat.le_refl _))
  have HRM : Hid (∀ v, Below w.heap.size w v → Calls Try.prog 64 #[.agg #[.slice aS S.length kS, .slice aL L.length kL], .int .i64 no] v fun e w' => e = .returned (.int .i64 (-1)) ∧ Below v.heap.size v w') := fun v hb => by
    have := l5Room_any aS aL kS kL L.length S no v (by omega) ((hG.below hb).mono hb.size)
    rw [hroom] at this; exact this
  have y0 := box_cell HK.out.box 0
  have y1 := box_cell HK.out.box 1
  clear hG hroom
  generalize L.length = nl at *
  generalize hW : (w.alloc (.cells #[.slice aS S.length kS, .slice aL nl kL] 26)).alloc (.cells #[.slice none 0 0, .slice none 0 0] 26) = W at *
  go_enter Try.func37, Try.ntmps37
  go_wp2_with fail
  refine (HRM.out _ HK.out.below).mono ?_
  rintro e w2 ⟨rfl, b2⟩
  have HK2 := hid (HK.out.on b2 (Nat.le_refl _))
  clear b2 hW y0 y1 HK HRM
  have y0 : w2.cell? ⟨w.heap.size, 0, none⟩ = some (.slice aS S.length kS) := box_cell HK2.out.box 0
  have y1 : w2.cell? ⟨w.heap.size, 1, none⟩ = some (.slice aL nl kL) := box_cell HK2.out.box 1
  have z0 : w2.cell? ⟨w.heap.size + 1, 0, none⟩ = some (.slice none 0 0) := box_cell HK2.out.res 0
  have z1 : w2.cell? ⟨w.heap.size + 1, 1, none⟩ = some (.slice none 0 0) := box_cell HK2.out.res 1
  have z0f := box_free HK2.out.res 0
  have z1f := box_free HK2.out.res 1
  obtain ⟨b10, x0, x1⟩ := HK2.out.fill (Nat.le_refl _) (.slice aS S.length kS) (.slice aL nl kL)
  have HB10 := hid b10
  clear b10 HK2
  go_wp2_with fail
  generalize (w2.setCell ⟨w.heap.size + 1, 0, none⟩ (.slice aS S.length kS)).setCell ⟨w.heap.size + 1, 1, none⟩ (.slice aL nl kL) = X at *
  exact bodyPost_ret (v := .tuple #[.agg #[.slice aS S.length kS, .slice aL nl kL], .bool false]) (by simp [results, Try.results37, go_sem, x0, x1]) rfl ⟨rfl, HB10.out⟩
theorem l5Block_yes (x : Int) (w : World) (h : 0 ≤ x ∧ x ≤ 15) : Calls Try.prog 58 #[.int .i64 x] w fun e w' => e = .returned (.bool true) ∧ w' = w := by
  have HN := hid (fun v => l1In_yes x 0 15 v h.1 h.2)
  go_enter Try.func58, Try.ntmps58
  go_wp2_with fail
  refine (HN.out _).mono ?_
  rintro e w2 ⟨rfl, hw2⟩
  rw [hw2]
  clear hw2
  go_wp2_with fail
  go_ret
  exact ⟨rfl, rfl⟩
theorem l5Block_no (x : Int) (w : World) (h : ¬ (0 ≤ x ∧ x ≤ 15)) : Calls Try.prog 58 #[.int .i64 x] w fun e w' => e = .returned (.bool false) ∧ w' = w := by
  have HN := hid (fun v => l1In_no x 0 15 v (by omega))
  go_enter Try.func58, Try.ntmps58
  go_wp2_with fail
  refine (HN.out _).mono ?_
  rintro e w2 ⟨rfl, hw2⟩
  rw [hw2]
  clear hw2
  go_wp2_with fail
  go_ret
  exact ⟨rfl, rfl⟩
/-- what a function that tells a heap tells: in memory of its own -/
def HOut (S : List Sg) (L : List (List Bool)) (ok : Bool) (w : World) (e : Ending) (w' : World) : Prop := ∃ vS vL, e = .returned (.tuple #[.agg #[vS, vL], .bool ok]) ∧ HR w.heap.size vS vL S L w' ∧ Below w.heap.size w w'
theorem HR.nil (lo : Nat) (w : World) : HR lo (.slice none 0 0) (.slice none 0 0) [] [] w := by
  refine ⟨rfl, fun _ => .slice none 0 0, fun _ => .slice none 0 0, fun x hx => ?_, fun x y hx hy hne g hg => ?_⟩
  · cases x with
    | s => exact rw_nil _ _ _ _
    | l => exact rw_nil _ _ _ _
    | b i => exact absurd hx (Nat.not_lt_zero _)
    | v i => exact absurd hx (Nat.not_lt_zero _)
  · cases x with
    | s => cases hg
    | l => cases hg
    | b i => exact absurd hx (Nat.not_lt_zero _)
    | v i => exact absurd hx (Nat.not_lt_zero _)
theorem HOut.no {w w' : World} (hb : Below w.heap.size w w') : HOut [] [] false w (.returned (.tuple #[.agg #[.slice none 0 0, .slice none 0 0], .bool false])) w' := ⟨_, _, rfl, HR.nil _ _, hb⟩
/-- lengths that a good heap keeps to -/
def Lens (S : List Sg) (L : List (List Bool)) (n : Nat) : Prop := S.length ≤ 8 ∧ L.length = S.length ∧ ∀ k, k < S.length → (lvAt L k).length = (blAt S k).length ∧ (blAt S k).length ≤ n
theorem Lens.good {S : List Sg} {L : List (List Bool)} (hl : L.length = S.length) (hg : goodH S L = true) : Lens S L 6 := by
  obtain ⟨hn, hall, _⟩ := (goodH_iff S L hl).1 hg
  refine ⟨hn.2, hl, fun k hk => ?_⟩
  obtain ⟨g1, _, _, _, g5⟩ := (goodS_iff _ _).1 (hall k hk)
  rw [lvAt_eq L k (by omega), blAt_eq S k hk]
  exact ⟨g5, g1⟩
theorem Lens.at {S : List Sg} {L : List (List Bool)} {n : Nat} (h : Lens S L n) (hn : n ≤ 100) : S.length ≤ 100 ∧ (∀ k (h : k < S.length), S[k].bl.length ≤ 100) ∧ ∀ k (h : k < L.length), L[k].length ≤ 100 := by
  obtain ⟨h1, h2, h3⟩ := h
  refine ⟨by omega, fun k hk => ?_, fun k hk => ?_⟩
  · have := (h3 k hk).2
    rw [blAt_eq S k hk] at this; omega
  · have := h3 k (by omega)
    rw [lvAt_eq L k hk] at this; omega
theorem offL_len (L : List (List Bool)) (o : Option (Nat × Nat)) : (offL L o).length = L.length := by
  cases o with
  | none => rfl
  | some t => obtain ⟨k, i⟩ := t; exact List.length_set
theorem offL_at (L : List (List Bool)) (o : Option (Nat × Nat)) (k : Nat) (h : k < L.length) : (lvAt (offL L o) k).length = (lvAt L k).length := by
  cases o with
  | none => rfl
  | some t =>
    obtain ⟨j, i⟩ := t
    show (lvAt (L.set j _) k).length = _
    rw [lvAt_set _ _ _ _ h]
    split
    · rename_i e; subst e; rw [List.length_set]
    · rfl
theorem Lens.put {S : List Sg} {L : List (List Bool)} {n : Nat} (h : Lens S L n) (o : Option (Nat × Nat)) (to : Nat) (hto : to < S.length) (x : Int) : Lens (putS S to x) (putL (offL L o) to) (n + 1) := by
  obtain ⟨h1, h2, h3⟩ := h
  unfold putS putL
  refine ⟨by rw [List.length_set]; exact h1, by rw [List.length_set, List.length_set, offL_len]; exact h2, fun k hk => ?_⟩
  rw [List.length_set] at hk
  rw [lvAt_set _ _ _ _ (by rw [offL_len]; omega), blAt_set _ _ _ _ hk]
  have h4 := h3 k hk
  split
  · rename_i e; subst e
    have e1 := offL_at L o k (by omega)
    constructor
    · rw [List.length_append, List.length_append, e1, h4.1]; rfl
    · show (blAt S k ++ [x]).length ≤ n + 1
      rw [List.length_append]; simp; omega
  · exact ⟨by rw [offL_at L o k (by omega)]; exact h4.1, by omega⟩
end Go.Proofs.Ytohkhcjdjjlfbaa
namespace Go.Proofs.Ytohkhcjdjjlfbaa
set_option maxRecDepth 100000
open Go.ChangeShapes Go.WideShapes Go.ChangeAt Go.RowKit G00541
theorem HR.open {lo : Nat} {vS vL : Value} {S : List Sg} {L : List (List Bool)} {w : World} (h : HR lo vS vL S L w) (h0 : 0 < S.length) : ∃ gs kS gl kL q p, vS = .slice (some ⟨gs, 0, none⟩) S.length kS ∧ vL = .slice (some ⟨gl, 0, none⟩) L.length kL ∧ (lo ≤ gs ∧ gs < w.heap.size) ∧ (lo ≤ gl ∧ gl < w.heap.size) ∧
    Fam lo (hd2 S.length L.length) (hf vS vL q p S L) w ∧ Gs w.heap.size (some ⟨gs, 0, none⟩) S w ∧ Vs w.heap.size (some ⟨gl, 0, none⟩) L w := by
  obtain ⟨aS, kS, aL, kL, e1, e2, hG, hV⟩ := h.read
  obtain ⟨hl, q, p, hF⟩ := h
  obtain ⟨gs, c1, f1, b1, b2⟩ := rw_block (hF.own .s trivial) h0
  obtain ⟨gl, c2, f2, b3, b4⟩ := rw_block (hF.own .l trivial) (show 0 < L.length by omega)
  have f1' : vS = .slice (some ⟨gs, 0, none⟩) S.length c1 := f1
  have f2' : vL = .slice (some ⟨gl, 0, none⟩) L.length c2 := f2
  rw [e1] at f1'
  rw [e2] at f2'
  injection f1' with i1
  injection f2' with i2
  subst i1
  subst i2
  refine ⟨gs, kS, gl, kL, q, p, e1, e2, ⟨b1, b2⟩, ⟨b3, b4⟩, ?_, hG, hV⟩
  have : hd2 S.length L.length = hd S.length := by unfold hd; rw [hl]
  rw [this]
  exact hF
theorem good_lens5 (S : List Sg) (L : List (List Bool)) (hl : L.length = S.length) (hg : goodH S L = true) : S.length ≤ 8 ∧ ∀ k (h : k < S.length), (L[k]'(by omega)).length = S[k].bl.length ∧ S[k].bl.length ≤ 1048576 := by
  obtain ⟨hn, hall, _⟩ := (goodH_iff S L hl).1 hg
  refine ⟨hn.2, fun k h => ?_⟩
  obtain ⟨g1, _, _, _, g5⟩ := (goodS_iff _ _).1 (hall k h)
  exact ⟨g5, by omega⟩
theorem HR.fill {lo lo' : Nat} {vS vL : Value} {S : List Sg} {L : List (List Bool)} {w wr : World} {o : Obj} (h : HR lo' vS vL S L wr) (hk : WK lo w o wr) (x y : Value) : HR lo' vS vL S L ((wr.setCell ⟨w.heap.size + 1, 0, none⟩ x).setCell ⟨w.heap.size + 1, 1, none⟩ y) := by
  obtain ⟨hl, q, p, hF⟩ := h
  exact ⟨hl, q, p, (hF.box hk.res 0 x).box (box_set hk.res 0 x) 1 y⟩
set_option maxHeartbeats 2000000 in
theorem sWrite_bad (aS aL : Option Addr) (kS kL : Nat) (S : List Sg) (L : List (List Bool)) (x : Int) (w : World) (hno : ¬ (goodH S L = true ∧ 0 ≤ x ∧ x ≤ 15)) (hG : Gs w.heap.size aS S w) (hV : Vs w.heap.size aL L w) :
    Calls Try.prog 26 #[.agg #[.slice aS S.length kS, .slice aL L.length kL], .int .i64 x] w fun e w' => HOut [] [] false w e w' := by
  have HK := hid (WK.start w.heap.size w (.cells #[.slice aS S.length kS, .slice aL L.length kL] 26) (Nat.le_refl _))
  have HC : Hid (∀ v, Below w.heap.size w v → Calls Try.prog 12 #[.agg #[.slice aS S.length kS, .slice aL L.length kL]] v fun e w' => e = .returned (.bool (goodH S L)) ∧ Below v.heap.size v w') := fun v hb => sgoodH_any aS aL kS kL S L v ((hG.below hb).mono hb.size) ((hV.below hb).mono hb.size)
  have HN : Hid (goodH S L = true → ¬ (0 ≤ x ∧ x ≤ 15)) := fun h h2 => hno ⟨h, h2⟩
  have y0 := box_cell HK.out.box 0
  have y1 := box_cell HK.out.box 1
  clear hG hV hno
  generalize L.length = nl at *
  generalize hW : (w.alloc (.cells #[.slice aS S.length kS, .slice aL nl kL] 26)).alloc (.cells #[.slice none 0 0, .slice none 0 0] 26) = W at *
  generalize goodH S L = g at *
  have HC2 := hid (HC.out _ HK.out.below)
  have HFILL : Hid (∀ v, WK w.heap.size w (.cells #[.slice aS S.length kS, .slice aL nl kL] 26) v → v.cell? ⟨w.heap.size + 1, 0, none⟩ = some (.slice none 0 0) ∧ v.cell? ⟨w.heap.size + 1, 1, none⟩ = some (.slice none 0 0) ∧ v.frozen? ⟨w.heap.size + 1, 0, none⟩ = false ∧ v.frozen? ⟨w.heap.size + 1, 1, none⟩ = false) := fun v h => ⟨box_cell h.res 0, box_cell h.res 1, box_free h.res 0, box_free h.res 1⟩
  cases g
  · go_enter Try.func26, Try.ntmps26
    go_wp2_with fail
    refine HC2.out.mono ?_
    rintro e w2 ⟨rfl, b2⟩
    have HK2 := hid (HK.out.on b2 (Nat.le_refl _))
    clear b2 hW y0 y1 HK HC HC2
    obtain ⟨z0, z1, z0f, z1f⟩ := HFILL.out _ HK2.out
    obtain ⟨b10, x0, x1⟩ := HK2.out.fill (Nat.le_refl _) (.slice none 0 0) (.slice none 0 0)
    have HB10 := hid b10
    clear b10 HK2
    go_wp2_with fail
    generalize (w2.setCell ⟨w.heap.size + 1, 0, none⟩ (.slice none 0 0)).setCell ⟨w.heap.size + 1, 1, none⟩ (.slice none 0 0) = X at *
    exact bodyPost_ret (v := .tuple #[.agg #[.slice none 0 0, .slice none 0 0], .bool false]) (by simp [results, Try.results26, go_sem, x0, x1]) rfl (HOut.no HB10.out)
  · have HD := hid (fun v => l5Block_no x v (HN.out rfl))
    go_enter Try.func26, Try.ntmps26
    go_wp2_with fail
    refine HC2.out.mono ?_
    rintro e w2 ⟨rfl, b2⟩
    have HK2 := hid (HK.out.on b2 (Nat.le_refl _))
    clear b2 hW y0 y1 HK HC HC2
    go_wp2_with fail
    refine (HD.out _).mono ?_
    rintro e w3 ⟨rfl, hw3⟩
    rw [hw3]
    clear hw3 HD
    obtain ⟨z0, z1, z0f, z1f⟩ := HFILL.out _ HK2.out
    obtain ⟨b10, x0, x1⟩ := HK2.out.fill (Nat.le_refl _) (.slice none 0 0) (.slice none 0 0)
    have HB10 := hid b10
    clear b10 HK2
    go_wp2_with fail
    generalize (w2.setCell ⟨w.heap.size + 1, 0, none⟩ (.slice none 0 0)).setCell ⟨w.heap.size + 1, 1, none⟩ (.slice none 0 0) = X at *
    exact bodyPost_ret (v := .tuple #[.agg #[.slice none 0 0, .slice none 0 0], .bool false]) (by simp [results, Try.results26, go_sem, x0, x1]) rfl (HOut.no HB10.out)
set_option maxHeartbeats 4000000 in
theorem sWrite_good (aS aL : Option Addr) (kS kL : Nat) (S : List Sg) (L : List (List Bool)) (x : Int) (w : World) (hl : L.length = S.length) (hg : goodH S L = true) (hx : 0 ≤ x ∧ x ≤ 15) (hG : Gs w.heap.size aS S w) (hV : Vs w.heap.size aL L w) :
    Calls Try.prog 26 #[.agg #[.slice aS S.length kS, .slice aL L.length kL], .int .i64 x] w fun e w' => match wrH S L x (-1) with
      | some t => HOut t.1 t.2 true w e w'
      | none => HOut [] [] false w e w' := by
  have hle := Lens.good hl hg
  obtain ⟨hn, -, -⟩ := (goodH_iff S L hl).1 hg
  obtain ⟨c1, c2, c3⟩ := hle.at (by decide)
  obtain ⟨l1, l2⟩ := good_lens5 S L hl hg
  have HK := hid (WK.start w.heap.size w (.cells #[.slice aS S.length kS, .slice aL L.length kL] 26) (Nat.le_refl _))
  have HC : Hid (∀ v, Below w.heap.size w v → Calls Try.prog 12 #[.agg #[.slice aS S.length kS, .slice aL L.length kL]] v fun e w' => e = .returned (.bool true) ∧ Below v.heap.size v w') := fun v hb => by
    have := sgoodH_any aS aL kS kL S L v ((hG.below hb).mono hb.size) ((hV.below hb).mono hb.size)
    rw [hg] at this; exact this
  have HOWN : Hid (∀ v, Below w.heap.size w v → Calls Try.prog 36 #[.agg #[.slice aS S.length kS, .slice aL L.length kL]] v fun e w' => ∃ vS vL, e = .returned (.agg #[vS, vL]) ∧ HR v.heap.size vS vL S L w' ∧ Below v.heap.size v w') := fun v hb => l5Own_any aS aL kS kL S L v c1 hl c2 c3 ((hG.below hb).mono hb.size) ((hV.below hb).mono hb.size)
  have HD := hid (fun v => l5Block_yes x v hx)
  have y0 := box_cell HK.out.box 0
  have y1 := box_cell HK.out.box 1
  have HL := hid hl
  have HLE := hid hle
  clear hG hV hg c1 c2 c3
  have HC2 := hid (HC.out _ HK.out.below)
  have HFILL : Hid (∀ v, WK w.heap.size w (.cells #[.slice aS S.length kS, .slice aL L.length kL] 26) v → v.cell? ⟨w.heap.size + 1, 0, none⟩ = some (.slice none 0 0) ∧ v.cell? ⟨w.heap.size + 1, 1, none⟩ = some (.slice none 0 0) ∧ v.frozen? ⟨w.heap.size + 1, 0, none⟩ = false ∧ v.frozen? ⟨w.heap.size + 1, 1, none⟩ = false) := fun v h => ⟨box_cell h.res 0, box_cell h.res 1, box_free h.res 0, box_free h.res 1⟩
  have hS0 : 0 < S.length := by omega
  cases hr : roomH S (-1) with
  | none =>
    have HWN : Hid (∀ v (aS aL : Option Addr) (kS kL : Nat), Gs v.heap.size aS S v → Calls Try.prog 37 #[.agg #[.slice aS S.length kS, .slice aL L.length kL], .int .i64 x, .int .i64 (-1)] v fun e w' => e = .returned (.tuple #[.agg #[.slice aS S.length kS, .slice aL L.length kL], .bool false]) ∧ Below v.heap.size v w') := fun v aS aL kS kL h => l5Write_none aS aL kS kL S L x (-1) v l1 hr h
    have e1 : wrH S L x (-1) = none := by unfold wrH; rw [hr]; rfl
    rw [e1]
    clear e1 hr hle l2 hl HLE
    generalize hW : (w.alloc (.cells #[.slice aS S.length kS, .slice aL L.length kL] 26)).alloc (.cells #[.slice none 0 0, .slice none 0 0] 26) = W at *
    go_enter Try.func26, Try.ntmps26
    go_wp2_with fail
    refine HC2.out.mono ?_
    rintro e w2 ⟨rfl, b2⟩
    have HK2 := hid (HK.out.on b2 (Nat.le_refl _))
    clear b2 hW y0 y1 HK HC HC2
    have y0 := box_cell HK2.out.box 0
    have y1 := box_cell HK2.out.box 1
    go_wp2_with fail
    refine (HD.out _).mono ?_
    rintro e w2' ⟨rfl, hw3⟩
    rw [hw3]
    clear hw3 HD w2'
    go_wp2_with fail
    refine (HOWN.out _ HK2.out.below).mono ?_
    rintro e w3 ⟨vS1, vL1, rfl, h3, b3⟩
    obtain ⟨gs, ks, gl, kl, q, p, rfl, rfl, -, -, -, hG3, -⟩ := h3.open hS0
    have HK3 := hid (HK2.out.on b3 (Nat.le_refl _))
    have HC4 := hid (HWN.out w3 _ (some ⟨gl, 0, none⟩) ks kl hG3)
    clear b3 h3 hG3 HK2 HOWN y0 y1 HWN
    go_wp2_with fail
    refine HC4.out.mono ?_
    rintro e w4 ⟨rfl, b4⟩
    have HK4 := hid ((HK3.out.on b4 (Nat.le_refl _)).on (boxB w4 (.cells #[.slice (some ⟨gs, 0, none⟩) S.length ks, .slice (some ⟨gl, 0, none⟩) L.length kl] 26)) (Nat.le_refl _))
    clear b4 HK3 HC4
    generalize hW5 : w4.alloc (.cells #[.slice (some ⟨gs, 0, none⟩) S.length ks, .slice (some ⟨gl, 0, none⟩) L.length kl] 26) = w5 at *
    obtain ⟨z0, z1, z0f, z1f⟩ := HFILL.out _ HK4.out
    obtain ⟨b10, x0, x1⟩ := HK4.out.fill (Nat.le_refl _) (.slice none 0 0) (.slice none 0 0)
    have HB10 := hid b10
    clear b10 HK4
    go_wp2_with fail
    generalize (w5.setCell ⟨w.heap.size + 1, 0, none⟩ (.slice none 0 0)).setCell ⟨w.heap.size + 1, 1, none⟩ (.slice none 0 0) = X at *
    exact bodyPost_ret (v := .tuple #[.agg #[.slice none 0 0, .slice none 0 0], .bool false]) (by simp [results, Try.results26, go_sem, x0, x1]) rfl (HOut.no HB10.out)
  | some to =>
    obtain ⟨hto, hto5⟩ := roomH_lt S (-1) to hr
    have hbt := hle.2.2 to hto
    have HWS : Hid (∀ v lo gs gl ks kl q p, lo ≤ v.heap.size → Fam lo (hd2 S.length L.length) (hf (.slice (some ⟨gs, 0, none⟩) S.length ks) (.slice (some ⟨gl, 0, none⟩) L.length kl) q p S L) v → (lo ≤ gs ∧ gs < v.heap.size) → (lo ≤ gl ∧ gl < v.heap.size) → Gs v.heap.size (some ⟨gs, 0, none⟩) S v → Vs v.heap.size (some ⟨gl, 0, none⟩) L v →
        Calls Try.prog 37 #[.agg #[.slice (some ⟨gs, 0, none⟩) S.length ks, .slice (some ⟨gl, 0, none⟩) L.length kl], .int .i64 x, .int .i64 (-1)] v fun e w' => e = .returned (.tuple #[.agg #[.slice (some ⟨gs, 0, none⟩) S.length ks, .slice (some ⟨gl, 0, none⟩) L.length kl], .bool true]) ∧ HR lo (.slice (some ⟨gs, 0, none⟩) S.length ks) (.slice (some ⟨gl, 0, none⟩) L.length kl) (putS S to x) (putL (offL L (whereH S L x)) to) w' ∧ Below lo v w') :=
      fun v lo gs gl ks kl q p h1 h2 h3 h4 h5 h6 => l5Write_some lo gs gl ks kl to S L q p x (-1) v h1 l1 hl l2 hr (by omega) (by omega) h2 h3 h4 h5 h6
    have e1 : wrH S L x (-1) = some (putS S to x, putL (offL L (whereH S L x)) to) := by unfold wrH; rw [hr]; rfl
    rw [e1]
    have hlp := hle.put (whereH S L x) to hto x
    obtain ⟨d1, d2, d3⟩ := hlp.at (by decide)
    have HOWN2 : Hid (∀ v (aS aL : Option Addr) (kS kL : Nat), Gs v.heap.size aS (putS S to x) v → Vs v.heap.size aL (putL (offL L (whereH S L x)) to) v → Calls Try.prog 36 #[.agg #[.slice aS (putS S to x).length kS, .slice aL (putL (offL L (whereH S L x)) to).length kL]] v fun e w' => ∃ vS vL, e = .returned (.agg #[vS, vL]) ∧ HR v.heap.size vS vL (putS S to x) (putL (offL L (whereH S L x)) to) w' ∧ Below v.heap.size v w') := fun v aS aL kS kL h1 h2 => l5Own_any aS aL kS kL _ _ v d1 hlp.2.1 d2 d3 h1 h2
    have eS : (putS S to x).length = S.length := by unfold putS; rw [List.length_set]
    have eL : (putL (offL L (whereH S L x)) to).length = L.length := by unfold putL; rw [List.length_set, offL_len]
    rw [eS, eL] at HOWN2
    clear e1 hr hle l2 hl hlp d1 d2 d3 hbt eS eL HLE
    generalize putS S to x = S' at *
    generalize putL (offL L (whereH S L x)) to = L' at *
    generalize hW : (w.alloc (.cells #[.slice aS S.length kS, .slice aL L.length kL] 26)).alloc (.cells #[.slice none 0 0, .slice none 0 0] 26) = W at *
    go_enter Try.func26, Try.ntmps26
    go_wp2_with fail
    refine HC2.out.mono ?_
    rintro e w2 ⟨rfl, b2⟩
    have HK2 := hid (HK.out.on b2 (Nat.le_refl _))
    clear b2 hW y0 y1 HK HC HC2
    have y0 := box_cell HK2.out.box 0
    have y1 := box_cell HK2.out.box 1
    go_wp2_with fail
    refine (HD.out _).mono ?_
    rintro e w2' ⟨rfl, hw3⟩
    rw [hw3]
    clear hw3 HD w2'
    go_wp2_with fail
    refine (HOWN.out _ HK2.out.below).mono ?_
    rintro e w3 ⟨vS1, vL1, rfl, h3, b3⟩
    obtain ⟨gs, ks, gl, kl, q, p, rfl, rfl, hgs, hgl, hF3, hG3, hV3⟩ := h3.open hS0
    have HC4 := hid (HWS.out w3 w2.heap.size gs gl ks kl q p b3.size hF3 hgs hgl hG3 hV3)
    have HB3 := hid b3
    clear b3 h3 hG3 hF3 hV3 HOWN y0 y1 HWS hgs hgl
    go_wp2_with fail
    refine HC4.out.mono ?_
    rintro e w4 ⟨rfl, h4, b4⟩
    have HK4 := hid (HK2.out.on (HB3.out.trans b4) (Nat.le_refl _))
    have HK5 := hid (HK4.out.on (boxB w4 (.cells #[.slice (some ⟨gs, 0, none⟩) S.length ks, .slice (some ⟨gl, 0, none⟩) L.length kl] 26)) (Nat.le_refl _))
    have h5 := h4.on (boxB w4 (.cells #[.slice (some ⟨gs, 0, none⟩) S.length ks, .slice (some ⟨gl, 0, none⟩) L.length kl] 26))
    obtain ⟨as5, ks5, al5, kl5, f1, f2, hG5, hV5⟩ := h5.read
    injection f1 with i1 i2 i3
    injection f2 with j1 j2 j3
    subst i1 j1
    have HC6 := hid (HOWN2.out _ _ _ ks kl hG5 hV5)
    have u0 : (w4.alloc (.cells #[.slice (some ⟨gs, 0, none⟩) S.length ks, .slice (some ⟨gl, 0, none⟩) L.length kl] 26)).cell? ⟨w4.heap.size, 0, none⟩ = some (.slice (some ⟨gs, 0, none⟩) S.length ks) := by go_simp
    have u1 : (w4.alloc (.cells #[.slice (some ⟨gs, 0, none⟩) S.length ks, .slice (some ⟨gl, 0, none⟩) L.length kl] 26)).cell? ⟨w4.heap.size, 1, none⟩ = some (.slice (some ⟨gl, 0, none⟩) L.length kl) := by go_simp
    clear b4 h4 h5 HK4 HC4 HK2 HB3 hG5 hV5 i2 i3 j2 j3 HOWN2
    generalize hW5 : w4.alloc (.cells #[.slice (some ⟨gs, 0, none⟩) S.length ks, .slice (some ⟨gl, 0, none⟩) L.length kl] 26) = w5 at *
    go_wp2_with fail
    refine HC6.out.mono ?_
    rintro e w6 ⟨vS2, vL2, rfl, h6, b6⟩
    obtain ⟨as6, ks6, al6, kl6, rfl, rfl, -, -⟩ := h6.read
    have HK6 := hid (HK5.out.on b6 (Nat.le_refl _))
    have HR6 := hid ((h6.low (show w.heap.size ≤ w5.heap.size by have := HK5.out.size; omega)).fill HK6.out (.slice as6 S'.length ks6) (.slice al6 L'.length kl6))
    obtain ⟨z0, z1, z0f, z1f⟩ := HFILL.out _ HK6.out
    obtain ⟨b10, x0, x1⟩ := HK6.out.fill (Nat.le_refl _) (.slice as6 S'.length ks6) (.slice al6 L'.length kl6)
    have HB10 := hid b10
    clear b10 HK6 HK5 h6 b6 HC6 u0 u1 hW5
    go_wp2_with fail
    generalize (w6.setCell ⟨w.heap.size + 1, 0, none⟩ (.slice as6 S'.length ks6)).setCell ⟨w.heap.size + 1, 1, none⟩ (.slice al6 L'.length kl6) = X at *
    exact bodyPost_ret (v := .tuple #[.agg #[.slice as6 S'.length ks6, .slice al6 L'.length kl6], .bool true]) (by simp [results, Try.results26, go_sem, x0, x1]) rfl ⟨_, _, rfl, HR6.out, HB10.out⟩
end Go.Proofs.Ytohkhcjdjjlfbaa
