/- A heap that is drawn. -/
import Derived.Test.YtohkhcjdjjlfbaaHDa
namespace Go.Proofs.Ytohkhcjdjjlfbaa
set_option maxRecDepth 100000
open Go Go.ChangeShapes Go.WideShapes Go.ChangeAt Go.RowKit G00541
theorem block_ltH {w : World} {k : Nat} {o : Obj} (h : w.heap[k]? = some o) : k < w.heap.size := by
  rcases Nat.lt_or_ge k w.heap.size with g | g
  · exact g
  · rw [Array.getElem?_eq_none g] at h; cases h
theorem putS_len (S : List Sg) (t0 : Nat) (x : Int) : (putS S t0 x).length = S.length := by unfold putS; rw [List.length_set]
theorem wrH_len {S : List Sg} {L : List (List Bool)} {x no : Int} {t : List Sg × List (List Bool)} (h : wrH S L x no = some t) : t.1.length = S.length := by
  unfold wrH at h
  cases hr : roomH S no with
  | none => rw [hr] at h; cases h
  | some t0 => rw [hr] at h; injection h with h; rw [← h]; exact putS_len S t0 x
/-- a heap that a function of the model has made -/
def HOutN (n : Nat) (w : World) (e : Ending) (w' : World) : Prop := ∃ vS vL S' L' ok, e = .returned (.tuple #[.agg #[vS, vL], .bool ok]) ∧ (ok = true → S'.length = n) ∧ HR w.heap.size vS vL S' L' w' ∧ Below w.heap.size w w'
def COutN (n : Nat) (w : World) (e : Ending) (w' : World) : Prop := ∃ vS vL S' L' m ok, e = .returned (.tuple #[.agg #[vS, vL], .int .i64 m, .bool ok]) ∧ (ok = true → S'.length = n) ∧ HR w.heap.size vS vL S' L' w' ∧ Below w.heap.size w w'
theorem sWrite_n (lo : Nat) (vS vL : Value) (S : List Sg) (L : List (List Bool)) (x : Int) (w : World) (h : HR lo vS vL S L w) :
    Calls Try.prog 26 #[.agg #[vS, vL], .int .i64 x] w (HOutN S.length w) := by
  have hl := h.1
  obtain ⟨aS, kS, aL, kL, rfl, rfl, hG, hV⟩ := h.read
  by_cases h : goodH S L = true ∧ 0 ≤ x ∧ x ≤ 15
  · refine (sWrite_good aS aL kS kL S L x w hl h.1 h.2 hG hV).mono fun e w' h => ?_
    cases hw : wrH S L x (-1) with
    | none =>
      rw [hw] at h
      obtain ⟨vS, vL, h1, h2, h3⟩ := h
      exact ⟨vS, vL, _, _, _, h1, (fun h => by cases h), h2, h3⟩
    | some t =>
      rw [hw] at h
      obtain ⟨vS, vL, h1, h2, h3⟩ := h
      exact ⟨vS, vL, _, _, _, h1, (fun _ => wrH_len hw), h2, h3⟩
  · exact (sWrite_bad aS aL kS kL S L x w h hG hV).mono fun e w' h => by
      obtain ⟨vS, vL, h1, h2, h3⟩ := h
      exact ⟨vS, vL, _, _, _, h1, (fun h => by cases h), h2, h3⟩
theorem sPick_n (lo : Nat) (vS vL : Value) (S : List Sg) (L : List (List Bool)) (how : Int) (w : World) (h : HR lo vS vL S L w) :
    Calls Try.prog 23 #[.agg #[vS, vL], .int .i64 how] w fun e w' => ∃ (n : Int) (ok : Bool), e = .returned (.tuple #[.int .i64 n, .bool ok]) ∧ Below w.heap.size w w' := by
  have hl := h.1
  obtain ⟨aS, kS, aL, kL, rfl, rfl, hG, hV⟩ := h.read
  exact sPick_any aS aL kS kL S L how w hl hG hV
theorem sClean_n (lo : Nat) (vS vL : Value) (S : List Sg) (L : List (List Bool)) (k : Int) (w : World) (h : HR lo vS vL S L w) :
    Calls Try.prog 7 #[.agg #[vS, vL], .int .i64 k] w (COutN S.length w) := by
  have hl := h.1
  obtain ⟨aS, kS, aL, kL, rfl, rfl, hG, hV⟩ := h.read
  by_cases h : goodH S L = true ∧ 0 ≤ k ∧ k < S.length ∧ lenAt S k.toNat ≠ 0
  · obtain ⟨kn, rfl⟩ : ∃ kn : Nat, k = (kn : Int) := ⟨k.toNat, by omega⟩
    refine (sClean_go aS aL kS kL S L kn w hl h.1 (by omega) (by simpa using h.2.2.2) hG hV).mono fun e w' h => ?_
    unfold COut at h
    cases hw : wrs kn (livB (blAt S kn) (lvAt L kn)) (S, L) with
    | none => rw [hw] at h; exact ⟨_, _, [], [], _, _, h.1, (fun h => by cases h), HR.nil _ _, h.2⟩
    | some t =>
      rw [hw] at h
      obtain ⟨vS, vL, h1, h2, h3⟩ := h
      exact ⟨vS, vL, _, _, _, _, h1, (fun _ => by rw [clS_len]; exact (wrs_age kn _ S L t hw).1), h2, h3⟩
  · exact (sClean_no aS aL kS kL S L k w h hG hV).mono fun e w' h => ⟨_, _, [], [], _, _, h.1, (fun h => by cases h), HR.nil _ _, h.2⟩
theorem But.onH {B B0 : Nat} {w w2 w9 : World} (h : But B w w2) (g : Below B0 w2 w9) (h0 : w.heap.size ≤ B0) : But B w w9 :=
  ⟨g.os.trans h.os, g.tape.trans h.tape, g.output.trans h.output, Nat.le_trans h.size g.size, fun k hk hB => (g.block k (by omega)).trans (h.block k hk hB)⟩
theorem Cur.onH {B B0 N : Nat} {sv : Value} {w2 w9 : World} (h : Cur B N sv w2) (g : Below B0 w2 w9) (h0 : B < B0) : Cur B N sv w9 := by
  have hc : ∀ i, w9.cell? ⟨B, i, none⟩ = w2.cell? ⟨B, i, none⟩ := fun i => g.cell (p := ⟨B, i, none⟩) h0
  have hf : ∀ i, w9.frozen? ⟨B, i, none⟩ = w2.frozen? ⟨B, i, none⟩ := fun i => g.frozen (p := ⟨B, i, none⟩) h0
  obtain ⟨p, p0, p1, hp⟩ := h.place
  obtain ⟨s, s0, s1, hs⟩ := h.seed
  exact ⟨Nat.lt_of_lt_of_le h.lt g.size, (hc 0).trans h.code, ⟨p, p0, p1, (hc 1).trans hp⟩, ⟨s, s0, s1, (hc 2).trans hs⟩, (hf 1).trans h.free1, (hf 2).trans h.free2⟩
/-- what stands while a heap is drawn: the cursor, the result's box, the box of h, its heap -/
structure Hd (w : World) (B N : Nat) (sv : Value) (Z n : Nat) (vS vL : Value) (S : List Sg) (L : List (List Bool)) (v : World) : Prop where
  cur : Cur B N sv v
  but : But B w v
  bw : B < w.heap.size
  res : v.heap[w.heap.size]? = some (.cells #[.slice none 0 0, .slice none 0 0] 26)
  lt : w.heap.size + 1 ≤ Z ∧ Z < v.heap.size
  box : v.heap[Z]? = some (.cells #[vS, vL] 26)
  hr : HR (w.heap.size + 1) vS vL S L v
  len : S.length = n
section
variable {w : World} {B N : Nat} {sv : Value} {Z n : Nat} {vS vL : Value} {S : List Sg} {L : List (List Bool)} {v : World}
theorem Hd.size (h : Hd w B N sv Z n vS vL S L v) : w.heap.size + 2 ≤ v.heap.size := by have := h.lt; omega
theorem Hd.on (h : Hd w B N sv Z n vS vL S L v) {v' : World} (g : Below v.heap.size v v') : Hd w B N sv Z n vS vL S L v' := by
  have hs := h.but.size
  have hz := h.lt
  have h1 := h.bw
  exact ⟨h.cur.onH g (by omega), h.but.onH g hs, h.bw, (g.block _ (by omega)).trans h.res, ⟨hz.1, Nat.lt_of_lt_of_le hz.2 g.size⟩, (g.block Z hz.2).trans h.box, h.hr.on g, h.len⟩
theorem Hd.step (h : Hd w B N sv Z n vS vL S L v) {v' : World} {N' : Nat} (hC : Cur B N' sv v') (g : But B v v') : Hd w B N' sv Z n vS vL S L v' := by
  have hz := h.lt
  have h1 := h.bw
  exact ⟨hC, h.but.trans g, h.bw, (g.block _ (by omega) (by omega)).trans h.res, ⟨hz.1, Nat.lt_of_lt_of_le hz.2 g.size⟩, (g.block Z hz.2 (by omega)).trans h.box, h.hr.but g (by omega), h.len⟩
theorem Hd.drew (h : Hd w B N sv Z n vS vL S L v) : Hd w B N sv Z n vS vL S L v.drew := h.step h.cur.drew (But.refl B v).drew
theorem Hd.alloc (h : Hd w B N sv Z n vS vL S L v) (o : Obj) : Hd w B N sv Z n vS vL S L (v.alloc o) := h.on (boxB v o)
theorem Hd.code (h : Hd w B N sv Z n vS vL S L v) {len cap : Nat} {a : Option Addr} (hK : Code B len cap a w) : Code B len cap a v := hK.but h.but (Nat.le_refl _) (Nat.le_of_lt h.bw)
theorem Hd.c0 (h : Hd w B N sv Z n vS vL S L v) : v.cell? ⟨Z, 0, none⟩ = some vS := box_cell h.box 0
theorem Hd.c1 (h : Hd w B N sv Z n vS vL S L v) : v.cell? ⟨Z, 1, none⟩ = some vL := box_cell h.box 1
/-- another heap is put into the box -/
theorem Hd.put (h : Hd w B N sv Z n vS vL S L v) {uS uL : Value} {S' : List Sg} {L' : List (List Bool)} (hr : HR (w.heap.size + 1) uS uL S' L' v) (hn : S'.length = n) : Hd w B N sv Z n uS uL S' L' ((v.setCell ⟨Z, 0, none⟩ uS).setCell ⟨Z, 1, none⟩ uL) := by
  have hz := h.lt
  have h1 := h.bw
  have g0 : Below (w.heap.size + 1) v ((v.setCell ⟨Z, 0, none⟩ uS).setCell ⟨Z, 1, none⟩ uL) := setB (setB (Below.refl _ _) Z 0 hz.1 _) Z 1 hz.1 _
  have hb : ((v.setCell ⟨Z, 0, none⟩ uS).setCell ⟨Z, 1, none⟩ uL).heap[Z]? = some (.cells #[uS, uL] 26) := box_set (box_set h.box 0 uS) 1 uL
  exact ⟨h.cur.onH g0 (by omega), h.but.onH g0 (by omega), h.bw, (g0.block _ (by omega)).trans h.res, ⟨hz.1, Nat.lt_of_lt_of_le hz.2 g0.size⟩, hb, (hr.box h.box 0 uS).box (box_set h.box 0 uS) 1 uL, hn⟩
end
theorem make_segsD (n : Nat) (hn : n ≤ 1000) (W : World) : (Instr.makeSlice 23 (.int .i64 (n : Int)) (.int .i64 (n : Int))).run Try.prog W =
    .ok (.slice (some ⟨W.heap.size, 0, none⟩) n n) (W.alloc (.cells (madeCells (Value.agg #[.slice none 0 0, .int .i64 0]).cells (n * 2)) 40)) := by
  obtain ⟨i0, hi, hz0, hz1, hz2⟩ := info_parts infoSgR
  have h := run_make (P := Try.prog) W 23 40 i0 _ Try.underlying23 hi hz0 .i64 .i64 (n : Int) (n : Int) (by omega) (by omega) (by rw [hz2]; omega) (by omega)
  rw [hz1] at h
  simpa using h
theorem make_livsD (n : Nat) (hn : n ≤ 1000) (W : World) : (Instr.makeSlice 24 (.int .i64 (n : Int)) (.int .i64 (n : Int))).run Try.prog W =
    .ok (.slice (some ⟨W.heap.size, 0, none⟩) n n) (W.alloc (.cells (madeCells (Value.slice none 0 0).cells n) 53)) := by
  obtain ⟨i0, hi, hz0, hz1, hz2⟩ := info_parts infoBsR
  have h := run_make (P := Try.prog) W 24 53 i0 _ Try.underlying24 hi hz0 .i64 .i64 (n : Int) (n : Int) (by omega) (by omega) (by rw [hz2]; omega) (by omega)
  rw [hz1] at h
  simpa using h
theorem made_segsE (n : Nat) : (madeCells (Value.agg #[.slice none 0 0, .int .i64 0]).cells (n * 2)).toList = segXs (fun _ => .slice none 0 0) (List.replicate n ⟨[], 0⟩) := by
  unfold madeCells segXs
  rw [Array.toList_map, Array.toList_range, List.length_replicate]
  apply List.map_congr_left
  intro j hj
  have hj : j < n * 2 := List.mem_range.1 hj
  have ha : ageAt (List.replicate n ⟨[], 0⟩) (j / 2) = 0 := by simp [ageAt, show j / 2 < n by omega]
  rw [ha]
  have e : (Value.agg #[.slice none 0 0, .int .i64 0]).cells = #[.slice none 0 0, .int .i64 0] := by simp [Value.cells]
  rw [e]
  rcases Nat.mod_two_eq_zero_or_one j with h | h <;> simp [h]
theorem made_livsE (n : Nat) : (madeCells (Value.slice none 0 0).cells n).toList = livXs (fun _ => .slice none 0 0) n := by
  unfold madeCells livXs
  rw [Array.toList_map, Array.toList_range]
  apply List.map_congr_left
  intro j _
  simp [Value.cells, Nat.mod_one]
theorem three_b (w : World) (a b c : Obj) : Below w.heap.size w (((w.alloc a).alloc b).alloc c).drew :=
  ((((Below.refl _ w).alloc (Nat.le_refl _) _).alloc (by simp) _).alloc (by simp; omega) _).drew
theorem three_2 (w : World) (a b c : Obj) : (((w.alloc a).alloc b).alloc c).drew.heap[w.heap.size + 1 + 1]? = some c := by
  have h := heap_last ((w.alloc a).alloc b) c
  rw [heap_size, heap_size] at h
  exact h
theorem three_1 (w : World) (a b c : Obj) : (((w.alloc a).alloc b).alloc c).drew.heap[w.heap.size + 1]? = some b := by
  have h := heap_last (w.alloc a) b
  rw [heap_size] at h
  exact ((boxB ((w.alloc a).alloc b) c).block _ (by rw [heap_size, heap_size]; omega)).trans h
theorem three_0 (w : World) (a b c : Obj) : (((w.alloc a).alloc b).alloc c).drew.heap[w.heap.size]? = some a :=
  ((boxB ((w.alloc a).alloc b) c).block _ (by rw [heap_size, heap_size]; omega)).trans (((boxB (w.alloc a) b).block _ (by rw [heap_size]; omega)).trans (heap_last w a))
section
variable {w : World} {B N : Nat} {sv : Value} {Z n : Nat} {vS vL : Value} {S : List Sg} {L : List (List Bool)} {v : World}
theorem Hd.mono (h : Hd w B N sv Z n vS vL S L v) {N' : Nat} (hN : N ≤ N') : Hd w B N' sv Z n vS vL S L v :=
  ⟨h.cur.mono hN, h.but, h.bw, h.res, h.lt, h.box, h.hr, h.len⟩
/-- another box is filled -/
theorem Hd.keepY (h : Hd w B N sv Z n vS vL S L v) {Y : Nat} {cs : Array Value} (hY : v.heap[Y]? = some (.cells cs 26)) (hYZ : Y ≠ Z) (hYw : w.heap.size + 1 ≤ Y) (uS uL : Value) : Hd w B N sv Z n vS vL S L ((v.setCell ⟨Y, 0, none⟩ uS).setCell ⟨Y, 1, none⟩ uL) := by
  have hz := h.lt
  have h1 := h.bw
  have g0 : Below (w.heap.size + 1) v ((v.setCell ⟨Y, 0, none⟩ uS).setCell ⟨Y, 1, none⟩ uL) := setB (setB (Below.refl _ _) Y 0 hYw _) Y 1 hYw _
  have g1 : But Y v ((v.setCell ⟨Y, 0, none⟩ uS).setCell ⟨Y, 1, none⟩ uL) := ((But.refl Y v).setCell 0 uS).setCell 1 uL
  exact ⟨h.cur.onH g0 (by omega), h.but.onH g0 (by omega), h.bw, (g0.block _ (by omega)).trans h.res, ⟨hz.1, Nat.lt_of_lt_of_le hz.2 g0.size⟩, (g1.block Z hz.2 (fun e => hYZ e.symm)).trans h.box, (h.hr.box hY 0 uS).box (box_set hY 0 uS) 1 uL, h.len⟩
/-- a heap that the model has made beside ours, in its own box Y -/
structure Hx (w : World) (B N : Nat) (sv : Value) (Z n : Nat) (vS vL : Value) (S : List Sg) (L : List (List Bool)) (Y : Nat) (uS uL : Value) (S' : List Sg) (L' : List (List Bool)) (ok : Bool) (v : World) : Prop where
  hd : Hd w B N sv Z n vS vL S L v
  box : v.heap[Y]? = some (.cells #[uS, uL] 26)
  hr : HR (w.heap.size + 1) uS uL S' L' v
  len : ok = true → S'.length = n
theorem Hd.takeOld (h : Hd w B N sv Z n vS vL S L v) {v0 w6 : World} {uS uL : Value} {S' : List Sg} {L' : List (List Bool)} {ok : Bool} {Y : Nat} {cs : Array Value} (b : Below v.heap.size v w6) (hr : HR v0.heap.size uS uL S' L' w6) (h0 : w.heap.size + 1 ≤ v0.heap.size) (hn : ok = true → S'.length = n)
    (hY : w6.heap[Y]? = some (.cells cs 26)) (hc : cs.size = 2) (hYZ : Y ≠ Z) (hYw : w.heap.size + 1 ≤ Y) : Hx w B N sv Z n vS vL S L Y uS uL S' L' ok ((w6.setCell ⟨Y, 0, none⟩ uS).setCell ⟨Y, 1, none⟩ uL) := by
  refine ⟨(h.on b).keepY hY hYZ hYw uS uL, ?_, ((hr.low h0).box hY 0 uS).box (box_set hY 0 uS) 1 uL, hn⟩
  rw [box_set (box_set hY 0 uS) 1 uL]
  obtain ⟨l⟩ := cs
  match l, hc with
  | [x, y], _ => rfl
theorem Hd.takeNew (h : Hd w B N sv Z n vS vL S L v) {w6 : World} {uS uL : Value} {S' : List Sg} {L' : List (List Bool)} {ok : Bool} (b : Below v.heap.size v w6) (hr : HR v.heap.size uS uL S' L' w6) (hn : ok = true → S'.length = n) : Hx w B N sv Z n vS vL S L w6.heap.size uS uL S' L' ok (w6.alloc (.cells #[uS, uL] 26)) := by
  have hz := h.lt
  exact ⟨(h.on b).alloc _, heap_last _ _, (hr.low (by omega)).on (boxB _ _), hn⟩
theorem Hx.put {Y : Nat} {uS uL : Value} {S' : List Sg} {L' : List (List Bool)} {ok : Bool} (h : Hx w B N sv Z n vS vL S L Y uS uL S' L' ok v) (e : ok = true) : Hd w B N sv Z n uS uL S' L' ((v.setCell ⟨Z, 0, none⟩ uS).setCell ⟨Z, 1, none⟩ uL) := h.hd.put h.hr (h.len e)
end
theorem bvals_setU (l : List Bool) (i : Nat) (u : Bool) : bvals (l.set i u) = (bvals l).set i (.bool u) := by unfold bvals; rw [List.map_set]
theorem fam_turn {lo : Nat} {vS vL : Value} {q p : Nat → Value} {S : List Sg} {L : List (List Bool)} {w : World} {m : Nat} (h : Fam lo (hd2 m L.length) (hf vS vL q p S L) w) (k : Nat) (hk : k < L.length) (g : Nat) (hg : (p k).ownBlock = some g) (i : Nat) (u : Bool) :
    Fam lo (hd2 m L.length) (hf vS vL q p S (L.set k ((lvAt L k).set i u))) (w.setCell ⟨g, i, none⟩ (.bool u)) := by
  refine (h.set (.v k) hk g hg i (.bool u)).congr fun x hx => ?_
  cases x with
  | s => rw [upR_other _ _ _ _ (by intro e; cases e)]; rfl
  | l =>
    rw [upR_other _ _ _ _ (by intro e; cases e)]
    show (⟨53, 1, vL, (L.set k _).length, livXs p (L.set k _).length⟩ : Rw) = ⟨53, 1, vL, L.length, livXs p L.length⟩
    rw [List.length_set]
  | b j => rw [upR_other _ _ _ _ (by intro e; cases e)]; rfl
  | v j =>
    have hj : j < L.length := hx
    show (⟨4, 1, p j, (lvAt (L.set k ((lvAt L k).set i u)) j).length, bvals (lvAt (L.set k ((lvAt L k).set i u)) j)⟩ : Rw) = _
    rw [lvAt_set _ _ _ _ hj]
    by_cases e : j = k
    · subst e
      rw [upR_same, if_pos rfl, bvals_setU, List.length_set]; rfl
    · rw [upR_other _ _ _ _ (by intro e2; injection e2 with e2; exact e e2), if_neg e]; rfl
theorem rw_type {w : World} {base size n g : Nat} {e : TypeId} {v : Value} {xs : List Value} (h : w.ownsRow base e size v n xs) (hg : v.ownBlock = some g) : ∃ cur, w.heap[g]? = some (.cells cur e) := by
  rcases h.2 with ⟨rfl, _⟩ | ⟨g', cap, cur, rfl, _, hgg, _⟩
  · simp [Value.ownBlock] at hg
  · simp [Value.ownBlock] at hg
    subst hg
    exact ⟨cur, hgg⟩
theorem HR.age {lo : Nat} {vS vL : Value} {S : List Sg} {L : List (List Bool)} {w : World} (h : HR lo vS vL S L w) (h0 : 0 < S.length) :
    ∃ g k, vS = .slice (some ⟨g, 0, none⟩) S.length k ∧ lo ≤ g ∧ g < w.heap.size ∧ (∃ cur, w.heap[g]? = some (.cells cur 40)) ∧ w.frozen? ⟨g, 1, none⟩ = false ∧ w.cell? ⟨g, 1, none⟩ = some (.int .i64 (ageAt S 0)) ∧ ∀ a, HR lo vS vL (S.set 0 ⟨blAt S 0, a⟩) L (w.setCell ⟨g, 1, none⟩ (.int .i64 a)) := by
  obtain ⟨hl, q, p, hF⟩ := h
  have hs : w.ownsRow lo 40 2 vS S.length (segXs q S) := hF.own .s trivial
  obtain ⟨g, k, e1, hg0, hg⟩ := rw_block hs h0
  have hown : vS.ownBlock = some g := by rw [e1]; rfl
  have h2 := rw_cell hs hown (0 * 2 + 1) (by rw [segXs_len]; omega)
  rw [segXs_age] at h2
  refine ⟨g, k, e1, hg0, hg, rw_type hs hown, rw_free hs hown 1, h2, fun a => ⟨by rw [List.length_set]; exact hl, q, p, ?_⟩⟩
  have hh : Fam lo (hd2 S.length S.length) (hf vS vL q p S L) w := hF
  have f := fam_age hh 0 g hown a
  rw [List.length_set] at f
  rw [List.length_set]
  exact f
theorem HR.live {lo : Nat} {vS vL : Value} {S : List Sg} {L : List (List Bool)} {w : World} (h : HR lo vS vL S L w) (h0 : 0 < S.length) :
    ∃ g k a c, vL = .slice (some ⟨g, 0, none⟩) S.length k ∧ lo ≤ g ∧ g < w.heap.size ∧ w.cell? ⟨g, 0, none⟩ = some (.slice a (lvAt L 0).length c) ∧
      (0 < (lvAt L 0).length → ∃ r b, a = some ⟨r, 0, none⟩ ∧ lo ≤ r ∧ r < w.heap.size ∧ (∃ cur, w.heap[r]? = some (.cells cur 4)) ∧ w.frozen? ⟨r, 0, none⟩ = false ∧ w.cell? ⟨r, 0, none⟩ = some (.bool b) ∧ ∀ u, HR lo vS vL S (L.set 0 ((lvAt L 0).set 0 u)) (w.setCell ⟨r, 0, none⟩ (.bool u))) := by
  obtain ⟨hl, q, p, hF⟩ := h
  have hs : w.ownsRow lo 53 1 vL L.length (livXs p L.length) := hF.own .l trivial
  obtain ⟨g, k, e1, hg0, hg⟩ := rw_block hs (by omega)
  have hown : vL.ownBlock = some g := by rw [e1]; rfl
  have h2 := rw_cell hs hown 0 (by rw [livXs_len]; omega)
  have hb : w.ownsRow lo 4 1 (p 0) (lvAt L 0).length (bvals (lvAt L 0)) := hF.own (.v 0) (show 0 < S.length by omega)
  obtain ⟨a, c, e4, _⟩ := bs_of_own hb
  rw [livXs_at, e4] at h2
  refine ⟨g, k, a, c, by rw [← hl]; exact e1, hg0, hg, h2, fun h1 => ?_⟩
  obtain ⟨r, c2, e5, hr0, hr⟩ := rw_block hb h1
  have hownr : (p 0).ownBlock = some r := by rw [e5]; rfl
  have h3 := rw_cell hb hownr 0 (by simpa [bvals] using h1)
  have e6 : (bvals (lvAt L 0))[0]'(by simpa [bvals] using h1) = .bool (lvAt L 0)[0] := by simp [bvals]
  rw [e6] at h3
  have hh : Fam lo (hd2 S.length L.length) (hf vS vL q p S L) w := by rw [hl]; exact hF
  refine ⟨r, _, ?_, hr0, hr, rw_type hb hownr, rw_free hb hownr 0, h3, fun u => ⟨by rw [List.length_set]; exact hl, q, p, ?_⟩⟩
  · rw [e4] at e5; injection e5
  · have f := fam_turn hh 0 (by omega) r hownr 0 u
    rw [hl] at f
    exact f
section
variable {w : World} {B N : Nat} {sv : Value} {Z n : Nat} {vS vL : Value} {S : List Sg} {L : List (List Bool)} {v : World}
theorem Hd.fill (h : Hd w B N sv Z n vS vL S L v) {g i : Nat} {cur : Array Value} {t : TypeId} (ht : v.heap[g]? = some (.cells cur t)) (h26 : t ≠ 26) (hg : w.heap.size + 1 ≤ g) {S' : List Sg} {L' : List (List Bool)} {u : Value} (hr : HR (w.heap.size + 1) vS vL S' L' (v.setCell ⟨g, i, none⟩ u)) (hn : S'.length = n) :
    g ≠ Z ∧ Hd w B N sv Z n vS vL S' L' (v.setCell ⟨g, i, none⟩ u) := by
  have hz := h.lt
  have h1 := h.bw
  have hgZ : g ≠ Z := fun e => by
    rw [e, h.box] at ht
    injection ht with ht
    injection ht with _ ht
    exact h26 ht.symm
  have g0 : Below (w.heap.size + 1) v (v.setCell ⟨g, i, none⟩ u) := setB (Below.refl _ _) g i hg _
  have g1 : But g v (v.setCell ⟨g, i, none⟩ u) := (But.refl g v).setCell i u
  exact ⟨hgZ, h.cur.onH g0 (by omega), h.but.onH g0 (by omega), h.bw, (g0.block _ (by omega)).trans h.res, ⟨hz.1, Nat.lt_of_lt_of_le hz.2 g0.size⟩, (g1.block Z hz.2 (fun e => hgZ e.symm)).trans h.box, hr, hn⟩
theorem Hd.age (h : Hd w B N sv Z n vS vL S L v) (h2 : 2 ≤ n) : ∃ g k, vS = .slice (some ⟨g, 0, none⟩) n k ∧ w.heap.size + 1 ≤ g ∧ g < v.heap.size ∧ g ≠ Z ∧ v.frozen? ⟨g, 1, none⟩ = false ∧ v.cell? ⟨g, 1, none⟩ = some (.int .i64 (ageAt S 0)) ∧ ∀ a, Hd w B N sv Z n vS vL (S.set 0 ⟨blAt S 0, a⟩) L (v.setCell ⟨g, 1, none⟩ (.int .i64 a)) := by
  have hn := h.len
  obtain ⟨g, k, e, l0, l1, ⟨cur, ht⟩, hf, hc, hs⟩ := h.hr.age (by omega)
  have f := fun a => h.fill ht (by decide) l0 (hs a) (by rw [List.length_set]; exact hn)
  exact ⟨g, k, by rw [← hn]; exact e, l0, l1, (f 0).1, hf, hc, fun a => (f a).2⟩
theorem Hd.live (h : Hd w B N sv Z n vS vL S L v) (h2 : 2 ≤ n) : ∃ g k a c m, vL = .slice (some ⟨g, 0, none⟩) n k ∧ w.heap.size + 1 ≤ g ∧ g < v.heap.size ∧ v.cell? ⟨g, 0, none⟩ = some (.slice a m c) ∧
    (0 < m → ∃ r b, a = some ⟨r, 0, none⟩ ∧ w.heap.size + 1 ≤ r ∧ r < v.heap.size ∧ r ≠ Z ∧ v.frozen? ⟨r, 0, none⟩ = false ∧ v.cell? ⟨r, 0, none⟩ = some (.bool b) ∧ ∀ u, ∃ L', Hd w B N sv Z n vS vL S L' (v.setCell ⟨r, 0, none⟩ (.bool u))) := by
  have hn := h.len
  obtain ⟨g, k, a, c, e, l0, l1, hc, hs⟩ := h.hr.live (by omega)
  refine ⟨g, k, a, c, (lvAt L 0).length, by rw [← hn]; exact e, l0, l1, hc, fun h0 => ?_⟩
  obtain ⟨r, b, ea, r0, r1, ⟨cur, ht⟩, hf, hcr, hu⟩ := hs h0
  have f := fun u => h.fill ht (by decide) r0 (hu u) hn
  exact ⟨r, b, ea, r0, r1, (f true).1, hf, hcr, fun u => ⟨_, (f u).2⟩⟩
theorem Hd.fin (h : Hd w B N sv Z n vS vL S L v) : HR (w.heap.size + 1) vS vL S L ((v.setCell ⟨w.heap.size, 0, none⟩ vS).setCell ⟨w.heap.size, 1, none⟩ vL) ∧ Cur B N sv ((v.setCell ⟨w.heap.size, 0, none⟩ vS).setCell ⟨w.heap.size, 1, none⟩ vL) ∧ But B w ((v.setCell ⟨w.heap.size, 0, none⟩ vS).setCell ⟨w.heap.size, 1, none⟩ vL) := by
  have h1 := h.bw
  have g0 : Below w.heap.size v ((v.setCell ⟨w.heap.size, 0, none⟩ vS).setCell ⟨w.heap.size, 1, none⟩ vL) := setB (setB (Below.refl _ _) w.heap.size 0 (Nat.le_refl _) _) w.heap.size 1 (Nat.le_refl _) _
  exact ⟨(h.hr.box h.res 0 vS).box (box_set h.res 0 vS) 1 vL, h.cur.onH g0 h1, h.but.onH g0 (Nat.le_refl _)⟩
end
end Go.Proofs.Ytohkhcjdjjlfbaa
