/- Heaps drawn for the laws of chapter 5; what the laws keep while they go. -/
import Derived.Test.YtohkhcjdjjlfbaaHDh
import Derived.Test.YtohkhcjdjjlfbaaHPw
import Derived.Test.YtohkhcjdjjlfbaaHSm
import Derived.Test.YtohkhcjdjjlfbaaIPick
import Derived.Test.YtohkhcjdjjlfbaaIWb
import Derived.Test.YtohkhcjdjjlfbaaIFree
import Derived.Test.YtohkhcjdjjlfbaaIWhere
import Derived.Test.YtohkhcjdjjlfbaaQSpec
import Derived.Test.YtohkhcjdjjlfbaaQImp
namespace Go.Proofs.Ytohkhcjdjjlfbaa
set_option maxRecDepth 100000
open Go Go.ChangeShapes Go.WideShapes Go.ChangeAt Go.RowKit G00541
theorem ret_b5 {a b : Bool} (h : a = b) : Ending.returned (.bool a) = .returned (.bool b) := by rw [h]
/-- behind the drawing of a heap: the result's box is the first new one, the cursor's the second -/
structure Dh (N len cap : Nat) (a : Option Addr) (w0 : World) (vS vL : Value) (S : List Sg) (L : List (List Bool)) (w : World) : Prop where
  cur : Cur (w0.heap.size + 1) N (.slice a len cap) w
  code : Code (w0.heap.size + 1) len cap a w
  below : Below w0.heap.size w0 w
  res : w.heap[w0.heap.size]? = some (.cells #[.slice none 0 0, .slice none 0 0] 26)
  hr : HR (w0.heap.size + 2) vS vL S L w
theorem Dh.step {N M len cap : Nat} {a : Option Addr} {w0 w w' : World} {vS vL : Value} {S : List Sg} {L : List (List Bool)} (h : Dh N len cap a w0 vS vL S L w) (hc : Cur (w0.heap.size + 1) M (.slice a len cap) w') (g : But (w0.heap.size + 1) w w') : Dh M len cap a w0 vS vL S L w' := by
  have h3 := h.below.size
  have h4 := block_ltH h.res
  have h5 := h.cur.lt
  exact ⟨hc, h.code.but g (Nat.le_refl _) (by omega), h.below.trans (g.below (by omega) h3), (g.block _ h4 (by omega)).trans h.res, h.hr.but g (by omega)⟩
/-- the two boxes ahead of the draw -/
abbrev oneH (w : World) : World := w.alloc (.cells #[.slice none 0 0, .slice none 0 0] 26)
abbrev twoH (a : Option Addr) (len cap : Nat) (w : World) : World := (oneH w).alloc (.cells #[.slice a len cap, .int .i64 0, .int .u64 0] 68)
theorem oneH_size (w : World) : (oneH w).heap.size = w.heap.size + 1 := heap_size _ _
theorem heap_dh (len cap : Nat) (a : Option Addr) (w : World) (hK : Code w.heap.size len cap a w) :
    Calls Try.prog 49 #[.pointer (some ⟨w.heap.size + 1, 0, none⟩)] (twoH a len cap w) fun e w' => ∃ vS vL S L, e = .returned (.agg #[vS, vL]) ∧ 2 ≤ S.length ∧ S.length ≤ 6 ∧ Dh 400 len cap a w vS vL S L w' := by
  have hs := oneH_size w
  have C : Cur (w.heap.size + 1) 0 (.slice a len cap) (twoH a len cap w) := by
    have c : Cur (oneH w).heap.size 0 (.slice a len cap) (twoH a len cap w) := Cur.start _ _ _
    rw [hs] at c
    exact c
  have K : Code (w.heap.size + 1) len cap a (twoH a len cap w) := by
    have k1 : Code (oneH w).heap.size len cap a (oneH w) := (hK.start _).mono (by rw [hs]; omega)
    have := k1.start (.cells #[.slice a len cap, .int .i64 0, .int .u64 0] 68)
    rw [hs] at this
    exact this
  refine (heap_any _ 0 len cap a _ (by omega) C K).mono ?_
  rintro e w' ⟨vS, vL, S, L, rfl, h2, h6, hr, hc, hb⟩
  have h0 : (twoH a len cap w).heap.size = w.heap.size + 2 := by rw [heap_size, hs]
  have hbl : Below w.heap.size w (twoH a len cap w) := ((Below.refl _ w).alloc (Nat.le_refl _) _).alloc (by rw [heap_size]; omega) _
  have hres : (twoH a len cap w).heap[w.heap.size]? = some (.cells #[.slice none 0 0, .slice none 0 0] 26) := ((boxB (oneH w) _).block _ (by rw [hs]; omega)).trans (heap_last w _)
  exact ⟨vS, vL, S, L, rfl, h2, h6, hc.mono (by omega), K.but hb (Nat.le_refl _) (by omega), hbl.trans (hb.below (by omega) (by omega)), (hb.block _ (by omega) (by omega)).trans hres, hr.low (by omega)⟩
/-- the heap that is handed back -/
def HG (aS aL : Option Addr) (S : List Sg) (L : List (List Bool)) (w : World) : Prop := L.length = S.length ∧ Gs w.heap.size aS S w ∧ Vs w.heap.size aL L w
theorem HG.on {aS aL : Option Addr} {S : List Sg} {L : List (List Bool)} {w w' : World} (h : HG aS aL S L w) (g : Below w.heap.size w w') : HG aS aL S L w' := ⟨h.1, (h.2.1.below g).mono g.size, (h.2.2.below g).mono g.size⟩
theorem HR.hg {lo : Nat} {aS aL : Option Addr} {kS kL : Nat} {w : World} {S : List Sg} {L : List (List Bool)} (hr : HR lo (.slice aS S.length kS) (.slice aL L.length kL) S L w) : HG aS aL S L w := by
  obtain ⟨bS, jS, bL, jL, e1, e2, hG, hV⟩ := hr.read
  injection e1 with e1 _ _
  injection e2 with e2 _ _
  subst e1; subst e2
  exact ⟨hr.1, hG, hV⟩
theorem Dh.fin {N len cap : Nat} {a aS aL : Option Addr} {kS kL : Nat} {w0 w : World} {S : List Sg} {L : List (List Bool)} (h : Dh N len cap a w0 (.slice aS S.length kS) (.slice aL L.length kL) S L w) :
    HR (w0.heap.size + 2) (.slice aS S.length kS) (.slice aL L.length kL) S L ((w.setCell ⟨w0.heap.size, 0, none⟩ (.slice aS S.length kS)).setCell ⟨w0.heap.size, 1, none⟩ (.slice aL L.length kL)) ∧ Below w0.heap.size w0 ((w.setCell ⟨w0.heap.size, 0, none⟩ (.slice aS S.length kS)).setCell ⟨w0.heap.size, 1, none⟩ (.slice aL L.length kL)) :=
  ⟨(h.hr.box h.res 0 (.slice aS S.length kS)).box (box_set h.res 0 (.slice aS S.length kS)) 1 (.slice aL L.length kL), setB (setB h.below w0.heap.size 0 (Nat.le_refl _) _) w0.heap.size 1 (Nat.le_refl _) _⟩
set_option maxHeartbeats 1000000 in
theorem drawHeap_any (len cap : Nat) (a : Option Addr) (w : World) (hK : Code w.heap.size len cap a w) :
    Calls Try.prog 48 #[.slice a len cap] w fun e w' => ∃ aS kS aL kL S L, e = .returned (.agg #[.slice aS S.length kS, .slice aL L.length kL]) ∧ S.length ≤ 6 ∧ HR (w.heap.size + 2) (.slice aS S.length kS) (.slice aL L.length kL) S L w' ∧ Below w.heap.size w w' := by
  have HH := hid (heap_dh len cap a w hK)
  clear hK
  go_enter Try.func48, Try.ntmps48
  go_wp2_with fail
  refine HH.out.mono ?_
  rintro e w2 ⟨vS, vL, S, L, rfl, h2, h6, hd⟩
  obtain ⟨aS, kS, aL, kL, e1, e2, _, _⟩ := hd.hr.read
  subst e1; subst e2
  have r0 := box_cell hd.res 0
  have r1 := box_cell hd.res 1
  have f0 := box_free hd.res 0
  have f1 := box_free hd.res 1
  have HF := hid hd.fin
  clear hd HH
  go_wp2_with fail
  refine bodyPost_ret (v := .agg #[.slice aS S.length kS, .slice aL L.length kL]) (by simp [results, Try.results48, go_sem, r0, r1]) rfl ⟨aS, kS, aL, kL, S, L, rfl, h6, HF.out.1, HF.out.2⟩
set_option maxHeartbeats 1000000 in
theorem drawPick_any (len cap : Nat) (a : Option Addr) (w : World) (hK : Code w.heap.size len cap a w) :
    Calls Try.prog 21 #[.slice a len cap] w fun e w' => ∃ aS kS aL kL S L, ∃ x : Int, e = .returned (.tuple #[.agg #[.slice aS S.length kS, .slice aL L.length kL], .int .i64 x]) ∧ S.length ≤ 6 ∧ HG aS aL S L w' ∧ Below w.heap.size w w' := by
  have HH := hid (heap_dh len cap a w hK)
  clear hK
  go_enter Try.func21, Try.ntmps21
  go_wp2_with fail
  refine HH.out.mono ?_
  rintro e w2 ⟨vS, vL, S, L, rfl, h2, h6, hd⟩
  have HD := hid hd
  clear hd HH
  go_wp2_with fail
  refine (pick_any _ _ _ len cap a _ (by omega) (by omega) (by omega) HD.out.cur HD.out.code).mono ?_
  rintro e w3 ⟨x, rfl, x0, x1, hC3, hB3⟩
  have hd := HD.out.step hC3 hB3
  obtain ⟨aS, kS, aL, kL, e1, e2, _, _⟩ := hd.hr.read
  subst e1; subst e2
  have r0 := box_cell hd.res 0
  have r1 := box_cell hd.res 1
  have f0 := box_free hd.res 0
  have f1 := box_free hd.res 1
  have HF := hid hd.fin
  clear hd HD hC3 hB3
  go_wp2_with fail
  refine bodyPost_ret (v := .tuple #[.agg #[.slice aS S.length kS, .slice aL L.length kL], .int .i64 x]) (by simp [results, Try.results21, go_sem, r0, r1]) rfl ⟨aS, kS, aL, kL, S, L, x, rfl, h6, HF.out.1.hg, HF.out.2⟩
set_option maxHeartbeats 1000000 in
theorem drawWrite_any (len cap : Nat) (a : Option Addr) (w : World) (hK : Code w.heap.size len cap a w) :
    Calls Try.prog 24 #[.slice a len cap] w fun e w' => ∃ aS kS aL kL S L, ∃ x : Int, e = .returned (.tuple #[.agg #[.slice aS S.length kS, .slice aL L.length kL], .int .i64 x]) ∧ S.length ≤ 6 ∧ HG aS aL S L w' ∧ Below w.heap.size w w' := by
  have HH := hid (heap_dh len cap a w hK)
  clear hK
  go_enter Try.func24, Try.ntmps24
  go_wp2_with fail
  refine HH.out.mono ?_
  rintro e w2 ⟨vS, vL, S, L, rfl, h2, h6, hd⟩
  have HD := hid hd
  clear hd HH
  go_wp2_with fail
  refine (pick_any _ _ _ len cap a _ (by omega) (by omega) (by omega) HD.out.cur HD.out.code).mono ?_
  rintro e w3 ⟨x, rfl, x0, x1, hC3, hB3⟩
  have hd := HD.out.step hC3 hB3
  obtain ⟨aS, kS, aL, kL, e1, e2, _, _⟩ := hd.hr.read
  subst e1; subst e2
  have r0 := box_cell hd.res 0
  have r1 := box_cell hd.res 1
  have f0 := box_free hd.res 0
  have f1 := box_free hd.res 1
  have HF := hid hd.fin
  clear hd HD hC3 hB3
  go_wp2_with fail
  refine bodyPost_ret (v := .tuple #[.agg #[.slice aS S.length kS, .slice aL L.length kL], .int .i64 (x - 1)]) (by simp [results, Try.results24, go_sem, r0, r1]) rfl ⟨aS, kS, aL, kL, S, L, x - 1, rfl, h6, HF.out.1.hg, HF.out.2⟩
set_option maxHeartbeats 1000000 in
theorem drawAll_any (len cap : Nat) (a : Option Addr) (w : World) (hK : Code w.heap.size len cap a w) :
    Calls Try.prog 28 #[.slice a len cap] w fun e w' => ∃ aS kS aL kL S L, e = .returned (.agg #[.slice aS S.length kS, .slice aL L.length kL]) ∧ S.length ≤ 6 ∧ HG aS aL S L w' ∧ Below w.heap.size w w' := by
  have k1 : Code (oneH w).heap.size len cap a (oneH w) := (hK.start _).mono (by rw [oneH_size]; omega)
  have HH := hid (drawHeap_any len cap a (oneH w) k1)
  clear hK k1
  go_enter Try.func28, Try.ntmps28
  go_wp2_with fail
  refine HH.out.mono ?_
  rintro e w2 ⟨aS, kS, aL, kL, S, L, rfl, h6, hr, hb⟩
  have hs := oneH_size w
  have hres : w2.heap[w.heap.size]? = some (.cells #[.slice none 0 0, .slice none 0 0] 26) := (hb.block _ (by omega)).trans (heap_last w _)
  have r0 := box_cell hres 0
  have r1 := box_cell hres 1
  have f0 := box_free hres 0
  have f1 := box_free hres 1
  have HR2 := hid ((hr.box hres 0 (.slice aS S.length kS)).box (box_set hres 0 (.slice aS S.length kS)) 1 (.slice aL L.length kL)).hg
  have hb0 : Below w.heap.size w w2 := ((Below.refl _ w).alloc (Nat.le_refl _) _).trans (hb.mono (by omega))
  have HBB := hid (setB (setB hb0 w.heap.size 0 (Nat.le_refl _) (.slice aS S.length kS)) w.heap.size 1 (Nat.le_refl _) (.slice aL L.length kL))
  clear hr hb hb0 hres HH hs
  go_wp2_with fail
  refine bodyPost_ret (v := .agg #[.slice aS S.length kS, .slice aL L.length kL]) (by simp [results, Try.results28, go_sem, r0, r1]) rfl ⟨aS, kS, aL, kL, S, L, rfl, h6, HR2.out, HBB.out⟩
set_option maxHeartbeats 1000000 in
theorem has_any (a : Option Addr) (c : Nat) (l : List Int) (n : Int) (w : World) (hn : l.length ≤ 1048576) (h1 : Is w.heap.size a l w) :
    Calls Try.prog 27 #[.slice a l.length c, .int .i64 n] w fun e w' => e = .returned (.bool (decide (n ∈ l))) ∧ w' = w := by
  have H1 : Hid (Is w.heap.size a l w) := h1
  clear h1
  go_enter Try.func27, Try.ntmps27
  go_wp2
  go_loop [9] (fun i => ∃ k : Nat, k ≤ l.length ∧ i = .int .i64 k ∧ n ∉ l.take k) (fun i => l.length - (intOf i).toNat)
  case atStart => exact ⟨0, Nat.zero_le _, rfl, by simp⟩
  case round =>
    obtain ⟨k, hk, rfl, hno⟩ := hrel
    have HNO := hid hno
    clear hno
    by_cases hlt : k < l.length
    · obtain ⟨b1, o1, rfl, hb1, hc1⟩ := H1.out.cell (by omega)
      have x0 := hc1 k hlt
      clear hc1
      have hs : l.take (k + 1) = l.take k ++ [l[k]] := List.take_succ_eq_append_getElem hlt
      by_cases he : l[k] = n
      · have hd : (l[k] == n) = true := beq_iff_eq.2 he
        have HV : Hid (decide (n ∈ l) = true) := decide_eq_true (by rw [← he]; exact List.getElem_mem hlt)
        clear hs he
        generalize l[k] = y at *
        go_wp2
        go_ret
        exact ⟨ret_b5 HV.out.symm, rfl⟩
      · have hd : (l[k] == n) = false := beq_eq_false_iff_ne.2 he
        have HN : Hid (n ∉ l.take (k + 1)) := by
          show n ∉ l.take (k + 1)
          rw [hs]
          intro h
          rcases List.mem_append.1 h with h | h
          · exact HNO.out h
          · rw [List.mem_singleton] at h; exact he h.symm
        clear hs he
        generalize l[k] = y at *
        go_wp2
        go_round
        case rel => exact ⟨k + 1, by omega, by go_num, HN.out⟩
        case measure => simp [intOf]; omega
    · obtain rfl : k = l.length := by omega
      have HV : Hid (decide (n ∈ l) = false) := decide_eq_false (by have := HNO.out; rw [List.take_length] at this; exact this)
      go_wp2
      go_ret
      exact ⟨ret_b5 HV.out.symm, rfl⟩
/-- what both sides answer -/
theorem pick_tells (S : List Sg) (L : List (List Bool)) (how : Int) : ∃ (k : Int) (ok : Bool),
    (∀ aS kS aL kL v, HG aS aL S L v → Calls Try.prog 22 #[.agg #[.slice aS S.length kS, .slice aL L.length kL], .int .i64 how] v fun e w' => e = .returned (.tuple #[.int .i64 k, .bool ok]) ∧ Below v.heap.size v w') ∧
    (∀ aS kS aL kL v, HG aS aL S L v → Calls Try.prog 23 #[.agg #[.slice aS S.length kS, .slice aL L.length kL], .int .i64 how] v fun e w' => e = .returned (.tuple #[.int .i64 k, .bool ok]) ∧ Below v.heap.size v w') ∧
    (ok = true → goodH S L = true ∧ ∃ b : Nat, k = (b : Int) ∧ b < S.length ∧ lenAt S b = 6 ∧ (how = 1 → ∀ j, j < S.length → lenAt S j = 6 → cntAt L b ≤ cntAt L j)) := by
  by_cases h : goodH S L = true ∧ 1 ≤ how ∧ how ≤ 2
  · obtain ⟨hg, h1, h2⟩ := h
    have hi : ∀ aS kS aL kL v, HG aS aL S L v → Calls Try.prog 22 #[.agg #[.slice aS S.length kS, .slice aL L.length kL], .int .i64 how] v fun e w' => e = pickOf (bestH S L how S.length) ∧ Below v.heap.size v w' := fun aS kS aL kL v hv => by
      have : how = 1 ∨ how = 2 := by omega
      rcases this with rfl | rfl
      · exact iPick1_yes aS aL kS kL S L v hv.1 hg hv.2.1 hv.2.2
      · exact iPick2_yes aS aL kS kL S L v hv.1 hg hv.2.1 hv.2.2
    have hs : ∀ aS kS aL kL v, HG aS aL S L v → Calls Try.prog 23 #[.agg #[.slice aS S.length kS, .slice aL L.length kL], .int .i64 how] v fun e w' => e = pickOf (bestH S L how S.length) ∧ Below v.heap.size v w' := fun aS kS aL kL v hv => sPick_yes aS aL kS kL S L how v hv.1 hg h1 h2 hv.2.1 hv.2.2
    cases hb : bestH S L how S.length with
    | none => rw [hb] at hi hs; exact ⟨0, false, hi, hs, fun h => by cases h⟩
    | some b =>
      rw [hb] at hi hs
      have hf := best_full S L how S.length b hb
      exact ⟨b, true, hi, hs, fun _ => ⟨hg, b, rfl, best_lt S L how S.length b hb, hf.1, hf.2⟩⟩
  · exact ⟨0, false, fun aS kS aL kL v hv => iPick_no aS aL kS kL S L how v h hv.2.1 hv.2.2, fun aS kS aL kL v hv => sPick_no aS aL kS kL S L how v h hv.2.1 hv.2.2, fun h => by cases h⟩
def small5 (S : List Sg) (L : List (List Bool)) : Prop := S.length ≤ 1048576 ∧ (∀ k (h : k < S.length), S[k].bl.length ≤ 1048576) ∧ ∀ k (h : k < L.length), L[k].length ≤ 1048576
theorem good_small5 {S : List Sg} {L : List (List Bool)} (hl : L.length = S.length) (hg : goodH S L = true) : small5 S L := by
  obtain ⟨h1, h2, _⟩ := (goodH_iff S L hl).1 hg
  have hb : ∀ k (h : k < S.length), S[k].bl.length ≤ 6 ∧ (L[k]'(by omega)).length ≤ 6 := fun k h => by
    obtain ⟨s1, _, _, _, s5⟩ := (goodS_iff _ _).1 (h2 k h)
    exact ⟨s1, by omega⟩
  exact ⟨by omega, fun k h => by have := (hb k h).1; omega, fun k h => by have := (hb k (by omega)).2; omega⟩
theorem write_tells (S : List Sg) (L : List (List Bool)) (x : Int) (hl : L.length = S.length) : ∃ (S' : List Sg) (L' : List (List Bool)) (ok : Bool),
    (∀ aS kS aL kL v, HG aS aL S L v → Calls Try.prog 25 #[.agg #[.slice aS S.length kS, .slice aL L.length kL], .int .i64 x] v fun e w' => ∃ bS jS bL jL, e = .returned (.tuple #[.agg #[.slice bS S'.length jS, .slice bL L'.length jL], .bool ok]) ∧ HG bS bL S' L' w' ∧ Below v.heap.size v w') ∧
    (∀ aS kS aL kL v, HG aS aL S L v → Calls Try.prog 26 #[.agg #[.slice aS S.length kS, .slice aL L.length kL], .int .i64 x] v fun e w' => ∃ bS jS bL jL, e = .returned (.tuple #[.agg #[.slice bS S'.length jS, .slice bL L'.length jL], .bool ok]) ∧ HG bS bL S' L' w' ∧ Below v.heap.size v w') ∧
    small5 S' L' ∧ (ok = true → goodH S L = true ∧ goodH S' L' = true ∧ (∀ y ∈ Q.flatB S L, y ∈ Q.flatB S' L') ∧ (Q.flatB S' L').length ≤ (Q.flatB S L).length + 1 ∧ x ∈ Q.flatB S' L') := by
  have conv : ∀ {S' : List Sg} {L' : List (List Bool)} {ok : Bool} {v : World} {e : Ending} {w' : World}, HOut S' L' ok v e w' → ∃ bS jS bL jL, e = .returned (.tuple #[.agg #[.slice bS S'.length jS, .slice bL L'.length jL], .bool ok]) ∧ HG bS bL S' L' w' ∧ Below v.heap.size v w' := by
    rintro S' L' ok v e w' ⟨vS, vL, h1, h2, h3⟩
    obtain ⟨bS, jS, bL, jL, e1, e2, hG, hV⟩ := h2.read
    subst e1; subst e2
    exact ⟨bS, jS, bL, jL, h1, ⟨h2.1, hG, hV⟩, h3⟩
  by_cases h : goodH S L = true ∧ 0 ≤ x ∧ x ≤ 15
  · obtain ⟨hg, hx⟩ := h
    obtain ⟨xn, rfl⟩ : ∃ xn : Nat, x = (xn : Int) := ⟨x.toNat, by omega⟩
    have hi := fun aS kS aL kL v (hv : HG aS aL S L v) => iWrite_good aS aL kS kL S L (xn : Int) v hv.1 hg hx hv.2.1 hv.2.2
    have hs := fun aS kS aL kL v (hv : HG aS aL S L v) => sWrite_good aS aL kS kL S L (xn : Int) v hv.1 hg hx hv.2.1 hv.2.2
    cases hw : wrH S L (xn : Int) (-1) with
    | none =>
      rw [hw] at hi hs
      exact ⟨[], [], false, fun aS kS aL kL v hv => (hi aS kS aL kL v hv).mono fun e w' h => conv h, fun aS kS aL kL v hv => (hs aS kS aL kL v hv).mono fun e w' h => conv h, ⟨by simp, fun k h => by simp at h, fun k h => by simp at h⟩, fun h => by cases h⟩
    | some t =>
      rw [hw] at hi hs
      have hgood := wrH_good hl hg (by omega) hw
      exact ⟨t.1, t.2, true, fun aS kS aL kL v hv => (hi aS kS aL kL v hv).mono fun e w' h => conv h, fun aS kS aL kL v hv => (hs aS kS aL kL v hv).mono fun e w' h => conv h, good_small5 hgood.2 hgood.1, fun _ => ⟨hg, hgood.1, wrH_flat hl hg (by omega) hw⟩⟩
  · exact ⟨[], [], false, fun aS kS aL kL v hv => (iWrite_bad aS aL kS kL S L x v h hv.2.1 hv.2.2).mono fun e w' h => conv h, fun aS kS aL kL v hv => (sWrite_bad aS aL kS kL S L x v h hv.2.1 hv.2.2).mono fun e w' h => conv h, ⟨by simp, fun k h => by simp at h, fun k h => by simp at h⟩, fun h => by cases h⟩
theorem all_tells (S : List Sg) (L : List (List Bool)) (hl : L.length = S.length) : ∃ (V : List Int) (ok : Bool),
    (∀ aS kS aL kL v, HG aS aL S L v → Calls Try.prog 13 #[.agg #[.slice aS S.length kS, .slice aL L.length kL]] v fun e w' => ∃ b c, e = .returned (.tuple #[.slice b V.length c, .bool ok]) ∧ Is w'.heap.size b V w' ∧ Below v.heap.size v w') ∧
    (∀ aS kS aL kL v, HG aS aL S L v → Calls Try.prog 29 #[.agg #[.slice aS S.length kS, .slice aL L.length kL]] v fun e w' => ∃ b c, e = .returned (.tuple #[.slice b V.length c, .bool ok]) ∧ Is w'.heap.size b V w' ∧ Below v.heap.size v w') ∧
    V.length ≤ 1048576 ∧ (goodH S L = true → ok = true ∧ V.length = (Q.flatB S L).length ∧ (∀ y, y ∈ V ↔ y ∈ Q.flatB S L) ∧ V = sortN (Q.flatB S L)) := by
  have conv : ∀ {V : List Int} {ok : Bool} {v : World} {e : Ending} {w' : World}, Q.LOut V ok v e w' → ∃ b c, e = .returned (.tuple #[.slice b V.length c, .bool ok]) ∧ Is w'.heap.size b V w' ∧ Below v.heap.size v w' := by
    rintro V ok v e w' ⟨b, c, h1, h2, h3⟩
    exact ⟨b, c, h1, h2.is, h3⟩
  by_cases hg : goodH S L = true
  · have h6 := Q.flatB_len S L hl (fun k h => ((goodS_iff _ _).1 (((goodH_iff S L hl).1 hg).2.1 k h)).1) S.length (Nat.le_refl _)
    rw [List.take_length, ← hl, List.take_length] at h6
    have h8 := ((goodH_iff S L hl).1 hg).1
    refine ⟨sortN (Q.flatB S L), true, fun aS kS aL kL v hv => (Q.iAll_yes aS aL kS kL S L v hv.1 hg hv.2.1 hv.2.2).mono fun e w' h => conv h, fun aS kS aL kL v hv => (Q.sAll_yes aS aL kS kL S L v hv.1 hg hv.2.1 hv.2.2).mono fun e w' h => conv h, by rw [sortN_len]; omega, fun _ => ⟨rfl, sortN_len _, fun y => sortN_mem, rfl⟩⟩
  · have hg : goodH S L = false := by simpa using hg
    refine ⟨[], false, fun aS kS aL kL v hv => (Q.iAll_no aS aL kS kL S L v hg hv.2.1 hv.2.2).mono fun e w' h => conv h, fun aS kS aL kL v hv => (Q.sAll_no aS aL kS kL S L v hg hv.2.1 hv.2.2).mono fun e w' h => conv h, by simp, fun h => by rw [hg] at h; cases h⟩
/-- what is kept: the bytes still to be read -/
structure S5 (w0 : World) (l2 c2 : Nat) (a2 : Option Addr) (w : World) : Prop where
  below : Below w0.heap.size w0 w
  code : Code w0.heap.size l2 c2 a2 w
theorem S5.on {w0 w w' : World} {l2 c2 : Nat} {a2 : Option Addr} (h : S5 w0 l2 c2 a2 w) (g : Below w.heap.size w w') : S5 w0 l2 c2 a2 w' :=
  ⟨h.below.trans (g.mono h.below.size), h.code.below (g.mono h.below.size)⟩
theorem S5.draw {w0 w : World} {l2 c2 : Nat} {a2 : Option Addr} (h : S5 w0 l2 c2 a2 w) : Code w.heap.size l2 c2 a2 w := h.code.mono h.below.size
/-- a heap in its box -/
structure HX (Q : Nat) (aS aL : Option Addr) (kS kL : Nat) (S : List Sg) (L : List (List Bool)) (w : World) : Prop where
  box : w.heap[Q]? = some (.cells #[.slice aS S.length kS, .slice aL L.length kL] 26)
  hg : HG aS aL S L w
theorem HX.on {Q : Nat} {aS aL : Option Addr} {kS kL : Nat} {S : List Sg} {L : List (List Bool)} {w w' : World} (h : HX Q aS aL kS kL S L w) (g : Below w.heap.size w w') : HX Q aS aL kS kL S L w' := ⟨(g.block _ (block_ltH h.box)).trans h.box, h.hg.on g⟩
theorem HX.start {aS aL : Option Addr} {S : List Sg} {L : List (List Bool)} {w : World} (h : HG aS aL S L w) (kS kL : Nat) : HX w.heap.size aS aL kS kL S L (w.alloc (.cells #[.slice aS S.length kS, .slice aL L.length kL] 26)) := ⟨heap_last _ _, h.on (boxB _ _)⟩
theorem HX.lt {Q : Nat} {aS aL : Option Addr} {kS kL : Nat} {S : List Sg} {L : List (List Bool)} {w : World} (h : HX Q aS aL kS kL S L w) : Q < w.heap.size := block_ltH h.box
end Go.Proofs.Ytohkhcjdjjlfbaa
