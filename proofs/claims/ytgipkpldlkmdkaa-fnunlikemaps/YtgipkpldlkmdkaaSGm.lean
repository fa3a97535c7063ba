/- Walk of the model's GoodMap. -/
import Derived.Test.YtgipkpldlkmdkaaXG
namespace Go.Proofs.Ytgipkpldlkmdkaa
set_option maxRecDepth 100000
open Go.ChangeShapes Go.WideShapes Go.ChangeAt Go.RowKit G00541
theorem ret_b {a b : Bool} (h : a = b) : Ending.returned (.bool a) = .returned (.bool b) := by rw [h]
theorem chain_take : ∀ (o : Option Sx) (l : List Sx) (k : Nat), chain o l = true → chain o (l.take k) = true
  | _, _, 0, _ => by rw [List.take_zero]; rfl
  | _, [], _ + 1, _ => rfl
  | o, x :: l, k + 1, h => by
    rw [List.take_succ_cons]
    unfold chain at h ⊢
    rw [Bool.and_eq_true] at h ⊢
    exact ⟨h.1, chain_take (some x) l k h.2⟩
theorem good_take (l : List Sx) (k : Nat) (h : goodM l = true) : goodM (l.take k) = true := chain_take none l k h
theorem good_bad (l : List Sx) (k : Nat) (h : goodM (l.take k) = false) : goodM l = false := by
  cases hg : goodM l
  · rfl
  · rw [good_take l k hg] at h; cases h
theorem good_first (l : List Sx) (h : 0 < l.length) : goodM (l.take 1) = goodX l[0] := by
  have e : l.take (0 + 1) = l.take 0 ++ [l[0]] := List.take_succ_eq_append_getElem h
  rw [e, List.take_zero, goodM_snoc]
  show (true && goodX l[0] && true) = _
  simp
theorem good_next (l : List Sx) (k : Nat) (h : k + 1 < l.length) : goodM (l.take (k + 1 + 1)) = (goodM (l.take (k + 1)) && goodX l[k + 1] && apart l[k] l[k + 1]) := by
  rw [List.take_succ_eq_append_getElem h, goodM_snoc]
  have e : l.take (k + 1) = l.take k ++ [l[k]] := List.take_succ_eq_append_getElem (by omega)
  have e2 : lastO none (l.take (k + 1)) = some l[k] := by rw [e, lastO_snoc]
  rw [e2]; rfl
set_option maxHeartbeats 4000000 in
theorem sgood_any (a : Option Addr) (cap : Nat) (l : List Sx) (w : World) (hn : l.length ≤ 1048576) (hZ : Xs w.heap.size a l w) :
    Calls Try.prog 16 #[.slice a l.length cap] w fun e w' => e = .returned (.bool (goodM l)) ∧ Below w.heap.size w w' := by
  have HZ : Hid (Xs w.heap.size a l w) := hZ
  clear hZ
  go_enter Try.func16, Try.ntmps16
  go_wp2
  go_loopw [9] (fun i wr => ∃ k : Nat, k ≤ l.length ∧ i = .int .i64 k ∧ goodM (l.take k) = true ∧ Below w.heap.size w wr) (fun i _ => l.length - (intOf i).toNat)
  case atStart => exact ⟨0, Nat.zero_le _, rfl, rfl, Below.refl _ _⟩
  case round =>
    obtain ⟨k, hk, rfl, hgk, hbel⟩ := hrel
    have HBEL : Hid (Below w.heap.size w wr) := hbel
    have hszr := hbel.size
    by_cases hlt : k < l.length
    · obtain ⟨b, off, rfl, hb, hcells⟩ := HZ.out.cell (by omega)
      obtain ⟨c0, c1, c2⟩ := hcells k hlt
      have hb' : ∀ o, wr.cell? ⟨b, o, none⟩ = w.cell? ⟨b, o, none⟩ := fun o => hbel.cell (p := ⟨b, o, none⟩) hb
      rw [← hb'] at c0 c1 c2
      have HG : Hid (∀ v, Calls Try.prog 44 #[.agg #[.int .i64 l[k].at_, .int .i64 l[k].long, .int .i64 l[k].place]] v fun e w' => e = .returned (.bool (goodX l[k])) ∧ Below v.heap.size v w') := fun v => l4Stretch_any _ _ _ v
      by_cases hgx : goodX l[k] = true
      case neg =>
        have hgf : goodX l[k] = false := by cases h : goodX l[k] <;> simp_all
        have HV : Hid (goodM l = false) := by
          refine good_bad l (k + 1) ?_
          rw [List.take_succ_eq_append_getElem hlt, goodM_snoc, hgf]; simp
        rw [hgf] at HG
        clear hgx hgf hcells hb' hbel hgk
        generalize l[k] = x at *
        obtain ⟨p, n, c⟩ := x
        simp only at c0 c1 c2 HG
        go_wp2_with fail
        refine (HG.out _).mono ?_
        rintro e w5 ⟨rfl, b5⟩
        have HB5 : Hid (Below w.heap.size w w5) := (HBEL.out.alloc hszr _).trans (b5.mono (by simp; omega))
        clear b5
        go_wp2
        go_ret
        exact ⟨ret_b HV.out.symm, HB5.out⟩
      have gx := (goodX_iff _).1 hgx
      by_cases hk0 : k = 0
      · have HN : Hid (goodM (l.take (k + 1)) = true) := by subst hk0; show goodM (l.take 1) = true; rw [good_first l hlt]; exact hgx
        have hd0 : decide ((0 : Int) < (k : Int)) = false := decide_eq_false (by omega)
        have hd0n : decide (0 < k) = false := decide_eq_false (by omega)
        rw [hgx] at HG
        clear hgx hcells hb' hbel hgk gx hk0
        generalize l[k] = x at *
        obtain ⟨p, n, c⟩ := x
        simp only at c0 c1 c2 HG
        go_wp2_with fail
        refine (HG.out _).mono ?_
        rintro e w5 ⟨rfl, b5⟩
        have HB5 : Hid (Below w.heap.size w w5) := (HBEL.out.alloc hszr _).trans (b5.mono (by simp; omega))
        clear b5
        go_wp2
        go_roundw
        case rel => exact ⟨k + 1, by omega, by go_num, HN.out, HB5.out⟩
        case measure => simp [intOf]; omega
      · obtain ⟨j, rfl⟩ : ∃ j, k = j + 1 := ⟨k - 1, by omega⟩
        obtain ⟨d0, d1, d2⟩ := hcells j (by omega)
        have gy : goodX l[j] = true := by
          have e : l.take (j + 1) = l.take j ++ [l[j]] := List.take_succ_eq_append_getElem (by omega)
          refine chain_all none _ hgk _ ?_
          rw [e]; exact List.mem_append_right _ List.mem_cons_self
        have gy' := (goodX_iff _).1 gy
        have hnx := good_next l j hlt
        rw [hgk, hgx, Bool.true_and, Bool.true_and] at hnx
        have HN : Hid (goodM (l.take (j + 1 + 1)) = apart l[j] l[j + 1]) := hnx
        have HV : Hid (apart l[j] l[j + 1] = false → goodM l = false) := fun h => good_bad l (j + 1 + 1) (by rw [hnx]; exact h)
        rw [hgx] at HG
        clear hgx hcells hb' gy hgk hnx hk0
        have hap : apart l[j] l[j + 1] = decide (l[j].at_ + l[j].long ≤ l[j + 1].at_ ∧ ¬ (l[j + 1].at_ = l[j].at_ + l[j].long ∧ l[j + 1].place = l[j].place + l[j].long)) := rfl
        generalize l[j + 1] = x at *
        generalize l[j] = y at *
        obtain ⟨p, n, c⟩ := x
        obtain ⟨q, m, d⟩ := y
        simp only at c0 c1 c2 d0 d1 d2 HG gx gy' hap
        obtain ⟨x0, x1, x2, x3, x4, x5⟩ := gx
        obtain ⟨y0, y1, y2, y3, y4, y5⟩ := gy'
        have HAP : Hid (apart ⟨q, m, d⟩ ⟨p, n, c⟩ = decide (q + m ≤ p ∧ ¬ (p = q + m ∧ c = d + m))) := hap
        clear hap
        go_wp2_with fail
        refine (HG.out _).mono ?_
        rintro e w5 ⟨rfl, b5⟩
        have hB5 : Below w.heap.size w w5 := (HBEL.out.alloc hszr _).trans (b5.mono (by simp; omega))
        have hs5 := hB5.size
        have z0 : w5.cell? ⟨wr.heap.size, 0, none⟩ = some (.int .i64 p) := by rw [b5.cell (p := ⟨wr.heap.size, 0, none⟩) (by simp)]; go_simp
        have z2 : w5.cell? ⟨wr.heap.size, 2, none⟩ = some (.int .i64 c) := by rw [b5.cell (p := ⟨wr.heap.size, 2, none⟩) (by simp)]; go_simp
        have hz5 : wr.heap.size < w5.heap.size := by have := b5.size; simp at this; omega
        have hd' : ∀ o, w5.cell? ⟨b, o, none⟩ = w.cell? ⟨b, o, none⟩ := fun o => hB5.cell (p := ⟨b, o, none⟩) hb
        rw [← hd'] at d0 d1 d2
        have HB5 : Hid (Below w.heap.size w w5) := hB5
        clear b5 hB5 hd' c0 c1 c2 hbel HG HBEL
        have hw2 : ∀ o : Obj, (w5.alloc o).cell? ⟨wr.heap.size, 0, none⟩ = some (.int .i64 p) := fun o => by rw [World.cell?_alloc_lt _ _ _ hz5]; exact z0
        have hj1 : decide ((0 : Int) < (j : Int) + 1) = true := decide_eq_true (by omega)
        by_cases q1 : p < q + m
        · have hd1 : decide (p < q + m) = true := decide_eq_true q1
          have HV2 : Hid (goodM l = false) := HV.out (by rw [HAP.out]; exact decide_eq_false (by omega))
          clear HV HN HAP q1
          go_wp2
          go_ret
          exact ⟨ret_b HV2.out.symm, HB5.out.alloc hs5 _⟩
        · have hd1 : decide (p < q + m) = false := decide_eq_false q1
          by_cases q2 : p = q + m
          · have hd2 : (p == q + m) = true := beq_iff_eq.2 q2
            by_cases q3 : c = d + m
            · have hd3 : (c == d + m) = true := beq_iff_eq.2 q3
              have HV2 : Hid (goodM l = false) := HV.out (by rw [HAP.out]; exact decide_eq_false (by omega))
              clear HV HN HAP q1 q2 q3
              go_wp2
              go_ret
              exact ⟨ret_b HV2.out.symm, HB5.out.alloc hs5 _⟩
            · have hd3 : (c == d + m) = false := beq_eq_false_iff_ne.2 q3
              have HN2 : Hid (goodM (l.take (j + 1 + 1)) = true) := HN.out.trans (by rw [HAP.out]; exact decide_eq_true (by omega))
              clear HV HN HAP q1 q2 q3
              go_wp2
              go_roundw
              case rel => exact ⟨j + 1 + 1, by omega, by go_num, HN2.out, HB5.out.alloc hs5 _⟩
              case measure => simp [intOf]; omega
          · have hd2 : (p == q + m) = false := beq_eq_false_iff_ne.2 q2
            have HN2 : Hid (goodM (l.take (j + 1 + 1)) = true) := HN.out.trans (by rw [HAP.out]; exact decide_eq_true (by omega))
            clear HV HN HAP q1 q2
            go_wp2
            go_roundw
            case rel => exact ⟨j + 1 + 1, by omega, by go_num, HN2.out, HB5.out.alloc hs5 _⟩
            case measure => simp [intOf]; omega
    · obtain rfl : k = l.length := by omega
      rw [List.take_length] at hgk
      have HV : Hid (goodM l = true) := hgk
      clear hgk hbel
      go_wp2
      go_ret
      exact ⟨ret_b HV.out.symm, HBEL.out⟩
end Go.Proofs.Ytgipkpldlkmdkaa
