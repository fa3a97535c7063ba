/- Walk of the model's l4Places. -/
import Derived.Test.YtgipkpldlkmdkaaTab
import Derived.Test.YtgipkpldlkmdkaaWBl
import Derived.Test.YtgipkpldlkmdkaaX
import Derived.Test.YtgipkpldlkmdkaaXOwn
import Derived.Laws.AppendOwn
namespace Go.Proofs.Ytgipkpldlkmdkaa
set_option maxRecDepth 100000
open Go.ChangeShapes Go.WideShapes Go.ChangeAt Go.RowKit G00541
theorem tab_set (f : Nat → Int) (i : Nat) (v : Int) : (tab f).set i v = tab (upd f i v) := by
  apply List.ext_getElem
  · rw [List.length_set, tab_len, tab_len]
  · intro j h1 h2
    rw [List.getElem_set]
    split
    · rename_i e; subst e; rw [tab_at, upd_same]
    · rename_i e; rw [tab_at, tab_at, upd_other _ _ _ _ (fun h => e h.symm)]
theorem iflat (l : List Int) : (l.map icell).flatten = ivals l := by
  induction l with
  | nil => rfl
  | cons n l ih => rw [List.map_cons, List.flatten_cons, ih]; rfl
theorem iwide (l : List Int) (i : Nat) (hi : i < (l.map icell).length) : (l.map icell)[i].length = 1 := by rw [List.getElem_map]; rfl
theorem own_irow {w : World} {B : Nat} {v : Value} {l : List Int} (h : w.ownsRow B 3 1 v l.length (ivals l)) (h0 : 0 < l.length) : ∃ R c, v = .slice (some ⟨R, 0, none⟩) l.length c ∧ B ≤ R ∧ IRow R l w := by
  have hv : v ≠ .slice none 0 0 := by
    intro e
    rcases h.2 with ⟨_, h1⟩ | ⟨g, cap, cur, e2, _⟩
    · omega
    · rw [e] at e2; cases e2
  rw [← iflat] at h
  obtain ⟨R, cap, e, hR, hrow⟩ := GRow.ofOwns (rows := l.map icell) (iwide l) h (by simp) hv
  exact ⟨R, cap, e, hR, hrow⟩
theorem own_ints {w w' : World} {B : Nat} {v : Value} {l : List Int} (h : w'.ownsRow B 3 1 v l.length (ivals l)) (hB : B = w.heap.size) : ∃ b c, v = .slice b l.length c ∧ OwnI w.heap.size w'.heap.size b l w' := by
  subst hB
  by_cases h0 : 0 < l.length
  · obtain ⟨R, c, e, hR, hrow⟩ := own_irow h h0
    exact ⟨_, c, e, Or.inr ⟨R, hR, hrow.lt, rfl, hrow⟩⟩
  · obtain rfl : l = [] := List.eq_nil_of_length_eq_zero (by omega)
    rcases h.2 with ⟨e, _⟩ | ⟨g, cap, cur, e, _⟩
    · exact ⟨none, 0, e, Or.inl rfl⟩
    · exact ⟨_, cap, e, Or.inl rfl⟩
theorem infoInt : (Try.prog.info? 3).map (fun i => (i.zero, i.size, i.bytes)) = some (some (.int .i64 0), 1, 8) := by kernel_rfl
theorem plN_snoc' (m : List Sx) (x : Sx) (n : Nat) (hn : x.long = n) (b : Nat) : plN (m ++ [x]) b = putF (plN m) x n b := by
  unfold plN putF
  rw [pl_snoc, hn]
theorem rep_snoc (k : Nat) : List.replicate (k + 1) (-1 : Int) = List.replicate k (-1) ++ [-1] := List.replicate_succ'
theorem ivals_snoc (l : List Int) (n : Int) : ivals (l ++ [n]) = ivals l ++ [.int .i64 n] := by simp [ivals]
set_option maxHeartbeats 4000000 in
theorem l4Places_any (a : Option Addr) (cap : Nat) (l : List Sx) (w : World) (hn : l.length ≤ 1048576) (hg : ∀ x ∈ l, goodX x = true) (hZ : Xs w.heap.size a l w) :
    Calls Try.prog 45 #[.slice a l.length cap] w fun e w' => ∃ R c, e = .returned (.slice (some ⟨R, 0, none⟩) 16 c) ∧ w.heap.size ≤ R ∧ IRow R (tab (plN l)) w' ∧ Below w.heap.size w w' := by
  obtain ⟨i0, hi, hz0, hz1, hz2⟩ := info_parts infoInt
  have HZ : Hid (Xs w.heap.size a l w) := hZ
  have HG : Hid (∀ x ∈ l, goodX x = true) := hg
  clear hZ hg
  go_enter Try.func45, Try.ntmps45
  go_wp2
  go_loopw [3, 4] (fun o i wr => ∃ (k : Nat) (o1 : Value), k ≤ 16 ∧ i = .int .i64 k ∧ o = o1 ∧ wr.ownsRow w.heap.size 3 1 o1 (List.replicate k (-1 : Int)).length (ivals (List.replicate k (-1))) ∧ Below w.heap.size w wr) (fun _ i _ => 16 - (intOf i).toNat)
  case atStart => exact ⟨0, _, by omega, rfl, rfl, World.ownsRow_nil _ _ _ _, Below.refl _ _⟩
  case round =>
    obtain ⟨k, _, hk, rfl, rfl, hown, hbel⟩ := hrel
    have HBEL : Hid (Below w.heap.size w wr) := hbel
    have hszr := hbel.size
    by_cases hlt : k < 16
    · have HO : Hid (wr.ownsRow w.heap.size 3 1 u3 k (ivals (List.replicate k (-1)))) := by rw [List.length_replicate] at hown; exact hown
      have HC3 : Hid (k + 1 ≤ maxLen ∧ (k + 1) * 8 ≤ 140737488355328) := ⟨by unfold maxLen; omega, by omega⟩
      clear hown hbel
      go_wp2_with (at_builtin; refine wpList_append_own _ rfl (.tmp 12) (.tmp 13) 23 rfl w.heap.size 3 i0 _ 1 8 Try.underlying23 hi hz0 hz1 hz2 rfl (by decide) u3 k (ivals (List.replicate k (-1))) rfl ?own ⟨wr.heap.size, 0, none⟩ 1 1 [.int .i64 (-1)] rfl rfl ?news ?one HC3.out.1 HC3.out.2 ?c5 ?_)
      case own => exact HO.out.alloc _
      case news =>
        intro j u hj
        match j, hj with
        | 0, hj => simp at hj; subst hj; go_simp
      case one => intro u hu; simp at hu; subst hu; rfl
      case c5 => simp; omega
      intro v' w9 hown9 hgrow hnil
      have HOWN9 : Hid (w9.ownsRow w.heap.size 3 1 v' (List.replicate (k + 1) (-1 : Int)).length (ivals (List.replicate (k + 1) (-1)))) := by
        show w9.ownsRow w.heap.size 3 1 v' (List.replicate (k + 1) (-1 : Int)).length (ivals (List.replicate (k + 1) (-1)))
        rw [List.length_replicate, rep_snoc, ivals_snoc]
        exact hown9
      have HB9 : Hid (Below w.heap.size w w9) := (HBEL.out.alloc hszr _).grown hgrow (by simp; omega) (fun j hj => (HO.out.lt j hj).1)
      clear hown9 hgrow hnil
      go_wp2
      go_roundw
      case rel => exact ⟨k + 1, _, by omega, by go_num, rfl, HOWN9.out, HB9.out⟩
      case measure => simp [intOf]; omega
    · obtain rfl : k = 16 := by omega
      obtain ⟨R, c, e, hR, hrow⟩ := own_irow hown (by decide)
      rw [List.length_replicate] at e
      subst e
      have HROW : Hid (IRow R (tab (plN [])) wr) := hrow
      clear hown hbel hrow
      go_wp2
      go_loopw [17] (fun i wr => ∃ (k : Nat), k ≤ l.length ∧ i = .int .i64 k ∧ IRow R (tab (plN (l.take k))) wr ∧ Below w.heap.size w wr) (fun i _ => l.length - (intOf i).toNat)
      case atStart => exact ⟨0, Nat.zero_le _, rfl, HROW.out, HBEL.out⟩
      case round =>
        clear HROW HBEL hszr
        obtain ⟨k, hk, rfl, hrow, hbel⟩ := hrel
        have HROW : Hid (IRow R (tab (plN (l.take k))) wr) := hrow
        have HBEL : Hid (Below w.heap.size w wr) := hbel
        have hszr := hbel.size
        have hRlt := hrow.lt
        by_cases hlt2 : k < l.length
        · obtain ⟨b, off, rfl, hb, hcells⟩ := HZ.out.cell (by omega)
          obtain ⟨c0, c1, c2⟩ := hcells k hlt2
          have hb' : ∀ o, wr.cell? ⟨b, o, none⟩ = w.cell? ⟨b, o, none⟩ := fun o => hbel.cell (p := ⟨b, o, none⟩) hb
          rw [← hb'] at c0 c1 c2
          have gx := (goodX_iff _).1 (HG.out l[k] (List.getElem_mem hlt2))
          have hsnoc : l.take (k + 1) = l.take k ++ [l[k]] := List.take_succ_eq_append_getElem hlt2
          clear hcells hb' hrow hbel
          generalize l[k] = x at *
          obtain ⟨p, n, d⟩ := x
          simp only at c0 c1 c2 gx
          obtain ⟨p, rfl⟩ : ∃ p' : Nat, p = p' := ⟨p.toNat, by omega⟩
          obtain ⟨n, rfl⟩ : ∃ n' : Nat, n = n' := ⟨n.toNat, by omega⟩
          have HN : Hid (tab (putF (plN (l.take k)) ⟨p, n, d⟩ n) = tab (plN (l.take (k + 1)))) := tab_ext _ _ fun b _ => by
            rw [hsnoc, plN_snoc' _ _ n rfl]
          clear hsnoc
          generalize plN (l.take k) = F at *
          have HX : Hid ((wr.alloc (.cells #[.int .i64 p, .int .i64 n, .int .i64 d] 36)).heap[wr.heap.size]? = some (.cells #[.int .i64 p, .int .i64 n, .int .i64 d] 36)) := heap_last _ _
          have HX2 : Hid (IRow R (tab F) (wr.alloc (.cells #[.int .i64 p, .int .i64 n, .int .i64 d] 36)) ∧ Below w.heap.size w (wr.alloc (.cells #[.int .i64 p, .int .i64 n, .int .i64 d] 36))) := ⟨HROW.out.below ((Below.refl _ _).alloc (Nat.le_refl _) _), HBEL.out.alloc hszr _⟩
          go_wp2
          generalize hWA : wr.alloc (.cells #[.int .i64 p, .int .i64 n, .int .i64 d] 36) = wa at *
          generalize hBB : wr.heap.size = B at *
          clear hWA hBB c0 c1 c2 HROW HBEL
          obtain ⟨x0, x1, x2, x3, x4, x5⟩ := gx
          go_loopw [7] (fun i wi => ∃ (j : Nat), j ≤ n ∧ i = .int .i64 j ∧ IRow R (tab (putF F ⟨p, n, d⟩ j)) wi ∧ wi.heap[B]? = some (.cells #[.int .i64 p, .int .i64 n, .int .i64 d] 36) ∧ Below w.heap.size w wi) (fun i _ => n - (intOf i).toNat)
          case atStart => exact ⟨0, Nat.zero_le _, rfl, by rw [putF_zero]; exact HX2.out.1, HX.out, HX2.out.2⟩
          case round =>
            clear HX HX2
            obtain ⟨j, hj, rfl, hrow, hx, hbel⟩ := hrel
            have HROW : Hid (IRow R (tab (putF F ⟨p, n, d⟩ j)) wr) := hrow
            have HX : Hid (wr.heap[B]? = some (.cells #[.int .i64 p, .int .i64 n, .int .i64 d] 36)) := hx
            have HBEL : Hid (Below w.heap.size w wr) := hbel
            have e0 : wr.cell? ⟨B, 0, none⟩ = some (.int .i64 p) := by unfold World.cell?; rw [hx]; rfl
            have e1 : wr.cell? ⟨B, 1, none⟩ = some (.int .i64 n) := by unfold World.cell?; rw [hx]; rfl
            have e2 : wr.cell? ⟨B, 2, none⟩ = some (.int .i64 d) := by unfold World.cell?; rw [hx]; rfl
            by_cases hjl : j < n
            · have y0 := hrow.cell (p + j) (by rw [tab_len]; omega)
              have f0 := hrow.free (p + j) (by rw [tab_len]; omega)
              have hi1 : (0 : Int) ≤ (p : Int) + (j : Int) := by omega
              have hi2 : (p : Int) + (j : Int) < 16 := by omega
              have hi3 : ((p : Int) + (j : Int)).toNat = p + j := by omega
              clear hrow hx hbel
              go_wp2
              go_roundw
              case rel => exact ⟨j + 1, by omega, by go_num, by rw [← putF_step F ⟨p, n, d⟩ p j rfl (d + j) rfl, ← tab_set]; exact HROW.out.set (p + j) (by rw [tab_len]; omega) _, (Below.heap_setCell _ _ _ _ (by show B ≠ R; omega)).trans HX.out, HBEL.out.setCell hR _⟩
              case measure => simp [intOf]; omega
            · obtain rfl : j = n := by omega
              clear hrow hx hbel
              go_wp2
              go_roundw
              case rel => exact ⟨k + 1, by omega, by go_num, by rw [← HN.out]; exact HROW.out, HBEL.out⟩
              case measure => simp [intOf]; omega
        · obtain rfl : k = l.length := by omega
          rw [List.take_length] at HROW
          clear hrow hbel
          go_wp2
          go_ret
          exact ⟨R, c, rfl, hR, HROW.out, HBEL.out⟩
end Go.Proofs.Ytgipkpldlkmdkaa
