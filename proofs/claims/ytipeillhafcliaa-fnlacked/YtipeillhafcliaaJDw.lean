/- What is drawn of chapter 12. -/
import Derived.Test.YtipeillhafcliaaJDr
namespace Go.Proofs.Ytipeillhafcliaa
set_option maxRecDepth 100000
open Go Go.ChangeShapes Go.WideShapes Go.ChangeAt Go.RowKit
theorem AL.setK {lo R c n : Nat} {l : List Int} {w : World} (h : AL lo (.slice (some ⟨R, 0, none⟩) n c) l w) (hk : Nat) (x : Int) (hn : (l.set hk x).length = n) : AL lo (.slice (some ⟨R, 0, none⟩) n c) (l.set hk x) (w.setCell ⟨R, hk, none⟩ (.int .i64 x)) := by
  have h9 : w.ownsRow lo 3 1 (.slice (some ⟨R, 0, none⟩) n c) l.length (ivals l) := h
  unfold AL
  rw [List.length_set] at hn ⊢
  obtain ⟨hl, ⟨e, _⟩ | ⟨g, cap, cur, e, h1, hg, h2, h3, h4, h5⟩⟩ := h9
  · cases e
  · injection e with e1 e2 e3
    injection e1 with e1
    injection e1 with e1 _ _
    subst e1; subst e3
    have hi : ivals (l.set hk x) = (ivals l).set hk (.int .i64 x) := by unfold ivals; rw [List.map_set]
    refine ⟨by simp [ivals], Or.inr ⟨R, c, _, by rw [hn], h1, box_set hg hk (.int .i64 x), h2, h3, by simp [h4], ?_⟩⟩
    rw [hi, ← h5, Array.toList_setIfInBounds, List.take_set]
theorem OwnJ.keep {lo hi : Nat} {a : Option Addr} {l : List Int} {w w' : World} (h : OwnJ lo hi a l w) (g : Below hi w w') : OwnJ lo hi a l w' := by
  rcases h with h | ⟨R, off, pre, h1, h3, e, hp, hr⟩
  · exact Or.inl h
  · exact Or.inr ⟨R, off, pre, h1, h3, e, hp, hr.same g.size (g.block R h3)⟩
set_option maxHeartbeats 1000000 in
theorem drawPow_any (len cap : Nat) (a : Option Addr) (w : World) (hK : Code w.heap.size len cap a w) :
    Calls Try.prog 5 #[.slice a len cap] w fun e w' => ∃ (l : List Int) (b : Option Addr) (c : Nat) (n : Int), e = .returned (.tuple #[.slice b l.length c, .int .i64 n]) ∧ l.length ≤ 40 ∧ l.length ≤ c ∧ Is w'.heap.size b l w' ∧ Below w.heap.size w w' := by
  have HC : Hid (Cur w.heap.size 0 (.slice a len cap) (w.alloc (.cells #[.slice a len cap, .int .i64 0, .int .u64 0] 43))) := Cur.start _ _ _
  have HK : Hid (Code w.heap.size len cap a (w.alloc (.cells #[.slice a len cap, .int .i64 0, .int .u64 0] 43))) := hK.start _
  have hz : (w.alloc (.cells #[.slice a len cap, .int .i64 0, .int .u64 0] 43)).heap.size = w.heap.size + 1 := heap_size _ _
  have HD := hid (fun w' (h : But w.heap.size (w.alloc (.cells #[.slice a len cap, .int .i64 0, .int .u64 0] 43)) w') => But.done h)
  clear hK
  go_enter Try.func5, Try.ntmps5
  go_wp2_with fail
  generalize w.alloc (.cells #[.slice a len cap, .int .i64 0, .int .u64 0] 43) = w0 at *
  refine (set_any w.heap.size 0 len cap a _ (by omega) HC.out HK.out).mono ?_
  rintro e w2 ⟨v, l, rfl, hl, o2, hC2, hB2⟩
  have HC2 := hid hC2
  have HB2 := hid hB2
  have HO2 := hid o2
  have HK2 : Hid (Code w.heap.size len cap a w2) := HK.out.but hB2 (Nat.le_refl _) (by omega)
  have hs2 := hB2.size
  clear o2 hC2 hB2 HC
  go_wp2_with fail
  refine (pick_any _ w.heap.size _ len cap a _ (by omega) (by omega) (by omega) HC2.out HK2.out).mono ?_
  rintro e w3 ⟨x, rfl, x0, x1, hC3, hB3⟩
  have HB3 : Hid (Below w.heap.size w w3) := HD.out _ (HB2.out.trans hB3)
  obtain ⟨b, c, rfl, ho, hc⟩ := (HO2.out.but hB3 (by omega)).own
  have HI := hid ho.is
  clear ho hC3 hB3 HC2 HB2 HK2 HO2 HD
  go_wp2
  go_ret2
  exact ⟨l, b, c, _, rfl, hl, hc, HI.out, HB3.out⟩
set_option maxHeartbeats 1000000 in
theorem drawRoots_any (len cap : Nat) (a : Option Addr) (w : World) (hK : Code w.heap.size len cap a w) :
    Calls Try.prog 25 #[.slice a len cap] w fun e w' => ∃ (l : List Int) (b : Option Addr) (c : Nat), e = .returned (.slice b l.length c) ∧ l.length ≤ 4 ∧ l.length ≤ c ∧ Is w'.heap.size b l w' ∧ Below w.heap.size w w' := by
  have HC : Hid (Cur w.heap.size 0 (.slice a len cap) (w.alloc (.cells #[.slice a len cap, .int .i64 0, .int .u64 0] 43))) := Cur.start _ _ _
  have HK : Hid (Code w.heap.size len cap a (w.alloc (.cells #[.slice a len cap, .int .i64 0, .int .u64 0] 43))) := hK.start _
  have hz : (w.alloc (.cells #[.slice a len cap, .int .i64 0, .int .u64 0] 43)).heap.size = w.heap.size + 1 := heap_size _ _
  have HD := hid (fun w' (h : But w.heap.size (w.alloc (.cells #[.slice a len cap, .int .i64 0, .int .u64 0] 43)) w') => But.done h)
  clear hK
  go_enter Try.func25, Try.ntmps25
  go_wp2_with fail
  generalize w.alloc (.cells #[.slice a len cap, .int .i64 0, .int .u64 0] 43) = w0 at *
  refine (sums_any w.heap.size 0 len cap a _ (by omega) HC.out HK.out).mono ?_
  rintro e w2 ⟨b2, c2, l, rfl, hl, hc2, o2, hC2, hB2⟩
  have HC2 := hid hC2
  have HB2 := hid hB2
  have HO2 := hid o2
  have HK2 : Hid (Code w.heap.size len cap a w2) := HK.out.but hB2 (Nat.le_refl _) (by omega)
  have hs2 := hB2.size
  clear o2 hC2 hB2 HC
  have HI := hid HO2.out.is
  have HB3 : Hid (Below w.heap.size w w2) := HD.out _ HB2.out
  clear HC2 HB2 HK2 HO2 HD
  go_wp2
  go_ret
  exact ⟨l, b2, c2, rfl, hl, hc2, HI.out, HB3.out⟩
set_option maxHeartbeats 1000000 in
theorem drawValue_any (len cap : Nat) (a : Option Addr) (w : World) (hK : Code w.heap.size len cap a w) :
    Calls Try.prog 27 #[.slice a len cap] w fun e w' => ∃ (l : List Int) (b : Option Addr) (c : Nat) (n : Int), e = .returned (.tuple #[.slice b l.length c, .int .i64 n]) ∧ l.length ≤ 4 ∧ l.length ≤ c ∧ Is w'.heap.size b l w' ∧ Below w.heap.size w w' := by
  have HC : Hid (Cur w.heap.size 0 (.slice a len cap) (w.alloc (.cells #[.slice a len cap, .int .i64 0, .int .u64 0] 43))) := Cur.start _ _ _
  have HK : Hid (Code w.heap.size len cap a (w.alloc (.cells #[.slice a len cap, .int .i64 0, .int .u64 0] 43))) := hK.start _
  have hz : (w.alloc (.cells #[.slice a len cap, .int .i64 0, .int .u64 0] 43)).heap.size = w.heap.size + 1 := heap_size _ _
  have HD := hid (fun w' (h : But w.heap.size (w.alloc (.cells #[.slice a len cap, .int .i64 0, .int .u64 0] 43)) w') => But.done h)
  clear hK
  go_enter Try.func27, Try.ntmps27
  go_wp2_with fail
  generalize w.alloc (.cells #[.slice a len cap, .int .i64 0, .int .u64 0] 43) = w0 at *
  refine (sums_any w.heap.size 0 len cap a _ (by omega) HC.out HK.out).mono ?_
  rintro e w2 ⟨b2, c2, l, rfl, hl, hc2, o2, hC2, hB2⟩
  have HC2 := hid hC2
  have HB2 := hid hB2
  have HO2 := hid o2
  have HK2 : Hid (Code w.heap.size len cap a w2) := HK.out.but hB2 (Nat.le_refl _) (by omega)
  have hs2 := hB2.size
  clear o2 hC2 hB2 HC
  go_wp2_with fail
  refine (among_any [-1, 0, 1, 7, 60, 61] 6 w2.heap.size w.heap.size _ len cap 6 a _ rfl (by decide) (by decide) (by simp) (by omega) (fun i hi => lits_at [-1, 0, 1, 7, 60, 61] w2 i hi) (by omega) (HC2.out.alloc _) (HK2.out.but ((But.refl w.heap.size w2).alloc _) (Nat.le_refl _) (by omega))).mono ?_
  rintro e w3 ⟨i, _, rfl, hC3, hB3⟩
  have hb23 := ((But.refl w.heap.size w2).alloc (.cells #[.int .i64 (-1), .int .i64 0, .int .i64 1, .int .i64 7, .int .i64 60, .int .i64 61] 3)).trans hB3
  have HB3 : Hid (Below w.heap.size w w3) := HD.out _ (HB2.out.trans hb23)
  have HI := hid (HO2.out.but hb23 (by omega)).is
  clear hC3 hB3 HC2 HB2 HK2 HO2 HD hb23
  generalize ([-1, 0, 1, 7, 60, 61] : List Int).getD i 0 = z at *
  go_wp2
  go_ret2
  exact ⟨l, b2, c2, z, rfl, hl, hc2, HI.out, HB3.out⟩
set_option maxHeartbeats 2000000 in
theorem drawLess_any (len cap : Nat) (a : Option Addr) (w : World) (hK : Code w.heap.size len cap a w) :
    Calls Try.prog 16 #[.slice a len cap] w fun e w' => ∃ (l m : List Int) (b : Option Addr) (c : Nat) (p : Option Addr) (d : Nat), e = .returned (.tuple #[.slice b l.length c, .slice p m.length d]) ∧ l.length ≤ 4 ∧ m.length ≤ 5 ∧ Is w'.heap.size b l w' ∧ Is w'.heap.size p m w' ∧ Below w.heap.size w w' := by
  have HC : Hid (Cur w.heap.size 0 (.slice a len cap) (w.alloc (.cells #[.slice a len cap, .int .i64 0, .int .u64 0] 43))) := Cur.start _ _ _
  have HK : Hid (Code w.heap.size len cap a (w.alloc (.cells #[.slice a len cap, .int .i64 0, .int .u64 0] 43))) := hK.start _
  have hz : (w.alloc (.cells #[.slice a len cap, .int .i64 0, .int .u64 0] 43)).heap.size = w.heap.size + 1 := heap_size _ _
  have HD := hid (fun w' (h : But w.heap.size (w.alloc (.cells #[.slice a len cap, .int .i64 0, .int .u64 0] 43)) w') => But.done h)
  clear hK
  go_enter Try.func16, Try.ntmps16
  go_wp2_with fail
  generalize w.alloc (.cells #[.slice a len cap, .int .i64 0, .int .u64 0] 43) = w0 at *
  refine (sums_any w.heap.size 0 len cap a _ (by omega) HC.out HK.out).mono ?_
  rintro e w2 ⟨b2, c2, l, rfl, hl, hc2, o2, hC2, hB2⟩
  have HC2 := hid hC2
  have HB2 := hid hB2
  have HO2 := hid o2
  have HK2 : Hid (Code w.heap.size len cap a w2) := HK.out.but hB2 (Nat.le_refl _) (by omega)
  have hs2 := hB2.size
  clear o2 hC2 hB2 HC
  have hW1 := boxB w2 (.cells #[] 3)
  obtain ⟨v3, w3, r3, o3, g3, -⟩ := (AL.lit w2).app hW1.size b2 c2 l ((HO2.out.is.below hW1).mono hW1.size) (by simp; omega)
  have hg3 : Below w2.heap.size w2 w3 := hW1.trans g3
  rw [List.nil_append] at o3
  have HO3 := hid o3
  have HX3 := hid (HO2.out.below hg3)
  have HC3 := hid (HC2.out.on hg3 (by omega))
  have HB3 : Hid (But w.heap.size w0 w3) := HB2.out.on hg3 hs2
  have hs3 := hg3.size
  clear o3 g3 hg3 hW1 HC2 HB2 HK2 HO2
  obtain ⟨R3, c3, e5, hc3⟩ : ∃ R c, v3 = .slice R l.length c ∧ l.length ≤ c := by
    obtain ⟨b, c, e, _, hc⟩ := HO3.out.own
    exact ⟨b, c, e, hc⟩
  subst e5
  go_wp2_with (at_builtin; refine wpList_append_run rfl (.tmp 13) (.tmp 14) 23 rfl _ _ rfl rfl _ _ r3 ?_)
  go_loopw [18] (fun i wr => ∃ (k : Nat) (ys : List Int), k ≤ l.length ∧ i = .int .i64 k ∧ ys.length = l.length ∧ AL w2.heap.size (.slice R3 l.length c3) ys wr ∧ OwnJ w0.heap.size w2.heap.size b2 l wr ∧ Cur w.heap.size (300 + 2 * k) (.slice a len cap) wr ∧ But w.heap.size w0 wr ∧ w2.heap.size ≤ wr.heap.size) (fun i _ => l.length - (intOf i).toNat)
  case atStart => exact ⟨0, l, Nat.zero_le _, rfl, rfl, HO3.out, HX3.out, HC3.out.mono (by omega), HB3.out, hs3⟩
  case round =>
    clear HO3 HX3 HC3 HB3
    obtain ⟨k, ys, hk, rfl, hy, hown, hx, hcur, hbut, hs2r⟩ := hrel
    have HOWN := hid hown
    have HX := hid hx
    have HCUR := hid hcur
    have HBUT := hid hbut
    have HY := hid hy
    have HCODE : Hid (Code w.heap.size len cap a wr) := HK.out.but hbut (Nat.le_refl _) (by omega)
    have hszr := hbut.size
    clear hown hx hcur hbut hy
    by_cases hlt : k < l.length
    · have hky : k < ys.length := by rw [HY.out]; exact hlt
      obtain ⟨R, e6, hR⟩ : ∃ R, R3 = some ⟨R, 0, none⟩ ∧ w2.heap.size ≤ R := by
        rcases HOWN.out.form with ⟨_, e⟩ | ⟨R, c, e, hc, hR⟩
        · rw [e] at hky; exact absurd hky (Nat.not_lt_zero _)
        · injection e with e1 _ _
          exact ⟨R, e1, hR⟩
      subst e6
      have i1 : (k : Int) < (l.length : Int) := by omega
      go_wp2_with fail
      refine (pick_any _ w.heap.size _ len cap a _ (by omega) (by omega) (by omega) HCUR.out HCODE.out).mono ?_
      rintro e w6 ⟨x, rfl, x0, x1, hC6, hB6⟩
      have o6 := HOWN.out.but hB6 (by omega)
      have hy2 : (ys.set k x).length = l.length := by rw [List.length_set]; exact HY.out
      obtain ⟨R2, c2', e2, hR2, hrow, _⟩ := own_irow o6 (by omega)
      injection e2 with e2 e8 e9
      clear e8 e9
      injection e2 with e2
      injection e2 with e2 _ _
      subst e2
      have y0 := hrow.cell k hky
      have f0 := hrow.free k hky
      have HS6 := hid (o6.setK k x hy2)
      have g6 : Below w2.heap.size w6 (w6.setCell ⟨R, k, none⟩ (.int .i64 x)) := setB (Below.refl _ _) R k hR _
      have hx6 := HX.out.but hB6 (by omega)
      have HX6 : Hid (OwnJ w0.heap.size w2.heap.size b2 l (w6.setCell ⟨R, k, none⟩ (.int .i64 x))) := hx6.keep g6
      have HC6 := hid (hC6.on g6 (by omega))
      have HB6 : Hid (But w.heap.size w0 (w6.setCell ⟨R, k, none⟩ (.int .i64 x))) := (HBUT.out.trans hB6).on g6 hs2
      have HY2 := hid hy2
      have hs6r : w2.heap.size ≤ (w6.setCell ⟨R, k, none⟩ (.int .i64 x)).heap.size := by have := hB6.size; simp; omega
      have HS6R := hid hs6r
      clear hs6r
      clear hC6 hB6 o6 hrow g6 hx6 hy2 HOWN HX HCUR HBUT HCODE HY
      generalize ys[k] = yk at *
      clear hky
      go_wp2_with fail
      go_roundw
      case rel =>
       exact ⟨k + 1, ys.set k x, by omega, by go_num, HY2.out, HS6.out, HX6.out, HC6.out.mono (by omega), HB6.out, HS6R.out⟩
      case measure => simp [intOf]; omega
    · obtain rfl : k = l.length := by omega
      go_wp2_with fail
      refine (one_any _ w.heap.size _ len cap a _ (by omega) (by omega) (by omega) HCUR.out HCODE.out).mono ?_
      rintro e w6 ⟨v6, rfl, hC6, hB6⟩
      have hs6 := hB6.size
      have o6 := HOWN.out.but hB6 (by omega)
      have x6 := HX.out.but hB6 (by omega)
      have HB6 := hid (HBUT.out.trans hB6)
      cases v6
      · have HI := hid x6.is
        obtain ⟨b7, c7, e7, ho7, _⟩ := o6.own
        injection e7 with e7 e8 e9
        clear e8 e9
        subst e7
        have HI7 := hid ho7.is
        have HBB := hid (HD.out _ HB6.out)
        clear hC6 hB6 o6 x6 ho7
        go_wp2
        go_ret2
        exact ⟨l, ys, b2, c2, R3, c3, by rw [HY.out]; rfl, hl, by rw [HY.out]; omega, HI.out, HI7.out, HBB.out⟩
      · obtain ⟨v7, w7, r7, o7, g7, -⟩ := o6.push (by omega) 1 (by rw [HY.out]; omega)
        have hbb := HB6.out.on g7 (by omega)
        have x7 := x6.keep g7
        have HI := hid x7.is
        obtain ⟨b7, c7, e7, ho7, _⟩ := o7.own
        subst e7
        have HI7 := hid ho7.is
        have HBB := hid (HD.out _ hbb)
        clear hC6 hB6 o6 x6 o7 g7 hbb x7 ho7 HOWN HX HCUR HBUT HCODE
        go_wp2_with (at_builtin; refine wpList_append_run rfl (.tmp 29) (.tmp 30) 23 rfl _ _ rfl rfl _ _ r7 ?_)
        go_ret2
        exact ⟨l, ys ++ [1], b2, c2, b7, c7, by rw [List.length_append]; rfl, hl, by rw [List.length_append, HY.out]; simp; omega, HI.out, HI7.out, HBB.out⟩
end Go.Proofs.Ytipeillhafcliaa
