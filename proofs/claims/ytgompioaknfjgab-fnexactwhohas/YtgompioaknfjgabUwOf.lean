/- The program's openFrom. -/
import Derived.Test.YtgompioaknfjgabUwBk
namespace Go.Proofs.Ytgompioaknfjgab
set_option maxRecDepth 100000
open Go Go.ChangeShapes Go.WideShapes Go.ChangeAt Go.RowKit Go.Shelf
attribute [local go_sem] Oper.semAt_some
set_option maxHeartbeats 8000000 in
theorem openFrom_in (F : Fence) (n : Nat) (h3 : F.fn 36) (hFb : F.fn 40) (hFg : F.fn 42) (hro : F.round = none) (hn : 6 ≤ n) (a : Option Addr) (cap : Nat) (S : List Nt) (who : Int) (w : World) (hlen : S.length ≤ 1048576) (hG : Nts w.heap.size a S w) :
    CallsIn F n Try.prog 36 #[.slice a S.length cap, .int .i64 who] w fun e W' => e = .returned (.tuple #[.int .i64 (fromI S who : Int), .bool (isO S who)]) ∧ Below w.heap.size w W' := by
  have h1 : 1 ≤ n := by omega
  have HG := hid hG
  clear hG
  obtain ⟨N0, EN⟩ : ∃ N0 : Int, Hid (((fromI S who : Nat) : Int) = N0) := ⟨_, rfl⟩
  obtain ⟨O0, EO⟩ : ∃ O0 : Bool, Hid (isO S who = O0) := ⟨_, rfl⟩
  rw [show ((fromI S who : Nat) : Int) = N0 from EN.out, show isO S who = O0 from EO.out]
  refine callsIn_of_wp_marks Try.func36 rfl h3 ?_ hro
  simp only [Try.ntmps36, List.size_toArray, List.length_cons, List.length_nil, Nat.reduceAdd, Nat.reduceSub, Array.replicate_succ, Array.replicate_zero, List.push_toArray, List.append_toArray, List.nil_append, List.cons_append]
  have HBN : Hid (∀ v, CallsIn F (n - 1) Try.prog 40 #[.slice a S.length cap] v fun e w' => e = .returned (.func (.func 42) #[] #[.pointer (some ⟨v.heap.size, 0, none⟩)]) ∧ w' = v.alloc (.cells #[.slice a S.length cap] 29)) := fun v => by
    refine callsIn_of_wp Try.func40 rfl hFb ?_ hro
    simp only [Try.ntmps40, List.size_toArray, List.length_cons, List.length_nil, Nat.reduceAdd, Nat.reduceSub, Array.replicate_succ, Array.replicate_zero, List.push_toArray, List.append_toArray, List.nil_append, List.cons_append]
    gi_wp2
    refine bodyPost_ret (results_tmp rfl _ _ _) rfl ⟨rfl, rfl⟩
  gi_wp2_with (gi_at_call 40; refine (HBN.out _).mono ?_; rintro e w2 ⟨rfl, hw2⟩)
  clear HBN
  have bA := Boxed.new w 3 (.int .i64 who)
  have bB := Boxed.new (w.alloc (.cells #[.int .i64 who] 3)) 3 (.int .i64 0)
  have bC := Boxed.new ((w.alloc (.cells #[.int .i64 who] 3)).alloc (.cells #[.int .i64 0] 3)) 4 (.bool false)
  have bD := Boxed.new (((w.alloc (.cells #[.int .i64 who] 3)).alloc (.cells #[.int .i64 0] 3)).alloc (.cells #[.bool false] 4)) 29 (.slice a S.length cap)
  have bA := ((bA.alloc (.cells #[.int .i64 0] 3)).alloc (.cells #[.bool false] 4)).alloc (.cells #[.slice a S.length cap] 29)
  have bB := (bB.alloc (.cells #[.bool false] 4)).alloc (.cells #[.slice a S.length cap] 29)
  have bC := bC.alloc (.cells #[.slice a S.length cap] 29)
  have hB0 : Below w.heap.size w ((((w.alloc (.cells #[.int .i64 who] 3)).alloc (.cells #[.int .i64 0] 3)).alloc (.cells #[.bool false] 4)).alloc (.cells #[.slice a S.length cap] 29)) := ((((Below.refl _ w).alloc (Nat.le_refl _) _).alloc (by simp) _).alloc (by simp; omega) _).alloc (by simp; omega) _
  have hsz : ((((w.alloc (.cells #[.int .i64 who] 3)).alloc (.cells #[.int .i64 0] 3)).alloc (.cells #[.bool false] 4)).alloc (.cells #[.slice a S.length cap] 29)).heap.size = w.heap.size + 4 := by simp
  simp only [World.size_alloc] at bA bB bC bD hw2 ⊢
  rw [← hw2] at bA bB bC bD hB0 hsz ⊢
  clear hw2
  refine wpIn_rangeFunc_ownH hro h1 (gf := 42) (lb := #[.pointer (some ⟨w.heap.size + 1 + 1 + 1, 0, none⟩)]) rfl hFg (enters_of Try.func42 (by kernel_rfl) rfl) (back_stops F (n - 1) hFg hro (by omega) (w.heap.size + 1 + 1 + 1) (w.heap.size + 4) cap a S w2 hlen (by omega) (by omega) bD.cell ((HG.out.below hB0).mono (by omega))) belowK_t (belowK_b (by omega)) (Below.refl _ _) (fun _ => rfl)
    (fun pre W => NoM S who pre ∧ Boxed W w.heap.size 3 (.int .i64 who) ∧ (∃ u, Boxed W (w.heap.size + 1) 3 u) ∧ (∃ u, Boxed W (w.heap.size + 1 + 1) 4 u) ∧ Boxed W (w.heap.size + 1 + 1 + 1) 29 (.slice a S.length cap) ∧ Below w.heap.size w W)
    (fun c pre W => c = .ret ∧ (∃ init x, pre = init ++ [x] ∧ NoM S who init ∧ matchN who S[x.1] = true ∧ Boxed W (w.heap.size + 1) 3 (.int .i64 (x.1 : Int)) ∧ Boxed W (w.heap.size + 1 + 1) 4 (.bool (decide (S[x.1].kd = 1)))) ∧ Below w.heap.size w W) ?hI ?hIx ?h0
    (fun k a' W => ∃ Bx, w.heap.size + 3 < Bx ∧ W.heap[Bx]? = some (.cells #[.int .i64 S[k.1].kd, .int .i64 S[k.1].wh, .int .i64 S[k.1].cl, .int .i64 S[k.1].ws, .int .i64 S[k.1].is] 47 (0, 0)) ∧ a' = { tmps := #[.slice a S.length cap, .int .i64 who, undef, .pointer (some ⟨w.heap.size, 0, none⟩), .pointer (some ⟨w.heap.size + 1, 0, none⟩), .pointer (some ⟨w.heap.size + 1 + 1, 0, none⟩), .int .i64 (k.1 : Int), .pointer (some ⟨Bx, 0, none⟩), .slice a S.length cap, .func (.func 42) #[] #[.pointer (some ⟨w.heap.size + 1 + 1 + 1, 0, none⟩)], .int .i64 (k.1 : Int), nv S k, undef, undef, undef, undef, undef, undef, undef, undef, undef, undef, undef, undef, undef], defers := [] })
    ?hAx ?assign ?body ?done ?stop
  case hI =>
    intro pre X Y row hs hg hr
    obtain ⟨h1, h2, ⟨u, h3⟩, ⟨u', h4⟩, h6, h5⟩ := hs
    have hne : ∀ {B t v}, Boxed X B t v → Boxed Y B t v := fun hb => hb.kept hg (fun e => by obtain ⟨o, g1, g2⟩ := (hr _ e.symm).2; rw [show X.heap[_]? = _ from hb] at g1; cases g1; cases g2)
    exact ⟨h1, hne h2, ⟨u, hne h3⟩, ⟨u', hne h4⟩, hne h6, h5.grown hg (by have := h5.size; omega) (fun k e => by have := (hr _ e).1; omega)⟩
  case hIx =>
    intro c pre X Y row hs hg hr
    obtain ⟨h1, ⟨init, x, h2, h3, h4, h5, h6⟩, h7⟩ := hs
    have hne : ∀ {B t v}, Boxed X B t v → Boxed Y B t v := fun hb => hb.kept hg (fun e => by obtain ⟨o, g1, g2⟩ := (hr _ e.symm).2; rw [show X.heap[_]? = _ from hb] at g1; cases g1; cases g2)
    exact ⟨h1, ⟨init, x, h2, h3, h4, hne h5, hne h6⟩, h7.grown hg (by have := h7.size; omega) (fun k e => by have := (hr _ e).1; omega)⟩
  case h0 => exact ⟨fun _ h => absurd h (by simp), bA, ⟨_, bB⟩, ⟨_, bC⟩, bD, hB0⟩
  case hAx =>
    intro x a' _ X Y row hs hg hr
    obtain ⟨Bx, h1, h2, h3⟩ := hs
    have hlt : Bx < X.heap.size := (Array.getElem?_eq_some_iff.1 h2).1
    exact ⟨Bx, h1, (hg.block Bx hlt (fun e => by obtain ⟨o, g1, g2⟩ := (hr _ e.symm).2; rw [h2] at g1; cases g1; cases g2)).trans h2, h3⟩
  case assign =>
    rintro l pre x W K ⟨i1, i2, ⟨u3, i3⟩, ⟨u4, i4⟩, i6, i5⟩ hK
    have hlw : nv S x = .agg #[.int .i64 S[x.1].kd, .int .i64 S[x.1].wh, .int .i64 S[x.1].cl, .int .i64 S[x.1].ws, .int .i64 S[x.1].is] := rfl
    have hs4 : w.heap.size + 3 < W.heap.size := i6.lt
    rw [hlw]
    gi_wp2
    exact hK _ _ ((KeepsOthers.alloc _ _).from _) ((Below.refl _ W).alloc (by omega) _) ⟨i1, i2.alloc _, ⟨u3, i3.alloc _⟩, ⟨u4, i4.alloc _⟩, i6.alloc _, i5.alloc (by omega) _⟩ ⟨W.heap.size, hs4, World.alloc_heap_new W _, rfl⟩
  case done =>
    rintro D ys W hD rfl ⟨i1, i2, ⟨u3, i3⟩, ⟨u4, i4⟩, i6, i5⟩ hK
    obtain ⟨e1, e2⟩ := from_none (lastN_none i1)
    have EN0 : Hid (N0 = 0) := by show N0 = 0; rw [← EN.out, e1]; rfl
    have EO0 : Hid (O0 = false) := by show O0 = false; rw [← EO.out, e2]
    clear e1 e2
    have c3 := i3.cell
    have c4 := i4.cell
    have f3 := i3.frozen
    have f4 := i4.frozen
    have hne : D ≠ w.heap.size + 1 ∧ D ≠ w.heap.size + 1 + 1 := ⟨by omega, by omega⟩
    have hK2 : ((W.setCell ⟨w.heap.size + 1, 0, none⟩ (.int .i64 0)).setCell ⟨w.heap.size + 1 + 1, 0, none⟩ (.bool false)).heap[D]? = some (.deferred (some [])) := (keepB _ _ _ _ _ hne.2).trans ((keepB _ _ _ _ _ hne.1).trans hK)
    have b3 : Boxed ((W.setCell ⟨w.heap.size + 1, 0, none⟩ (.int .i64 0)).setCell ⟨w.heap.size + 1 + 1, 0, none⟩ (.bool false)) (w.heap.size + 1) 3 (.int .i64 0) := (i3.set _).other (by omega) _
    have b4 : Boxed ((W.setCell ⟨w.heap.size + 1, 0, none⟩ (.int .i64 0)).setCell ⟨w.heap.size + 1 + 1, 0, none⟩ (.bool false)) (w.heap.size + 1 + 1) 4 (.bool false) := (i4.other (by omega) _).set _
    have hbb : Below w.heap.size w ((W.setCell ⟨w.heap.size + 1, 0, none⟩ (.int .i64 0)).setCell ⟨w.heap.size + 1 + 1, 0, none⟩ (.bool false)) := setB (setB i5 _ _ (by omega) _) _ _ (by omega) _
    gi_wp2
    generalize ((W.setCell ⟨w.heap.size + 1, 0, none⟩ (.int .i64 0)).setCell ⟨w.heap.size + 1 + 1, 0, none⟩ (.bool false)) = W9 at *
    refine ⟨by simp, .inl ⟨_, _, rfl, run_takeDeferred hK2, ?_⟩⟩
    have q3 : Boxed (W9.putObj D (.deferred none)) (w.heap.size + 1) 3 (.int .i64 0) := (World.putObj_heap_other (by omega)).trans b3
    have q4 : Boxed (W9.putObj D (.deferred none)) (w.heap.size + 1 + 1) 4 (.bool false) := (World.putObj_heap_other (by omega)).trans b4
    have q5 := q3.cell
    have q6 := q4.cell
    exact ⟨_, by simp [results, Try.results36, go_sem, q5, q6]; rfl, by rw [EN0.out, EO0.out], hbb.trans (belowK_b (w := w) (Nat.le_refl _) W9 D _ _ (by omega) hK2 rfl rfl)⟩
  case stop =>
    rintro D c pre W hD ⟨k, hk, rfl⟩ ⟨rfl, ⟨init, x, h2, h3, h4, h5, h6⟩, h7⟩ hK
    obtain ⟨e1, e2⟩ := from_some x.2 (lastN_some hk h2 h3 h4)
    have EN0 : Hid (N0 = (x.1 : Int)) := by show N0 = _; rw [← EN.out, e1]
    have EO0 : Hid (O0 = decide (S[x.1].kd = 1)) := by show O0 = _; rw [← EO.out, e2]
    clear e1 e2
    generalize decide (S[x.1].kd = 1) = dd at *
    have c3 := h5.cell
    have c4 := h6.cell
    gi_wp2
    refine ⟨by simp, .inl ⟨_, _, rfl, run_takeDeferred hK, ?_⟩⟩
    have q3 : Boxed (W.putObj D (.deferred none)) (w.heap.size + 1) 3 (.int .i64 (x.1 : Int)) := (World.putObj_heap_other (by omega)).trans h5
    have q4 : Boxed (W.putObj D (.deferred none)) (w.heap.size + 1 + 1) 4 (.bool dd) := (World.putObj_heap_other (by omega)).trans h6
    have q5 := q3.cell
    have q6 := q4.cell
    exact ⟨_, by simp [results, Try.results36, go_sem, q5, q6]; rfl, by rw [EN0.out, EO0.out], h7.trans (belowK_b (w := w) (Nat.le_refl _) W D _ _ (by omega) hK rfl rfl)⟩
  case body =>
    rintro l pre x a' W hl _ ⟨i1, i2, ⟨u3, i3⟩, ⟨u4, i4⟩, i6, i5⟩ ⟨Bx, hBx, hX, rfl⟩ hlt
    have x0 := box_cell hX 0
    have x1 := box_cell hX 1
    have cw := i2.cell
    have c3 := i3.cell
    have c4 := i4.cell
    have f3 := i3.frozen
    have f4 := i4.frozen
    have hlw : nv S x = .agg #[.int .i64 S[x.1].kd, .int .i64 S[x.1].wh, .int .i64 S[x.1].cl, .int .i64 S[x.1].ws, .int .i64 S[x.1].is] := rfl
    rw [hlw]
    have HNO : Hid (matchN who S[x.1] = false → NoM S who (pre ++ [x])) := fun h y hy => by
      rcases List.mem_append.1 hy with h' | h'
      · exact i1 y h'
      · obtain rfl : y = x := by simpa using h'
        exact h
    have HYES : Hid (matchN who S[x.1] = (decide (S[x.1].wh = who) && !decide (S[x.1].kd = 2))) := rfl
    have HI1 := hid i1
    clear hlw i1
    generalize hmm : matchN who S[x.1] = mm at *
    have HMM : Hid (matchN who S[x.1] = mm) := hmm
    clear hmm
    generalize hp0 : S[x.1].kd = p0 at *
    generalize S[x.1].wh = p1 at *
    generalize S[x.1].cl = p2 at *
    generalize S[x.1].ws = p3 at *
    generalize S[x.1].is = p4 at *
    have HX := hid hX
    have HI : Hid (Boxed W w.heap.size 3 (.int .i64 who) ∧ (∃ u, Boxed W (w.heap.size + 1) 3 u) ∧ (∃ u, Boxed W (w.heap.size + 1 + 1) 4 u) ∧ Boxed W (w.heap.size + 1 + 1 + 1) 29 (.slice a S.length cap) ∧ Below w.heap.size w W) := ⟨i2, ⟨u3, i3⟩, ⟨u4, i4⟩, i6, i5⟩
    have H3 := hid i3
    have H4 := hid i4
    have H5 := hid i5
    clear hX i2 i3 i4 i6 i5
    by_cases hw : p1 = who
    case neg =>
      have e1 : (p1 == who) = false := beq_eq_false_iff_ne.2 hw
      have e2 : decide (p1 = who) = false := decide_eq_false hw
      have HN : Hid (NoM S who (pre ++ [x])) := HNO.out (by rw [HYES.out, e2]; rfl)
      clear hw HNO HYES hp0
      gi_wp2
      exact ⟨KeepsFrom.refl _ _, Below.refl _ _, HN.out, HI.out⟩
    have e1 : (p1 == who) = true := beq_iff_eq.2 hw
    have e2 : decide (p1 = who) = true := decide_eq_true hw
    by_cases hk : p0 = 2
    · have e3 : (p0 != 2) = false := by simp [hk]
      have e4 : decide (p0 = 2) = true := decide_eq_true hk
      have HN : Hid (NoM S who (pre ++ [x])) := HNO.out (by rw [HYES.out, e2, e4]; rfl)
      clear hw HNO HYES hp0 hk
      gi_wp2
      exact ⟨KeepsFrom.refl _ _, Below.refl _ _, HN.out, HI.out⟩
    have e3 : (p0 != 2) = true := by simp [hk]
    have e4 : decide (p0 = 2) = false := decide_eq_false hk
    have HM : Hid (matchN who S[x.1] = true) := by show matchN who S[x.1] = true; rw [HMM.out, HYES.out, e2, e4]; rfl
    have HD : Hid (p0 = S[x.1].kd) := hp0.symm
    clear hw HNO HYES hp0 hk e2 e4
    gi_wp2
    refine wpIn_mono (Q := fun e a' W' => e = .normal ∧ W' = ((W.drew.setCell ⟨w.heap.size + 1, 0, none⟩ (.int .i64 (x.1 : Int))).setCell ⟨w.heap.size + 1 + 1, 0, none⟩ (.bool (decide (p0 = 1))))) ?_ ?_
    · gi_region
      all_goals exact ⟨rfl, rfl⟩
    rintro e a' W' ⟨rfl, hW'⟩
    have b3 : Boxed W' (w.heap.size + 1) 3 (.int .i64 (x.1 : Int)) := by rw [hW']; exact ((show Boxed W.drew _ _ _ from H3.out).set _).other (by omega) _
    have b4 : Boxed W' (w.heap.size + 1 + 1) 4 (.bool (decide (p0 = 1))) := by rw [hW']; exact ((show Boxed W.drew _ _ _ from H4.out).other (by omega) _).set _
    have hbb : Below w.heap.size w W' := by rw [hW']; exact setB (setB H5.out.drew _ _ (by omega) _) _ _ (by omega) _
    have hkf : KeepsFrom w2.heap.size W W' := by
      rw [hW']
      exact (((KeepsOthers.drew _).from _).trans (KeepsFrom.of_grownBy (grownBy_setCell' _ _ _) (fun j e => by cases e; omega))).trans (KeepsFrom.of_grownBy (grownBy_setCell' _ _ _) (fun j e => by cases e; omega))
    rw [HD.out] at b4
    clear hW'
    gi_wp2
    exact ⟨hkf, rfl, ⟨pre, x, rfl, HI1.out, HM.out, b3, b4⟩, hbb⟩
theorem openFrom_any (a : Option Addr) (cap : Nat) (S : List Nt) (who : Int) (w : World) (hlen : S.length ≤ 1048576) (hG : Nts w.heap.size a S w) :
    Calls Try.prog 36 #[.slice a S.length cap, .int .i64 who] w fun e W' => e = .returned (.tuple #[.int .i64 (fromI S who : Int), .bool (isO S who)]) ∧ Below w.heap.size w W' :=
  (callsIn_wide (n := 6)).1 (openFrom_in Fence.wide 6 trivial trivial trivial rfl (by omega) a cap S who w hlen hG)
end Go.Proofs.Ytgompioaknfjgab
