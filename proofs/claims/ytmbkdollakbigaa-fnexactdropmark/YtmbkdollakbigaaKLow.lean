/- The program's layerOf: its walk. -/
import Derived.Test.YtmbkdollakbigaaKLof
namespace Go.Proofs.Ytmbkdollakbigaa
set_option maxRecDepth 100000
open Go Go.ChangeShapes Go.WideShapes Go.ChangeAt Go.RowKit Go.Shelf Go.Maps Go.Sort
attribute [local go_sem] Oper.semAt_some
attribute [-go_sem] Builtin.append_
theorem Lz.on {w : World} {mark : Int} {bl : List Int} {dt : List ByteArray} {vb vd : Value} {X Y : World} (h : Lz w mark bl dt vb vd X) (g : Below X.heap.size X Y) : Lz w mark bl dt vb vd Y :=
  h.grown (row := none) ⟨g.os, g.tape, g.output, g.size, fun k hk _ => g.block k hk⟩ (fun r e => by cases e)
theorem Below.others {W W' : World} (g : Below W.heap.size W W') : KeepsOthers W W' := ⟨g.size, fun k _ hk _ => (g.block k (Array.getElem?_eq_some_iff.1 hk).1).trans hk⟩
/-- an append whose run is known, within a fence -/
theorem wpListIn_append_runK {F : Fence} {n : Nat} {P : Program} {ops : Array Oper} {rest : List Oper} {o : Oper} {a : Act} {w : World} {Q : Exit → Act → World → Prop}
    (hg : o.guard = none) (s x : Operand) (t : TypeId) (hop : o.op = Op.call { callee := Callee.builtin Builtin.append, args := #[s, x], argTypes := #[t, t] })
    (v y : Value) (hs : a.eval s = v) (hx : a.eval x = y) (v' : Value) (w' : World) (hrun : ∀ ty, (Builtin.append_ #[t, t] ty #[v, y]).run P w = .ok v' w') (h : wpListIn F n P ops Q rest (a.put o.dst v') w') :
    wpListIn F n P ops Q (o :: rest) a w := by
  refine wpListIn_plain hg fun K hK => ?_
  unfold Oper.wpIn
  refine ⟨?_, ?_⟩
  · simp [Oper.about, hop, resolve, Target.leads, Sem.run_pure]
  · rw [Oper.semAt_plain F _ _ (by rw [hop]; intro c hc'; cases hc')]
    simp [execOp, hop, resolve, invoke, builtin, hs, hx, hrun, Result.andThen]
    exact hK _ _ h
set_option maxHeartbeats 8000000 in
theorem layerOf_any (M N NN : Nat) (D : DataW Unit) (T : Int → ByteArray) (mark : Int) (w : World) (hown : w.ownsMap Try.prog 3 keptE M N D) (hT : Tells7 D T) (hsz : Maps.size D ≤ NN) (hNN : NN ≤ 8000) (hTs : ∀ x, (T x).size ≤ 1048576) :
    Calls Try.prog 38 #[.int .i64 mark, .map (some M)] w fun e w' => ∃ vb vd, e = .returned (.agg #[.int .i64 mark, vb, vd]) ∧ w'.ownsRow w.heap.size 3 1 vb (sortN (intKeys D)).length (ivals (sortN (intKeys D))) ∧ w'.ownsRow w.heap.size 9 1 vd (sortN (intKeys D)).length (svals ((sortN (intKeys D)).map T)) ∧ (∀ g, vb.ownBlock = some g → vd.ownBlock ≠ some g) ∧ Below w.heap.size w w' := by
  have hMl := hown.lt
  have HOWN := hid hown
  have HT := hid hT
  have HTS := hid hTs
  obtain ⟨L, hL⟩ : ∃ L, L = sortN (intKeys D) := ⟨_, rfl⟩
  rw [← hL]
  have HL := hid hL
  clear hown hT hTs hL
  refine (callsIn_wide (n := 6)).1 ?_
  have hro : Fence.wide.round = none := rfl
  have hF1 : Fence.wide.fn 28 := trivial
  have hF2 : Fence.wide.fn 56 := trivial
  have hmix : Try.prog.follows .mixedOrders = true := by kernel_rfl
  refine callsIn_of_wp_marks Try.func38 rfl trivial ?_ hro
  simp only [Try.ntmps38, List.size_toArray, List.length_cons, List.length_nil, Nat.reduceAdd, Nat.reduceSub, Array.replicate_succ, Array.replicate_zero, List.push_toArray, List.append_toArray, List.nil_append, List.cons_append]
  have HIO : Hid (∀ v m, CallsIn Fence.wide m Try.prog 28 #[.map (some M)] v fun e w' => e = .returned (.func (.func 49) #[] #[.pointer (some ⟨v.heap.size, 0, none⟩)]) ∧ w' = v.alloc (.cells #[.map (some M)] 46)) := fun v m => callsIn_wide.2 (inOrder_any M v)
  gi_wp2_with (gi_at_call 28; refine (HIO.out _ _).mono ?_; rintro e w2 ⟨rfl, hw2⟩)
  clear HIO
  have bR : (w.alloc (.cells #[.int .i64 0, .slice none 0 0, .slice none 0 0] 64)).heap[w.heap.size]? = some (.cells #[.int .i64 0, .slice none 0 0, .slice none 0 0] 64 (0, 0)) := World.alloc_heap_new w _
  have hs1 : (w.alloc (.cells #[.int .i64 0, .slice none 0 0, .slice none 0 0] 64)).heap.size = w.heap.size + 1 := heap_size _ _
  have hb1 := boxB w (.cells #[.int .i64 0, .slice none 0 0, .slice none 0 0] 64)
  obtain ⟨wa, hwa⟩ : ∃ wa, wa = w.alloc (.cells #[.int .i64 0, .slice none 0 0, .slice none 0 0] 64) := ⟨_, rfl⟩
  rw [← hwa] at bR hs1 hb1 hw2 ⊢
  have bZ : (wa.alloc (.cells #[.int .i64 mark, .slice none 0 0, .slice none 0 0] 64)).heap[wa.heap.size]? = some (.cells #[.int .i64 mark, .slice none 0 0, .slice none 0 0] 64 (0, 0)) := World.alloc_heap_new wa _
  have hs2 : (wa.alloc (.cells #[.int .i64 mark, .slice none 0 0, .slice none 0 0] 64)).heap.size = wa.heap.size + 1 := heap_size _ _
  have hb2 := boxB wa (.cells #[.int .i64 mark, .slice none 0 0, .slice none 0 0] 64)
  obtain ⟨wb, hwb⟩ : ∃ wb, wb = wa.alloc (.cells #[.int .i64 mark, .slice none 0 0, .slice none 0 0] 64) := ⟨_, rfl⟩
  rw [← hwb] at bZ hs2 hb2 hw2 ⊢
  have bM := Boxed.new wb 46 (.map (some M))
  have hs3 : (wb.alloc (.cells #[.map (some M)] 46)).heap.size = wb.heap.size + 1 := heap_size _ _
  have hb3 := boxB wb (.cells #[.map (some M)] 46)
  have HLz : Hid (Lz w mark [] [] (.slice none 0 0) (.slice none 0 0) w2) := by
    show Lz w mark [] [] (.slice none 0 0) (.slice none 0 0) w2
    rw [hw2]
    have hbb : Below w.heap.size w (wb.alloc (.cells #[.map (some M)] 46)) := (hb1.trans (hb2.mono hb1.size)).trans (hb3.mono (by omega))
    refine ⟨?_, World.ownsRow_nil _ _ _ _, World.ownsRow_nil _ _ _ _, fun g h => (by cases h), ?_, hbb, by omega⟩
    · rw [hs1] at bZ
      exact (hb3.block _ (by omega)).trans bZ
    · exact (hb3.block _ (by omega)).trans ((hb2.block _ (by omega)).trans bR)
  rw [← hw2] at bM hs3 hb3 ⊢
  have hsz2 : w2.heap.size = w.heap.size + 3 := by omega
  have hwbs : wb.heap.size = w.heap.size + 2 := by omega
  rw [hwbs] at bM
  have HB2 := hid HLz.out.bel
  have HNR : Hid (∀ k, ¬ rowIn w2 (w.heap.size + 1) k) := fun k hr => by
    rcases row_box HLz.out.z rfl hr with h | h <;> cases h
  have hown2 := ownsMap_sameK HOWN.out (HB2.out.block M hMl)
  refine wpIn_rangeFunc_ownG hro (by omega) (gf := 49) (lb := #[.pointer (some ⟨w.heap.size + 2, 0, none⟩)]) rfl trivial (enters_of Try.func49 (by kernel_rfl) rfl)
    (inOrd_stops (6 - 1) (by omega) (w.heap.size + 2) M N (w.heap.size + 1) w.heap.size NN D T w2 bM.cell hown2 HT.out hsz (by omega) hMl (by omega) (by omega) (by omega) HNR.out)
    KpZ.trans (KpZ.putObj (by omega) (by omega)) (Below.refl _ _) (fun _ => rfl)
    (fun pre W => ∃ vb vd, Lz w mark pre (pre.map T) vb vd W)
    (fun _ _ _ => False) ?hI (fun _ _ _ _ _ hs _ _ => hs) ⟨_, _, HLz.out⟩
    (fun x => { tmps := #[.int .i64 mark, .map (some M), undef, undef, .pointer (some ⟨w.heap.size, 0, none⟩), .pointer (some ⟨w.heap.size + 1, 0, none⟩), .int .i64 x, .string (T x), .int .i64 mark, .agg #[.int .i64 mark, .slice none 0 0, .slice none 0 0], .map (some M), .func (.func 49) #[] #[.pointer (some ⟨w.heap.size + 2, 0, none⟩)], .int .i64 x, .string (T x), undef, undef, undef, undef, undef, undef, undef, undef, undef, undef, undef, undef, undef, undef], defers := [] })
    ?assign ?body ?done ?stop
  case hI =>
    rintro pre X Y row ⟨vb, vd, h⟩ hg hr
    exact ⟨vb, vd, h.grown hg (fun r e => ⟨by have := (hr r e).1; omega, (hr r e).2⟩)⟩
  case assign =>
    intro l x W K hK
    gi_wp2
    exact hK
  case done =>
    rintro D' ys W hD hys ⟨vb, vd, h⟩ hK
    obtain rfl : ys = L := hys.trans HL.out.symm
    clear hys
    obtain ⟨a1, c1, e1⟩ := rw_form h.a
    have hbL : W.ownsRow (w.heap.size + 3) 9 1 vd ys.length (svals (ys.map T)) := by simpa using h.b
    obtain ⟨a2, c2, e2⟩ := rw_form hbL
    subst e1 e2
    have z0 : W.cell? ⟨w.heap.size + 1, 0, none⟩ = some (.int .i64 mark) := box_cell h.z 0
    have z1 : W.cell? ⟨w.heap.size + 1, 1, none⟩ = some (.slice a1 ys.length c1) := box_cell h.z 1
    have z2 : W.cell? ⟨w.heap.size + 1, 2, none⟩ = some (.slice a2 ys.length c2) := box_cell h.z 2
    have r0 : W.cell? ⟨w.heap.size, 0, none⟩ = some (.int .i64 0) := box_cell h.r 0
    have r1 : W.cell? ⟨w.heap.size, 1, none⟩ = some (.slice none 0 0) := box_cell h.r 1
    have r2 : W.cell? ⟨w.heap.size, 2, none⟩ = some (.slice none 0 0) := box_cell h.r 2
    have f0 := box_free h.r 0
    have f1 := box_free h.r 1
    have f2 := box_free h.r 2
    have hne : D' ≠ w.heap.size := by omega
    obtain ⟨W9, hW9⟩ : ∃ W9, W9 = ((W.setCell ⟨w.heap.size, 0, none⟩ (.int .i64 mark)).setCell ⟨w.heap.size, 1, none⟩ (.slice a1 ys.length c1)).setCell ⟨w.heap.size, 2, none⟩ (.slice a2 ys.length c2) := ⟨_, rfl⟩
    have hK2 : W9.heap[D']? = some (.deferred (some [])) := by rw [hW9]; exact (keepB _ _ _ _ _ hne).trans ((keepB _ _ _ _ _ hne).trans ((keepB _ _ _ _ _ hne).trans hK))
    have hb9 : Below w.heap.size w W9 := by rw [hW9]; exact setB (setB (setB h.bel _ _ (Nat.le_refl _) _) _ _ (Nat.le_refl _) _) _ _ (Nat.le_refl _) _
    have ha9 : W9.ownsRow w.heap.size 3 1 (.slice a1 ys.length c1) ys.length (ivals ys) := by
      rw [hW9]
      exact rw_mono (rw_keep h.a (fun k hk => by have := (h.a.lt k hk).1; exact (keepB _ _ _ _ _ (by omega)).trans ((keepB _ _ _ _ _ (by omega)).trans (keepB _ _ _ _ _ (by omega))))) (by omega)
    have hd9 : W9.ownsRow w.heap.size 9 1 (.slice a2 ys.length c2) ys.length (svals (ys.map T)) := by
      rw [hW9]
      exact rw_mono (rw_keep hbL (fun k hk => by have := (hbL.lt k hk).1; exact (keepB _ _ _ _ _ (by omega)).trans ((keepB _ _ _ _ _ (by omega)).trans (keepB _ _ _ _ _ (by omega))))) (by omega)
    have hr9 : W9.heap[w.heap.size]? = some (.cells #[.int .i64 mark, .slice a1 ys.length c1, .slice a2 ys.length c2] 64 (0, 0)) := by
      rw [hW9]
      have := box_set (box_set (box_set h.r 0 (.int .i64 mark)) 1 (.slice a1 ys.length c1)) 2 (.slice a2 ys.length c2)
      simpa using this
    have hab := h.ab
    clear h hbL hK hb3 hb2 hb1
    gi_wp2
    rw [← hW9]
    clear hW9
    refine ⟨by simp, .inl ⟨_, _, rfl, run_takeDeferred hK2, ?_⟩⟩
    have q : (W9.putObj D' (.deferred none)).heap[w.heap.size]? = some (.cells #[.int .i64 mark, .slice a1 ys.length c1, .slice a2 ys.length c2] 64 (0, 0)) := (World.putObj_heap_other (by omega)).trans hr9
    have q0 : (W9.putObj D' (.deferred none)).cell? ⟨w.heap.size, 0, none⟩ = some (.int .i64 mark) := box_cell q 0
    have q1 : (W9.putObj D' (.deferred none)).cell? ⟨w.heap.size, 1, none⟩ = some (.slice a1 ys.length c1) := box_cell q 1
    have q2 : (W9.putObj D' (.deferred none)).cell? ⟨w.heap.size, 2, none⟩ = some (.slice a2 ys.length c2) := box_cell q 2
    exact ⟨_, by simp [results, Try.results38, go_sem, q0, q1, q2], _, _, rfl, ownsRow_putObj ha9 _ hK2 rfl, ownsRow_putObj hd9 _ hK2 rfl, hab, hb9.trans (belowK_b (w := w) (Nat.le_refl _) W9 D' _ _ (by omega) hK2 rfl rfl)⟩
  case stop =>
    rintro D' c pre W _ _ h _
    exact h.elim
  case body =>
    rintro l pre x W ⟨vb, vd, h⟩ hlt
    have HJN : Hid (∀ v m, CallsIn Fence.wide m Try.prog 56 #[.string (T x), .string ⟨#[]⟩] v fun e w' => e = .returned (.string (T x)) ∧ Below v.heap.size v w') := fun v m => by
      have := join_any (T x) ⟨#[]⟩ v (HTS.out x) (by decide)
      rw [app_nil] at this
      exact callsIn_wide.2 this
    obtain ⟨v1, W1, rn1, cc1, ff1, kp1, ko1, h2⟩ := h.block x (by omega)
    obtain ⟨a1, c1, e1⟩ := rw_form h2.a
    subst e1
    obtain ⟨a0, c0, e0⟩ := rw_form h.a
    subst e0
    have hbL : (W1.setCell ⟨w.heap.size + 1, 1, none⟩ (.slice a1 (pre ++ [x]).length c1)).ownsRow (w.heap.size + 3) 9 1 vd pre.length (svals (pre.map T)) := by simpa using h2.b
    obtain ⟨a2, c2, e2⟩ := rw_form hbL
    subst e2
    have hl1 : (pre ++ [x]).length = pre.length + 1 := by simp
    rw [hl1] at rn1 kp1 ko1 h2
    have z1 : W.cell? ⟨w.heap.size + 1, 1, none⟩ = some (.slice a0 pre.length c0) := box_cell h.z 1
    have H2 := hid h2
    have KP1 := hid kp1
    have KO1 := hid ko1
    clear h h2 kp1 ko1 hbL hl1
    gi_wp2_with (gi_at_builtin; refine wpListIn_append_runK rfl _ _ 26 rfl _ _ rfl rfl _ _ rn1 ?_)
    generalize W1.setCell ⟨w.heap.size + 1, 1, none⟩ (.slice a1 (pre.length + 1) c1) = W2 at *
    have hdr : Below W2.heap.size W2 W2.drew := (Below.refl _ _).drew
    have HD := hid (H2.out.on hdr)
    have KPD := hid (KpZ.of_below (n₀ := w.heap.size) (Z := w.heap.size + 1) hdr (by have := H2.out.sz; omega) (by have := H2.out.sz; omega))
    have KOD := hid (Below.others hdr)
    have hmp : (pre.map T).length = pre.length := by simp
    have HMP := hid hmp
    have zd : W2.drew.cell? ⟨w.heap.size + 1, 2, none⟩ = some (.slice a2 pre.length c2) := box_cell HD.out.z 2
    clear rn1 cc1 ff1 z1 hdr hmp
    refine wpIn_mono (Q := fun e a' W' => e = .normal ∧ KpZ w.heap.size (w.heap.size + 1) W2 W' ∧ KeepsOthers W2 W' ∧ ∃ vd', Lz w mark (pre ++ [x]) (pre.map T ++ [T x]) (.slice a1 (pre.length + 1) c1) vd' W') ?_ ?_
    · gi_region_with_o (gi_at_call 56; refine (CallsIn.inRound l (HJN.out _ _)).mono ?_; rintro e V ⟨rfl, hV⟩; have HV := hid (HD.out.on hV); obtain ⟨v3, W3, r3, cc3, ff3, kp3, ko3, h3⟩ := HV.out.data (T x) (by rw [HMP.out]; omega); obtain ⟨a3, c3, e3⟩ := rw_form h3.b; subst e3; have hl3 : (List.map T pre ++ [T x]).length = pre.length + 1 := (by simp); rw [hl3] at r3 kp3 ko3 h3; have zV : V.cell? ⟨w.heap.size + 1, 2, none⟩ = some (.slice a2 pre.length c2) := box_cell HV.out.z 2; have zA : (V.alloc (.cells #[.string (T x)] 9)).cell? ⟨w.heap.size + 1, 2, none⟩ = some (.slice a2 pre.length c2) := box_cell ((Below.heap_alloc _ _ _ (by have := HV.out.sz; omega)).trans HV.out.z) 2; have HFIN : Hid (KpZ w.heap.size (w.heap.size + 1) W2 (W3.setCell ⟨w.heap.size + 1, 2, none⟩ (.slice a3 (pre.length + 1) c3)) ∧ KeepsOthers W2 (W3.setCell ⟨w.heap.size + 1, 2, none⟩ (.slice a3 (pre.length + 1) c3)) ∧ ∃ vd', Lz w mark (pre ++ [x]) (pre.map T ++ [T x]) (.slice a1 (pre.length + 1) c1) vd' (W3.setCell ⟨w.heap.size + 1, 2, none⟩ (.slice a3 (pre.length + 1) c3))) := ⟨KPD.out.trans ((KpZ.of_below hV (by have := HD.out.sz; omega) (by have := HD.out.sz; omega)).trans kp3), KOD.out.trans ((Below.others hV).trans ko3), _, h3⟩; clear hV kp3 ko3 h3 hl3)
      all_goals exact ⟨rfl, HFIN.out⟩
    rintro e a' W' ⟨rfl, kp2, ko2, vd', h3⟩
    have e4 : pre.map T ++ [T x] = (pre ++ [x]).map T := by simp
    rw [e4] at h3
    exact ⟨(KO1.out.trans ko2).from _, KP1.out.trans kp2, _, vd', h3⟩
end Go.Proofs.Ytmbkdollakbigaa
