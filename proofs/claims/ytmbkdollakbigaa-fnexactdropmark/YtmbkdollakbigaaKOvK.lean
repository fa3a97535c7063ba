/- The program's blocksOver: the map's keys beside what it tells. -/
import Derived.Test.YtmbkdollakbigaaKOver
namespace Go.Proofs.Ytmbkdollakbigaa
set_option maxRecDepth 100000
open Go Go.ChangeShapes Go.WideShapes Go.ChangeAt Go.RowKit Go.Shelf
attribute [local go_sem] Oper.semAt_some
/-- what the map tells, and its keys -/
def TellsK {H : Type} (D : DataW H) (T : Int → ByteArray) (K : Int → Prop) : Prop := Tells7 D T ∧ ∀ x : Int, Maps.has D (.int .i64 x) = true ↔ K x
/-- what layers have of blocks -/
def KP (S : List Ly) (pre : List (Fin S.length)) (x : Int) : Prop := ∃ k ∈ pre, x ∈ S[k.1].bl
def KJ (K : Int → Prop) (bl : List Int) (j : Nat) (x : Int) : Prop := K x ∨ x ∈ bl.take j
theorem tellsK_nil {H : Type} (S : List Ly) : TellsK (H := H) (.map []) (fun _ => ⟨#[0, 0]⟩) (KP S []) := ⟨tells_nil, fun x => ⟨fun h => (by cases h), fun ⟨k, h, _⟩ => (by cases h)⟩⟩
theorem tellsK_put {H : Type} {D : DataW H} {T : Int → ByteArray} {K : Int → Prop} (h : TellsK D T K) (x : Int) (s : ByteArray) : TellsK (D.put (.int .i64 x) (.lit (.string s.data.toList))) (fun y => if x = y then s else T y) (fun y => x = y ∨ K y) := ⟨tells_put h.1 x s, fun y => by
  have kx : WideAt.IsKeyLit (Lit.int IntKind.i64 x) := by simp [WideAt.IsKeyLit]
  by_cases e : x = y
  · subst e
    exact ⟨fun _ => .inl rfl, fun _ => Maps.has_put_same h.1.1 kx _⟩
  · have hne : Lit.int IntKind.i64 y ≠ Lit.int IntKind.i64 x := fun g => e (by cases g; rfl)
    rw [Maps.has_put_other hne, h.2 y]
    exact ⟨.inr, fun g => g.resolve_left e⟩⟩
theorem kj_start (K : Int → Prop) (bl : List Int) : KJ K bl 0 = K := by
  funext x
  simp [KJ]
theorem kj_put (K : Int → Prop) (bl : List Int) (j : Nat) (h : j < bl.length) : (fun y => bl[j] = y ∨ KJ K bl j y) = KJ K bl (j + 1) := by
  funext y
  apply propext
  unfold KJ
  rw [List.take_succ_eq_append_getElem h, List.mem_append, List.mem_singleton]
  constructor
  · rintro (h1 | h1 | h1)
    · exact .inr (.inr h1.symm)
    · exact .inl h1
    · exact .inr (.inl h1)
  · rintro (h1 | h1 | h1)
    · exact .inr (.inl h1)
    · exact .inr (.inr h1)
    · exact .inl h1.symm
theorem kj_end (S : List Ly) (pre : List (Fin S.length)) (x : Fin S.length) : KJ (KP S pre) S[x.1].bl S[x.1].bl.length = KP S (pre ++ [x]) := by
  funext y
  apply propext
  unfold KJ KP
  rw [List.take_length]
  constructor
  · rintro (⟨k, h, g⟩ | h)
    · exact ⟨k, by simp [h], g⟩
    · exact ⟨x, by simp, h⟩
  · rintro ⟨k, h, g⟩
    rcases List.mem_append.1 h with h | h
    · exact .inl ⟨k, h, g⟩
    · rw [List.mem_singleton] at h; subst h; exact .inr g
set_option maxHeartbeats 8000000 in
theorem blocksOverK_in {H : Type} (F : Fence) (n : Nat) (h3 : F.fn 24) (hro : F.round = none) (hn : 6 ≤ n) (gf : Nat) (lb : Array Value) (hFg : F.fn gf) (eg : ∀ args w, (callFunc gf args).run Try.prog w = .ok (.enter gf args) w)
    (S : List Ly) (A : Nat → LA) (b off m : Nat) (w : World) (hn8 : S.length ≤ 1048576) (hm : m ≤ S.length) (Sp : List (Fin S.length) → Prop)
    (hseq : ∀ W0, Below w.heap.size w W0 → SeqStopsK F (n - 1) Try.prog gf lb (fun k : Fin S.length => #[lyw S A k]) (Below w.heap.size) (fun ys => ys = upT S m) Sp m W0)
    (hG : YsA w.heap.size b off A S w) (hL : ∀ k (h : k < S.length), S[k].bl.length ≤ 1048576 ∧ S[k].dt.length = S[k].bl.length ∧ ∀ j (g : j < S[k].bl.length), 0 ≤ S[k].bl[j] ∧ S[k].bl[j] ≤ 15) :
    CallsIn F n Try.prog 24 #[.func (.func gf) #[] lb] w fun e W' => e = .returned (.map (some w.heap.size)) ∧ (∃ (D : DataW H) (N : Nat), W'.ownsMap Try.prog 3 keptE w.heap.size N D ∧ N ≤ m * 1048576 ∧ TellsK D (fun x => atL S x m) (KP S (upT S m))) ∧ Below w.heap.size w W' := by
  have h1 : 1 ≤ n := by omega
  have HL := hid hL
  have HG := hid hG
  clear hL hG
  have hmm := @run_makeMap Try.prog
  refine callsIn_of_wp_marks Try.func24 rfl h3 ?_ hro
  simp only [Try.ntmps24, List.size_toArray, List.length_cons, List.length_nil, Nat.reduceAdd, Nat.reduceSub, Array.replicate_succ, Array.replicate_zero, List.push_toArray, List.append_toArray, List.nil_append, List.cons_append]
  gi_wp2
  have hm0 := World.ownsMap_made (H := H) w Try.prog 3 keptE
  have bS := Boxed.new (w.alloc (.map #[] 0)) 46 (.map (some w.heap.size))
  simp only [World.size_alloc] at bS
  have hB0 : Below w.heap.size w ((w.alloc (.map #[] 0)).alloc (.cells #[.map (some w.heap.size)] 46)) := ((Below.refl _ w).alloc (Nat.le_refl _) _).alloc (by simp) _
  have hsz : ((w.alloc (.map #[] 0)).alloc (.cells #[.map (some w.heap.size)] 46)).heap.size = w.heap.size + 2 := by simp
  have hm1 := hm0.alloc (.cells #[.map (some w.heap.size)] 46)
  obtain ⟨W0, hW0⟩ : ∃ W0, (w.alloc (.map #[] 0)).alloc (.cells #[.map (some w.heap.size)] 46) = W0 := ⟨_, rfl⟩
  rw [hW0] at bS hB0 hsz hm1 ⊢
  clear hW0 hm0 hmm
  refine wpIn_rangeFunc_ownH hro h1 (gf := gf) (lb := lb) rfl hFg eg (hseq W0 hB0) belowK_t (belowK_b (by omega)) (Below.refl _ _) (fun _ => rfl)
    (fun pre W => (Boxed W (w.heap.size + 1) 46 (.map (some w.heap.size)) ∧ (∃ (D : DataW H) (N : Nat), W.ownsMap Try.prog 3 keptE w.heap.size N D ∧ N ≤ pre.length * 1048576 ∧ TellsK D (fun y => atP S y pre) (KP S pre))) ∧ Below w.heap.size w W)
    (fun _ _ _ => False) ?hI (fun _ _ _ _ _ hs _ _ => hs) ?h0
    (fun k a' W => ∃ Bx, w.heap.size + 1 < Bx ∧ W.heap[Bx]? = some (.cells #[.int .i64 S[k.1].mark, .slice (A k.1).p S[k.1].bl.length (A k.1).c, .slice (A k.1).q S[k.1].dt.length (A k.1).d] 64 (0, 0)) ∧ a' = { tmps := #[.func (.func gf) #[] lb, undef, .map none, .pointer (some ⟨w.heap.size + 1, 0, none⟩), .pointer (some ⟨Bx, 0, none⟩), undef, undef, .map (some w.heap.size), .func (.func gf) #[] lb, lyw S A k, undef, undef, undef, undef, undef, undef, undef, undef, undef, undef, undef, undef, undef, undef, undef, undef, undef, undef], defers := [] })
    ?hAx ?assign ?body ?done ?stop
  case hI => exact OwnFrom.and (OwnFrom.and (Own.from (boxed_own _ _ _) _) (fun s X Y row hs hg hr => by obtain ⟨D, N, h1, h2, h3⟩ := hs; exact ⟨D, N, h1.kept hg (fun e => by have := (hr _ e.symm).1; omega), h2, h3⟩)) (ownFrom_below (Nat.le_refl _) (by omega))
  case h0 => exact ⟨⟨bS, _, 0, hm1, Nat.zero_le _, tellsK_nil S⟩, hB0⟩
  case hAx =>
    intro x a' _ X Y row hs hg hr
    obtain ⟨Bx, h1, h2, h3⟩ := hs
    have hlt : Bx < X.heap.size := (Array.getElem?_eq_some_iff.1 h2).1
    exact ⟨Bx, h1, (hg.block Bx hlt (fun e => by obtain ⟨o, g1, g2⟩ := (hr _ e.symm).2; rw [h2] at g1; cases g1; cases g2)).trans h2, h3⟩
  case assign =>
    rintro l pre x W K ⟨⟨bS1, D, N, o1, o2, o3⟩, hB1⟩ hK
    have hlw : lyw S A x = .agg #[.int .i64 S[x.1].mark, .slice (A x.1).p S[x.1].bl.length (A x.1).c, .slice (A x.1).q S[x.1].dt.length (A x.1).d] := rfl
    rw [hlw]
    gi_wp2
    exact hK _ _ ((KeepsOthers.alloc _ _).from _) ((Below.refl _ W).alloc hB1.size _) ⟨⟨bS1.alloc _, D, N, o1.alloc _, o2, o3⟩, hB1.alloc hB1.size _⟩ ⟨W.heap.size, bS1.lt, World.alloc_heap_new W _, rfl⟩
  case done =>
    rintro D zs W hD rfl ⟨⟨bS1, E, N, o1, o2, o3⟩, hB1⟩ hK
    have cS := bS1.cell
    gi_wp2
    refine ⟨by simp, .inl ⟨_, _, rfl, run_takeDeferred hK, ?_⟩⟩
    have e : (fun y => atP S y (upT S m)) = fun y => atL S y m := funext fun y => atP_up S y m hm
    exact ⟨_, results_tmp rfl _ _ _, rfl, ⟨E, N, o1.kept (grownBy_putObj' _ D _) (fun e => by cases e; omega), (upT_length S m hm) ▸ o2, by rw [← e]; exact o3⟩, hB1.trans (belowK_b (w := w) (Nat.le_refl _) W D _ _ (by omega) hK rfl rfl)⟩
  case stop =>
    rintro D c pre W _ _ h _
    exact h.elim
  case body =>
    rintro l pre x a' W hl _ ⟨⟨bS1, D, N, o1, o2, o3⟩, hB1⟩ ⟨Bx, hBx, hX, rfl⟩ hlt
    obtain ⟨_, _, _, hI, hS⟩ := (HG.out.below hB1).2 x.1 x.2
    have hLx := HL.out x.1 x.2
    have HP : Hid ((fun y => atB S[x.1].bl S[x.1].dt y (atP S y pre) S[x.1].bl.length) = fun y => atP S y (pre ++ [x])) := funext fun y => (atP_snoc S y pre x).symm
    have hlw : lyw S A x = .agg #[.int .i64 S[x.1].mark, .slice (A x.1).p S[x.1].bl.length (A x.1).c, .slice (A x.1).q S[x.1].dt.length (A x.1).d] := rfl
    have HPK : Hid (KJ (KP S pre) S[x.1].bl S[x.1].bl.length = KP S (pre ++ [x])) := kj_end S pre x
    rw [hlw]
    clear hlw
    have hpl : pre.length < 1048576 := by omega
    have HPL : Hid ((pre ++ [x]).length = pre.length + 1) := by simp [Hid]
    generalize (A x.1).p = p at *
    generalize (A x.1).c = c at *
    generalize (A x.1).q = q at *
    generalize (A x.1).d = d at *
    generalize S[x.1] = s at *
    obtain ⟨mk, bl, dt⟩ := s
    simp only at hI hS hLx HP hX HPK
    obtain ⟨hbl, hdl, hrg⟩ := hLx
    have HDL := hid hdl
    have HRG := hid hrg
    have HI := hid hI
    have HS := hid hS
    have HB1 := hid hB1
    have HO := hid o1
    have HO3 := hid o3
    have HO2 := hid o2
    have HBS := hid bS1
    have HXX := hid hX
    have y1 : W.cell? ⟨Bx, 1, none⟩ = some (.slice p bl.length c) := box_cell hX 1
    clear hdl hrg hI hS o1 o2 o3 bS1 hX hB1
    gi_wp2
    clear y1
    gi_loopw [13] (fun i wr => ∃ (j : Nat) (D : DataW H) (N : Nat), j ≤ bl.length ∧ i = .int .i64 j ∧ wr.ownsMap Try.prog 3 keptE w.heap.size N D ∧ N ≤ pre.length * 1048576 + j ∧ TellsK D (fun y => atB bl dt y (atP S y pre) j) (KJ (KP S pre) bl j) ∧ Below w.heap.size W wr ∧ KeepsFrom W0.heap.size W wr ∧ Boxed wr (w.heap.size + 1) 46 (.map (some w.heap.size)) ∧ wr.heap[Bx]? = some (.cells #[.int .i64 mk, .slice p bl.length c, .slice q dt.length d] 64 (0, 0))) (fun i _ => bl.length - (intOf i).toNat)
    case atStart => exact ⟨0, D, N, Nat.zero_le _, rfl, HO.out, (Nat.le_trans HO2.out (Nat.le_add_right _ _)), (by rw [kj_start]; exact HO3.out), Below.refl _ _, KeepsFrom.refl _ _, HBS.out, HXX.out⟩
    case round =>
      obtain ⟨j, D, N, hj, rfl, hown, hN, hT, hbel, hkf, hbs, hx⟩ := hrel
      have HOW := hid hown
      have HNN := hid hN
      have HT := hid hT
      have HBE := hid hbel
      have HKF := hid hkf
      have HBX := hid hbs
      have HX2 := hid hx
      by_cases hjl : j < bl.length
      · have hjd : j < dt.length := by have := HDL.out; omega
        obtain ⟨b1, off1, rfl, hb1, hc1⟩ := (HI.out.below hbel).cell (by omega)
        obtain ⟨b2, off2, rfl, hb2, hc2⟩ := (HS.out.below hbel).cell (by omega)
        have e1 := hc1 j hjl
        have e2 := hc2 j hjd
        have z2 : wr.cell? ⟨Bx, 2, none⟩ = some (.slice (some ⟨b2, off2, none⟩) dt.length d) := box_cell hx 2
        have z3 := hbs.cell
        have HPUT : Hid ((fun y => if bl[j] = y then dt[j] else atB bl dt y (atP S y pre) j) = fun y => atB bl dt y (atP S y pre) (j + 1)) := atB_put bl dt (fun y => atP S y pre) j hjl hjd
        have HPJ : Hid ((fun y => bl[j] = y ∨ KJ (KP S pre) bl j y) = KJ (KP S pre) bl (j + 1)) := kj_put (KP S pre) bl j hjl
        have hwf : (Lit.int .i64 bl[j]).wf = true := by have := HRG.out j hjl; have h63 : IntKind.i64.min = -9223372036854775808 := rfl; have h64 : IntKind.i64.max = 9223372036854775807 := rfl; simp only [Lit.wf, h63, h64, Bool.and_eq_true, decide_eq_true_eq]; omega
        have hNm : N < maxLen := by have := HNN.out; unfold maxLen; omega
        clear hc1 hc2 hown hN hT hbel hkf hbs hx
        generalize bl[j] = u at *
        generalize dt[j] = E at *
        obtain ⟨w1, hrun, hown1, hgrow1⟩ := World.ownsMap.update (w := wr.drew) HOW.out (Maps.int_keyed Try.underlying3) Try.underlying46 hNm (Maps.keyOf_int_mk Try.underlying3 hwf) (keptE_mk E)
        have HOWN1 := hid hown1
        have HGR1 := hid hgrow1
        clear hown1 hgrow1
        gi_wp2
        refine wpIn_mono (Q := fun e a' W' => e = .normal ∧ a' = { tmps := #[.func (.func gf) #[] lb, undef, .map none, .pointer (some ⟨w.heap.size + 1, 0, none⟩), .pointer (some ⟨Bx, 0, none⟩), .int .i64 j, .int .i64 u, .map (some w.heap.size), .func (.func gf) #[] lb, .agg #[.int .i64 mk, .slice (some ⟨b1, off1, none⟩) bl.length c, .slice (some ⟨b2, off2, none⟩) dt.length d], .pointer (some ⟨Bx, 1, none⟩), .slice (some ⟨b1, off1, none⟩) bl.length c, .int .i64 bl.length, .int .i64 j, .bool true, .int .i64 j, .pointer (some ⟨b1, off1 + j, none⟩), .int .i64 u, .map (some w.heap.size), .int .i64 u, .pointer (some ⟨Bx, 2, none⟩), .slice (some ⟨b2, off2, none⟩) dt.length d, .int .i64 j, .pointer (some ⟨b2, off2 + j, none⟩), .string E, .agg #[.string E], u26, undef], defers := [] } ∧ W' = w1) ?_ ?_
        · (gi_region; all_goals exact ⟨rfl, rfl, rfl⟩)
        rintro e a' W' ⟨rfl, rfl, rfl⟩
        clear hrun
        have HX3 : Hid (W'.heap[Bx]? = some (.cells #[.int .i64 mk, .slice (some ⟨b1, off1, none⟩) bl.length c, .slice (some ⟨b2, off2, none⟩) dt.length d] 64 (0, 0))) := (HGR1.out.block Bx (show Bx < wr.heap.size from (Array.getElem?_eq_some_iff.1 HX2.out).1) (fun e => by cases e; omega)).trans HX2.out
        have HBX3 : Hid (Boxed W' (w.heap.size + 1) 46 (.map (some w.heap.size))) := Boxed.kept (W := wr.drew) HBX.out HGR1.out (by simp)
        have hwW := HB1.out.size
        have hWr := HBE.out.size
        have HBE3 : Hid (Below w.heap.size W W') := HBE.out.drew.grown HGR1.out (show w.heap.size ≤ wr.heap.size by omega) (fun k e => by cases e; exact Nat.le_refl _)
        have HKF3 : Hid (KeepsFrom W0.heap.size W W') := (HKF.out.trans ((KeepsOthers.drew _).from _)).trans (KeepsFrom.of_grownBy HGR1.out (fun j e => by cases e; omega))
        have HT3 : Hid (TellsK (D.put (.int .i64 u) (.lit (.string E.data.toList))) (fun y => atB bl dt y (atP S y pre) (j + 1)) (KJ (KP S pre) bl (j + 1))) := by
          have := tellsK_put HT.out u E
          show TellsK _ _ _
          rw [← HPUT.out, ← HPJ.out]; exact this
        have HN3 : Hid (N + 1 ≤ pre.length * 1048576 + (j + 1)) := by show N + 1 ≤ pre.length * 1048576 + (j + 1); rw [← Nat.add_assoc]; exact Nat.add_le_add_right HNN.out 1
        clear e1 e2 z2 z3 HGR1 HPUT HPJ HT HNN HBE HKF HBX HX2 hwf hNm
        gi_wp2
        go_roundw
        case rel => exact ⟨j + 1, _, N + 1, by omega, by simp, HOWN1.out, HN3.out, HT3.out, HBE3.out, HKF3.out, HBX3.out, HX3.out⟩
        case measure => simp [intOf]; omega
      · have hjj : j = bl.length := by omega
        have HT3 : Hid (TellsK D (fun y => atP S y (pre ++ [x])) (KP S (pre ++ [x]))) := by
          show TellsK _ _ _
          rw [← HP.out, ← HPK.out, ← hjj]; exact HT.out
        have HN3 : Hid (N ≤ (pre ++ [x]).length * 1048576) := by
          show _ ≤ _
          rw [HPL.out]; have := HNN.out; omega
        clear hown hN hT hbel hkf hbs hx hjj
        gi_wp2
        exact ⟨HKF.out, HBE.out, ⟨HBX.out, D, N, HOW.out, HN3.out, HT3.out⟩, HB1.out.trans HBE.out⟩
end Go.Proofs.Ytmbkdollakbigaa
