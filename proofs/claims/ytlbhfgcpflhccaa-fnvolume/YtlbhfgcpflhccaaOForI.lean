/- Walk of the program's RecordFor. -/
import Derived.Test.YtlbhfgcpflhccaaOForS
import Derived.Test.YtlbhfgcpflhccaaIGoodR
import Derived.Test.YtlbhfgcpflhccaaIJoin
namespace Go.Proofs.Ytlbhfgcpflhccaa
set_option maxRecDepth 100000
open Go.ChangeShapes Go.WideShapes Go.ChangeAt Go.RowKit G00541
theorem app_noD (D : ByteArray) : D ++ (⟨#[]⟩ : ByteArray) = D := by
  rw [← ba_app]; simp
theorem copyRec_any (k p n : Int) (D : ByteArray) (w : World) (hD : D.size ≤ 1048576) : Calls Try.prog 36 #[.agg #[.int .i64 k, .int .i64 p, .int .i64 n, .string D]] w fun e w' => e = .returned (.agg #[.int .i64 k, .int .i64 p, .int .i64 n, .string D]) ∧ Below w.heap.size w w' := by
  have HJ : Hid (∀ v, Calls Try.prog 61 #[.string D, .string ⟨#[]⟩] v fun e w' => e = .returned (.string D) ∧ Below v.heap.size v w') := fun v => by
    have := join_any D ⟨#[]⟩ v hD (by decide)
    rw [app_noD] at this
    exact this
  have HB0 : Hid (Below w.heap.size w ((w.alloc (.cells #[.int .i64 k, .int .i64 p, .int .i64 n, .string D] 37)).alloc (.cells #[.int .i64 0, .int .i64 0, .int .i64 0, .string ⟨#[]⟩] 37))) := two_boxes _ _ _
  go_enter Try.func36, Try.ntmps36
  go_wp2_with fail
  refine (HJ.out _).mono ?_
  rintro e w3 ⟨rfl, b3⟩
  have hd : ∀ i, w3.cell? ⟨w.heap.size, i, none⟩ = _ := fun i => b3.cell (p := ⟨w.heap.size, i, none⟩) (by simp; omega)
  have hg : ∀ i, w3.frozen? ⟨w.heap.size, i, none⟩ = _ := fun i => b3.frozen (p := ⟨w.heap.size, i, none⟩) (by simp; omega)
  have hc : ∀ i, w3.cell? ⟨w.heap.size + 1, i, none⟩ = _ := fun i => b3.cell (p := ⟨w.heap.size + 1, i, none⟩) (by simp)
  have hf : ∀ i, w3.frozen? ⟨w.heap.size + 1, i, none⟩ = _ := fun i => b3.frozen (p := ⟨w.heap.size + 1, i, none⟩) (by simp)
  have c0 := (hc 0).trans (show _ = some (.int .i64 0) by go_simp)
  have c1 := (hc 1).trans (show _ = some (.int .i64 0) by go_simp)
  have c2 := (hc 2).trans (show _ = some (.int .i64 0) by go_simp)
  have c3 := (hc 3).trans (show _ = some (.string ⟨#[]⟩) by go_simp)
  have d0 := (hd 0).trans (show _ = some (.int .i64 k) by go_simp)
  have d1 := (hd 1).trans (show _ = some (.int .i64 p) by go_simp)
  have d2 := (hd 2).trans (show _ = some (.int .i64 n) by go_simp)
  have d3 := (hd 3).trans (show _ = some (.string D) by go_simp)
  have g3 := (hg 3).trans (show _ = false by go_simp)
  have f0 := (hf 0).trans (show _ = false by go_simp)
  have f1 := (hf 1).trans (show _ = false by go_simp)
  have f2 := (hf 2).trans (show _ = false by go_simp)
  have f3 := (hf 3).trans (show _ = false by go_simp)
  have HB3 := hid (HB0.out.trans (b3.mono HB0.out.size))
  clear hc hd hf hg b3
  go_wp2_with fail
  refine bodyPost_ret (v := .agg #[.int .i64 k, .int .i64 p, .int .i64 n, .string D]) (by simp [results, Try.results36, go_sem]; go_simp) rfl ⟨rfl, ?_⟩
  exact setFour (setB HB3.out _ _ (by omega) _) (by omega) _ _ _ _
theorem recKind_yes (k : Int) (w : World) (h : 1 ≤ k ∧ k ≤ 3) : Calls Try.prog 33 #[.int .i64 k] w fun e w' => e = .returned (.tuple #[.int .i64 k, .bool true]) ∧ w' = w := by
  rcases (show k = 1 ∨ k = 2 ∨ k = 3 by omega) with rfl | rfl | rfl
  all_goals
    go_enter Try.func33, Try.ntmps33
    go_wp2_with fail
    go_ret2
    exact ⟨rfl, rfl⟩
theorem recKind_no (k : Int) (w : World) (h : ¬ (1 ≤ k ∧ k ≤ 3)) : Calls Try.prog 33 #[.int .i64 k] w fun e w' => e = .returned (.tuple #[.int .i64 0, .bool false]) ∧ w' = w := by
  have d1 : decide (k = 1) = false := decide_eq_false (by omega)
  have d2 : decide (k = 2) = false := decide_eq_false (by omega)
  have d3 : decide (k = 3) = false := decide_eq_false (by omega)
  have e1 : (k == 1) = false := beq_eq_false_iff_ne.2 (by omega)
  have e2 : (k == 2) = false := beq_eq_false_iff_ne.2 (by omega)
  have e3 : (k == 3) = false := beq_eq_false_iff_ne.2 (by omega)
  go_enter Try.func33, Try.ntmps33
  go_wp2_with fail
  go_ret2
  exact ⟨rfl, rfl⟩
theorem good_small {r : Rc} (h : goodR r = true) : r.data.length ≤ 8 := by
  obtain ⟨k, p, n, d⟩ := r
  by_cases k1 : k = 1
  · subst k1
    rw [good_one, Bool.and_eq_true] at h
    have h1 := of_decide_eq_true h.1
    have h2 := of_decide_eq_true h.2
    show d.length ≤ 8
    omega
  by_cases k2 : k = 2
  · subst k2
    rw [good_two, Bool.and_eq_true] at h
    have h2 := of_decide_eq_true h.2
    show d.length ≤ 8
    rw [h2]; decide
  by_cases k3 : k = 3
  · subst k3
    rw [good_three] at h
    have h2 := of_decide_eq_true h
    show d.length ≤ 8
    rw [h2.2.2.2]; decide
  · rw [good_other k1 k2 k3] at h; cases h
set_option maxHeartbeats 2000000 in
theorem irec_any (k p n m : Int) (D : ByteArray) (w : World) : Calls Try.prog 10 #[.agg #[.int .i64 k, .int .i64 p, .int .i64 n, .string D, .int .i64 m]] w fun e w' => ForOut ⟨k, p, n, D, m⟩ w e w' := by
  have HB0 : Hid (Below w.heap.size w ((w.alloc (.cells #[.int .i64 k, .int .i64 p, .int .i64 n, .string D, .int .i64 m] 35)).alloc (.cells #[.int .i64 0, .int .i64 0, .int .i64 0, .string ⟨#[]⟩] 37))) := two_boxes _ _ _
  by_cases hk : 1 ≤ k ∧ k ≤ 3
  case neg =>
    have HN := hid (rec_out ⟨k, p, n, D, m⟩ hk)
    have HC := hid (fun v => recKind_no k v hk)
    go_enter Try.func10, Try.ntmps10
    go_wp2_with fail
    refine (HC.out _).mono ?_
    rintro e w2 ⟨rfl, hw2⟩
    rw [hw2]
    go_wp2_with fail
    refine bodyPost_ret (v := .tuple #[.agg #[.int .i64 0, .int .i64 0, .int .i64 0, .string ⟨#[]⟩], .bool false]) (by simp [results, Try.results10, go_sem]) rfl ?_
    exact ForOut.no HN.out HB0.out
  have HC := hid (fun v => recKind_yes k v hk)
  have HND := hid (fun v => need_any k p n m D v)
  have HIF := hid (rec_iff ⟨k, p, n, D, m⟩ hk)
  go_enter Try.func10, Try.ntmps10
  go_wp2_with fail
  refine (HC.out _).mono ?_
  rintro e w2 ⟨rfl, hw2⟩
  rw [hw2]
  clear hw2
  go_wp2_with fail
  refine (HND.out _).mono ?_
  rintro e w3 ⟨rfl, b3⟩
  have hd : ∀ i, w3.cell? ⟨w.heap.size, i, none⟩ = _ := fun i => b3.cell (p := ⟨w.heap.size, i, none⟩) (by simp; omega)
  have hc : ∀ i, w3.cell? ⟨w.heap.size + 1, i, none⟩ = _ := fun i => b3.cell (p := ⟨w.heap.size + 1, i, none⟩) (by simp)
  have hf : ∀ i, w3.frozen? ⟨w.heap.size + 1, i, none⟩ = _ := fun i => b3.frozen (p := ⟨w.heap.size + 1, i, none⟩) (by simp)
  have c0 := (hc 0).trans (show _ = some (.int .i64 0) by go_simp)
  have c1 := (hc 1).trans (show _ = some (.int .i64 0) by go_simp)
  have c2 := (hc 2).trans (show _ = some (.int .i64 0) by go_simp)
  have c3 := (hc 3).trans (show _ = some (.string ⟨#[]⟩) by go_simp)
  have d1 := (hd 1).trans (show _ = some (.int .i64 p) by go_simp)
  have d2 := (hd 2).trans (show _ = some (.int .i64 n) by go_simp)
  have d3 := (hd 3).trans (show _ = some (.string D) by go_simp)
  have f0 := (hf 0).trans (show _ = false by go_simp)
  have f1 := (hf 1).trans (show _ = false by go_simp)
  have f2 := (hf 2).trans (show _ = false by go_simp)
  have f3 := (hf 3).trans (show _ = false by go_simp)
  have s3 := b3.size
  have HB3 := hid (HB0.out.trans (b3.mono HB0.out.size))
  have hs3 : w.heap.size + 2 ≤ w3.heap.size := by simpa using s3
  clear hc hd hf b3 s3 HB0 HND HC
  cases hn : needOk ⟨k, p, n, D, m⟩
  · have HN : Hid (recOk ⟨k, p, n, D, m⟩ = false) := by rw [HIF.out, hn]; rfl
    clear hn HIF
    go_wp2_with fail
    refine bodyPost_ret (v := .tuple #[.agg #[.int .i64 0, .int .i64 0, .int .i64 0, .string ⟨#[]⟩], .bool false]) (by simp [results, Try.results10, go_sem]; go_simp) rfl ?_
    exact ForOut.no HN.out (setFour HB3.out (by omega) _ _ _ _)
  have HG := hid (fun v => igood_any k p n D v)
  have b4 := boxB w3 (.cells #[.int .i64 k, .int .i64 p, .int .i64 n, .string D] 37)
  have x0 : (w3.alloc (.cells #[.int .i64 k, .int .i64 p, .int .i64 n, .string D] 37)).cell? ⟨w3.heap.size, 0, none⟩ = some (.int .i64 k) := by go_simp
  have x1 : (w3.alloc (.cells #[.int .i64 k, .int .i64 p, .int .i64 n, .string D] 37)).cell? ⟨w3.heap.size, 1, none⟩ = some (.int .i64 p) := by go_simp
  have x2 : (w3.alloc (.cells #[.int .i64 k, .int .i64 p, .int .i64 n, .string D] 37)).cell? ⟨w3.heap.size, 2, none⟩ = some (.int .i64 n) := by go_simp
  have x3 : (w3.alloc (.cells #[.int .i64 k, .int .i64 p, .int .i64 n, .string D] 37)).cell? ⟨w3.heap.size, 3, none⟩ = some (.string D) := by go_simp
  have s4 : (w3.alloc (.cells #[.int .i64 k, .int .i64 p, .int .i64 n, .string D] 37)).heap.size = w3.heap.size + 1 := by simp
  have HB4 := hid (HB3.out.trans (b4.mono HB3.out.size))
  have HC4 : Hid (Below w3.heap.size w3 (w3.alloc (.cells #[.int .i64 k, .int .i64 p, .int .i64 n, .string D] 37))) := b4
  clear b4
  have HCP : Hid (D.size ≤ 8 → ∀ v, Calls Try.prog 36 #[.agg #[.int .i64 k, .int .i64 p, .int .i64 n, .string D]] v fun e w' => e = .returned (.agg #[.int .i64 k, .int .i64 p, .int .i64 n, .string D]) ∧ Below v.heap.size v w') := fun h v => copyRec_any k p n D v (by omega)
  have HX : Hid (∀ v, Below (w3.alloc (.cells #[.int .i64 k, .int .i64 p, .int .i64 n, .string D] 37)).heap.size (w3.alloc (.cells #[.int .i64 k, .int .i64 p, .int .i64 n, .string D] 37)) v → (∀ i, v.cell? ⟨w3.heap.size, i, none⟩ = (w3.alloc (.cells #[.int .i64 k, .int .i64 p, .int .i64 n, .string D] 37)).cell? ⟨w3.heap.size, i, none⟩) ∧ (∀ i, v.cell? ⟨w.heap.size + 1, i, none⟩ = w3.cell? ⟨w.heap.size + 1, i, none⟩) ∧ (∀ i, v.frozen? ⟨w.heap.size + 1, i, none⟩ = w3.frozen? ⟨w.heap.size + 1, i, none⟩)) := fun v g =>
    ⟨fun i => g.cell (p := ⟨w3.heap.size, i, none⟩) (by simp), fun i => (g.cell (p := ⟨w.heap.size + 1, i, none⟩) (by simp; omega)).trans (HC4.out.cell (p := ⟨w.heap.size + 1, i, none⟩) (by show w.heap.size + 1 < w3.heap.size; omega)), fun i => (g.frozen (p := ⟨w.heap.size + 1, i, none⟩) (by simp; omega)).trans (HC4.out.frozen (p := ⟨w.heap.size + 1, i, none⟩) (by show w.heap.size + 1 < w3.heap.size; omega))⟩
  cases hg : goodR (opR ⟨k, p, n, D, m⟩)
  · have HN : Hid (recOk ⟨k, p, n, D, m⟩ = false) := by rw [HIF.out, hg, Bool.and_false]; exact rfl
    rw [show goodR ⟨k, p, n, D.data.toList⟩ = false from hg] at HG
    clear hg HIF hn HCP
    go_wp2_with fail
    refine (HG.out _).mono ?_
    rintro e w5 ⟨rfl, b5⟩
    obtain ⟨-, e2, e3⟩ := HX.out w5 b5
    rw [← e2] at c0 c1 c2 c3
    rw [← e3] at f0 f1 f2 f3
    have HB5 := hid (HB4.out.trans (b5.mono HB4.out.size))
    clear b5 e2 e3 HX HC4 HB4
    go_wp2_with fail
    refine bodyPost_ret (v := .tuple #[.agg #[.int .i64 0, .int .i64 0, .int .i64 0, .string ⟨#[]⟩], .bool false]) (by simp [results, Try.results10, go_sem]; go_simp) rfl ?_
    exact ForOut.no HN.out (setFour HB5.out (by omega) _ _ _ _)
  · have HN : Hid (recOk ⟨k, p, n, D, m⟩ = true) := by rw [HIF.out, hg, hn]; rfl
    have HCP2 := hid (HCP.out (by have := good_small hg; rw [show (opR ⟨k, p, n, D, m⟩).data.length = D.size from bytes_size D] at this; exact this))
    rw [show goodR ⟨k, p, n, D.data.toList⟩ = true from hg] at HG
    clear hg HIF hn HCP
    go_wp2_with fail
    refine (HG.out _).mono ?_
    rintro e w5 ⟨rfl, b5⟩
    obtain ⟨e1, e2, e3⟩ := HX.out w5 b5
    have s5 := b5.size
    have HB5 : Hid (Below w.heap.size w w5) := HB4.out.trans (b5.mono HB4.out.size)
    rw [← e1] at x0 x1 x2 x3
    have HC5 : Hid (Below (w3.alloc (.cells #[.int .i64 k, .int .i64 p, .int .i64 n, .string D] 37)).heap.size (w3.alloc (.cells #[.int .i64 k, .int .i64 p, .int .i64 n, .string D] 37)) w5) := b5
    clear b5 e1 e2 e3 s5
    go_wp2_with fail
    refine (HCP2.out _).mono ?_
    rintro e w6 ⟨rfl, b6⟩
    obtain ⟨-, e2, e3⟩ := HX.out w6 (HC5.out.trans (b6.mono HC5.out.size))
    rw [← e2] at c0 c1 c2 c3
    rw [← e3] at f0 f1 f2 f3
    have HB6 := hid (HB5.out.trans (b6.mono HB5.out.size))
    clear b6 e2 e3 HX HC4 HB4 HC5
    go_wp2_with fail
    refine bodyPost_ret (v := .tuple #[.agg #[.int .i64 k, .int .i64 p, .int .i64 n, .string D], .bool true]) (by simp [results, Try.results10, go_sem]; go_simp) rfl ?_
    exact ForOut.yes HN.out (setFour HB6.out (by omega) _ _ _ _)
end Go.Proofs.Ytlbhfgcpflhccaa
