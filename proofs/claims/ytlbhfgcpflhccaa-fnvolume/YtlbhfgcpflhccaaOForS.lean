/- Walk of the model's RecordFor. -/
import Derived.Test.YtlbhfgcpflhccaaONeed
import Derived.Test.YtlbhfgcpflhccaaVBase
import Derived.Test.YtlbhfgcpflhccaaTwo
import Derived.Test.YtlbhfgcpflhccaaIn
namespace Go.Proofs.Ytlbhfgcpflhccaa
set_option maxRecDepth 100000
open Go.ChangeShapes Go.WideShapes Go.ChangeAt Go.RowKit G00541
/-- a record's answer and true, or nothing and false -/
def ForOut (o : Op) (w : World) (e : Ending) (w' : World) : Prop := e = .returned (.tuple #[recV o, .bool (recOk o)]) ∧ Below w.heap.size w w'
theorem ForOut.no {o : Op} {w w' : World} (h : recOk o = false) (hb : Below w.heap.size w w') : ForOut o w (.returned (.tuple #[.agg #[.int .i64 0, .int .i64 0, .int .i64 0, .string ⟨#[]⟩], .bool false])) w' := ⟨by rw [recV_no h, h], hb⟩
theorem ForOut.yes {o : Op} {w w' : World} (h : recOk o = true) (hb : Below w.heap.size w w') : ForOut o w (.returned (.tuple #[.agg #[.int .i64 o.kind, .int .i64 o.place, .int .i64 o.long, .string o.data], .bool true])) w' := ⟨by rw [recV_yes h, h], hb⟩
set_option maxHeartbeats 2000000 in
theorem srec_any (k p n m : Int) (D : ByteArray) (w : World) : Calls Try.prog 27 #[.agg #[.int .i64 k, .int .i64 p, .int .i64 n, .string D, .int .i64 m]] w fun e w' => ForOut ⟨k, p, n, D, m⟩ w e w' := by
  have HB0 : Hid (Below w.heap.size w (((w.alloc (.cells #[.int .i64 k, .int .i64 p, .int .i64 n, .string D, .int .i64 m] 35)).alloc (.cells #[.int .i64 0, .int .i64 0, .int .i64 0, .string ⟨#[]⟩] 37)).alloc (.cells #[.int .i64 k, .int .i64 p, .int .i64 n, .string D] 37))) := (((Below.refl _ _).alloc (Nat.le_refl _) _).alloc (by simp) _).alloc (by simp; omega) _
  by_cases hk : 1 ≤ k ∧ k ≤ 3
  case neg =>
    have HN := hid (rec_out ⟨k, p, n, D, m⟩ hk)
    have HC := hid (fun v => l1In_no k 1 3 v (by omega))
    go_enter Try.func27, Try.ntmps27
    go_wp2_with fail
    refine (HC.out _).mono ?_
    rintro e w2 ⟨rfl, hw2⟩
    rw [hw2]
    go_wp2_with fail
    refine bodyPost_ret (v := .tuple #[.agg #[.int .i64 0, .int .i64 0, .int .i64 0, .string ⟨#[]⟩], .bool false]) (by simp [results, Try.results27, go_sem]) rfl ?_
    exact ForOut.no HN.out HB0.out
  have HC := hid (fun v => l1In_yes k 1 3 v hk.1 hk.2)
  by_cases hm : m = 0
  case neg =>
    have HN := hid (rec_keep ⟨k, p, n, D, m⟩ hm)
    have hq : (m == 0) = false := beq_eq_false_iff_ne.2 hm
    have hq2 : decide (m = 0) = false := decide_eq_false hm
    go_enter Try.func27, Try.ntmps27
    go_wp2_with fail
    refine (HC.out _).mono ?_
    rintro e w2 ⟨rfl, hw2⟩
    rw [hw2]
    go_wp2_with fail
    refine bodyPost_ret (v := .tuple #[.agg #[.int .i64 0, .int .i64 0, .int .i64 0, .string ⟨#[]⟩], .bool false]) (by simp [results, Try.results27, go_sem]) rfl ?_
    exact ForOut.no HN.out HB0.out
  subst hm
  have HR := hid (rec_in ⟨k, p, n, D, 0⟩ hk rfl)
  have HG := hid (fun v => sgood_any k p n D v)
  cases hg : goodR (opR ⟨k, p, n, D, 0⟩)
  · have HN : Hid (recOk ⟨k, p, n, D, 0⟩ = false) := HR.out.trans hg
    rw [show goodR ⟨k, p, n, D.data.toList⟩ = false from hg] at HG
    clear hg
    go_enter Try.func27, Try.ntmps27
    go_wp2_with fail
    refine (HC.out _).mono ?_
    rintro e w2 ⟨rfl, hw2⟩
    rw [hw2]
    clear hw2
    go_wp2_with fail
    refine (HG.out _).mono ?_
    rintro e w3 ⟨rfl, b3⟩
    have hc : ∀ i, w3.cell? ⟨w.heap.size + 1, i, none⟩ = _ := fun i => b3.cell (p := ⟨w.heap.size + 1, i, none⟩) (by simp)
    have hf : ∀ i, w3.frozen? ⟨w.heap.size + 1, i, none⟩ = _ := fun i => b3.frozen (p := ⟨w.heap.size + 1, i, none⟩) (by simp)
    have c0 := (hc 0).trans (show _ = some (.int .i64 0) by go_simp)
    have c1 := (hc 1).trans (show _ = some (.int .i64 0) by go_simp)
    have c2 := (hc 2).trans (show _ = some (.int .i64 0) by go_simp)
    have c3 := (hc 3).trans (show _ = some (.string ⟨#[]⟩) by go_simp)
    have f0 := (hf 0).trans (show _ = false by go_simp)
    have f1 := (hf 1).trans (show _ = false by go_simp)
    have f2 := (hf 2).trans (show _ = false by go_simp)
    have f3 := (hf 3).trans (show _ = false by go_simp)
    have HB3 := hid (HB0.out.trans (b3.mono HB0.out.size))
    clear hc hf b3
    go_wp2_with fail
    refine bodyPost_ret (v := .tuple #[.agg #[.int .i64 0, .int .i64 0, .int .i64 0, .string ⟨#[]⟩], .bool false]) (by simp [results, Try.results27, go_sem]; go_simp) rfl ?_
    exact ForOut.no HN.out (setFour HB3.out (by omega) _ _ _ _)
  · have HN : Hid (recOk ⟨k, p, n, D, 0⟩ = true) := HR.out.trans hg
    rw [show goodR ⟨k, p, n, D.data.toList⟩ = true from hg] at HG
    clear hg
    go_enter Try.func27, Try.ntmps27
    go_wp2_with fail
    refine (HC.out _).mono ?_
    rintro e w2 ⟨rfl, hw2⟩
    rw [hw2]
    clear hw2
    go_wp2_with fail
    refine (HG.out _).mono ?_
    rintro e w3 ⟨rfl, b3⟩
    have hc : ∀ i, w3.cell? ⟨w.heap.size + 1, i, none⟩ = _ := fun i => b3.cell (p := ⟨w.heap.size + 1, i, none⟩) (by simp)
    have hd : ∀ i, w3.cell? ⟨w.heap.size + 1 + 1, i, none⟩ = _ := fun i => b3.cell (p := ⟨w.heap.size + 1 + 1, i, none⟩) (by simp)
    have hf : ∀ i, w3.frozen? ⟨w.heap.size + 1, i, none⟩ = _ := fun i => b3.frozen (p := ⟨w.heap.size + 1, i, none⟩) (by simp)
    have c0 := (hc 0).trans (show _ = some (.int .i64 0) by go_simp)
    have c1 := (hc 1).trans (show _ = some (.int .i64 0) by go_simp)
    have c2 := (hc 2).trans (show _ = some (.int .i64 0) by go_simp)
    have c3 := (hc 3).trans (show _ = some (.string ⟨#[]⟩) by go_simp)
    have d0 := (hd 0).trans (show _ = some (.int .i64 k) by go_simp)
    have d1 := (hd 1).trans (show _ = some (.int .i64 p) by go_simp)
    have d2 := (hd 2).trans (show _ = some (.int .i64 n) by go_simp)
    have d3 := (hd 3).trans (show _ = some (.string D) by go_simp)
    have f0 := (hf 0).trans (show _ = false by go_simp)
    have f1 := (hf 1).trans (show _ = false by go_simp)
    have f2 := (hf 2).trans (show _ = false by go_simp)
    have f3 := (hf 3).trans (show _ = false by go_simp)
    have HB3 := hid (HB0.out.trans (b3.mono HB0.out.size))
    clear hc hd hf b3
    go_wp2_with fail
    refine bodyPost_ret (v := .tuple #[.agg #[.int .i64 k, .int .i64 p, .int .i64 n, .string D], .bool true]) (by simp [results, Try.results27, go_sem]; go_simp) rfl ?_
    exact ForOut.yes HN.out (setFour HB3.out (by omega) _ _ _ _)
end Go.Proofs.Ytlbhfgcpflhccaa
