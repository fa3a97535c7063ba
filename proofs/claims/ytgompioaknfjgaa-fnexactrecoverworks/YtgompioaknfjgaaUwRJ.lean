/- The program's RecoverWorks. -/
import Derived.Test.YtgompioaknfjgaaUwRI
import Derived.Test.YtgompioaknfjgaaUwGg
namespace Go.Proofs.Ytgompioaknfjgaa
set_option maxRecDepth 100000
open Go Go.ChangeShapes Go.WideShapes Go.ChangeAt Go.RowKit
set_option maxHeartbeats 4000000 in
theorem irecover_any (A : UwA) (X : Uw) (w : World) (hf : UwFit X) (h : UwR w.heap.size A X w) :
    Calls Try.prog 31 #[.agg #[.slice A.c X.cl.length A.kc, .slice A.d X.dk.length A.kd, .slice A.l X.lg.length A.kl, .int .i64 X.sr, .slice A.o X.op.length A.ko]] w fun e w' => UwOut (recV X) (goodU X) w e w' := by
  obtain ⟨W, hW⟩ : ∃ W, W = (w.alloc (.cells #[.slice A.c X.cl.length A.kc, .slice A.d X.dk.length A.kd, .slice A.l X.lg.length A.kl, .int .i64 X.sr, .slice A.o X.op.length A.ko] 25)).alloc (.cells #[.slice none 0 0, .slice none 0 0, .slice none 0 0, .int .i64 0, .slice none 0 0] 25) := ⟨_, rfl⟩
  have hb : Below w.heap.size w W := by rw [hW]; exact (boxB w _).trans ((boxB _ _).mono (boxB w _).size)
  have hx : W.heap[w.heap.size]? = some (.cells #[.slice A.c X.cl.length A.kc, .slice A.d X.dk.length A.kd, .slice A.l X.lg.length A.kl, .int .i64 X.sr, .slice A.o X.op.length A.ko] 25) := by rw [hW, Below.heap_alloc _ _ _ (by simp)]; exact heap_last _ _
  have hz : W.heap[w.heap.size + 1]? = some (.cells #[.slice none 0 0, .slice none 0 0, .slice none 0 0, .int .i64 0, .slice none 0 0] 25) := by rw [hW]; exact heap_last2 _ _ _
  have hs : W.heap.size = w.heap.size + 2 := by rw [hW]; simp
  have HZ : Hid (∀ v, Below w.heap.size w v → UwR v.heap.size A X v) := fun v g => h.up g g.size
  have HB := hid hb
  have HX := hid hx
  have HZB := hid hz
  have HS := hid hs
  have HF := hid hf
  have HG := hid (fun v g => igoodU_any A X v hf (HZ.out v g))
  have HP := hid (@goodU_parts X)
  have hv : recV X = if goodU X then recX X else Uwzero := rfl
  obtain ⟨ok, hok⟩ : ∃ ok, ok = goodU X := ⟨_, rfl⟩
  obtain ⟨vv, hvv⟩ : ∃ v, v = recV X := ⟨_, rfl⟩
  rw [← hok] at HG HP hv ⊢
  rw [← hvv] at hv ⊢
  have HVV := hid hv
  clear hv hvv hok
  obtain ⟨⟨x0, x1, x2, x3, x4⟩, -⟩ := Uwbox hx
  clear hb hx hz hs h hf
  go_enter Try.func31, Try.ntmps31
  go_upto_region 1 with fail
  rw [← hW]
  clear hW
  go_wp2_with fail
  refine (HG.out _ HB.out).mono ?_
  rintro e w2 ⟨rfl, b2⟩
  have hlow := HS.out
  have HB2 := hid (HB.out.trans (b2.mono HB.out.size))
  have HX2 := hid ((b2.block _ (by omega)).trans HX.out)
  have HZ2 := hid ((b2.block _ (by omega)).trans HZB.out)
  obtain ⟨⟨x0, x1, x2, x3, x4⟩, -⟩ := Uwbox HX2.out
  obtain ⟨⟨a0, a1, a2, a3, a4⟩, f0, f1, f2, f3, f4⟩ := Uwbox HZ2.out
  clear b2 HG HB HX HZB
  cases ok
  · have HV : Hid (vv = Uwzero) := HVV.out
    clear HP HVV
    go_wp2_with fail
    have hfill := Uwbox (Uwfill HZ2.out (.slice none 0 0) (.slice none 0 0) (.slice none 0 0) (.int .i64 0) (.slice none 0 0))
    obtain ⟨⟨q0, q1, q2, q3, q4⟩, -⟩ := hfill
    refine bodyPost_ret (v := .tuple #[.agg #[.slice none 0 0, .slice none 0 0, .slice none 0 0, .int .i64 0, .slice none 0 0], .bool false]) (by simp [results, Try.results31, go_sem, q0, q1, q2, q3, q4]) rfl ?_
    rw [HV.out]
    exact UwOut.no (Uwfill_below HB2.out (Nat.le_succ _) _ _ _ _ _)
  · have HV : Hid (vv = recX X) := HVV.out
    obtain ⟨p1, -, p3, p4, -, -⟩ := HP.out rfl
    have hd6 : X.dk.length = 6 := by
      unfold cellsB at p3
      rw [Bool.and_eq_true] at p3
      exact of_decide_eq_true p3.1
    have HR := hid (irec_any A.d A.l A.kd A.kl X.dk X.lg w2 p1 hd6 p4 (HZ.out w2 HB2.out).d (HZ.out w2 HB2.out).l)
    clear HVV HP p1 p3 p4 hd6
    go_wp2_with fail

    refine HR.out.mono ?_
    rintro e w3 ⟨p, q, cp, cq, rfl, o1, o2, hne, hl, b3⟩
    have hs2 := HB2.out.size
    have HB3 := hid (HB2.out.trans (b3.mono HB2.out.size))
    have hlt := kbox HZ2.out
    have HZ3 := hid ((b3.block _ hlt).trans HZ2.out)
    have HO1 := hid o1
    have HO2 := hid o2
    obtain ⟨⟨a0, a1, a2, a3, a4⟩, f0, f1, f2, f3, f4⟩ := Uwbox HZ3.out
    clear HR b3 o1 o2
    go_wp2_with fail
    have hfill := Uwbox (Uwfill HZ3.out (.slice (some ⟨p, 0, none⟩) 6 cp) (.slice (some ⟨q, 0, none⟩) 6 cq) (.slice none 0 0) (.int .i64 0) (.slice none 0 0))
    obtain ⟨⟨q0, q1, q2, q3, q4⟩, -⟩ := hfill
    have hS5 : w.heap.size + 1 < w2.heap.size := hlt
    have hal1 := al_set (m := 4) (x := .slice none 0 0) (al_set (m := 3) (x := .int .i64 0) (al_set (m := 2) (x := .slice none 0 0) (al_set (m := 1) (x := .slice (some ⟨q, 0, none⟩) 6 cq) (al_set (m := 0) (x := .slice (some ⟨p, 0, none⟩) 6 cp) HO1.out hS5) hS5) hS5) hS5) hS5
    have hal2 := al_set (m := 4) (x := .slice none 0 0) (al_set (m := 3) (x := .int .i64 0) (al_set (m := 2) (x := .slice none 0 0) (al_set (m := 1) (x := .slice (some ⟨q, 0, none⟩) 6 cq) (al_set (m := 0) (x := .slice (some ⟨p, 0, none⟩) 6 cp) HO2.out hS5) hS5) hS5) hS5) hS5
    refine bodyPost_ret (v := .tuple #[.agg #[.slice (some ⟨p, 0, none⟩) 6 cp, .slice (some ⟨q, 0, none⟩) 6 cq, .slice none 0 0, .int .i64 0, .slice none 0 0], .bool true]) (by simp [results, Try.results31, go_sem, q0, q1, q2, q3, q4]) rfl ?_
    rw [HV.out]
    exact rec_out (hal1.mono (by omega)) (hal2.mono (by omega)) hne hl (Uwfill_below HB3.out (Nat.le_succ _) _ _ _ _ _)
end Go.Proofs.Ytgompioaknfjgaa
