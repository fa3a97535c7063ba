/- The program's goodLine and GoodWindow. -/
import Derived.Test.YtaiilhhkfjlkoaaNGi
namespace Go.Proofs.Ytaiilhhkfjlkoaa
set_option maxRecDepth 100000
open Go.ChangeShapes Go.WideShapes Go.ChangeAt Go.RowKit
set_option maxHeartbeats 4000000 in
theorem goodLine_any (A : Ad) (X : Wd) (w : World) (hs : X.hs.length = X.pc.length) (hf : FitW X) (h : WR w.heap.size A X w) :
    Calls Try.prog 55 #[.agg #[.slice A.p X.pc.length A.kp, .int .i64 X.sz, .slice A.h X.hd.length A.kh, .slice A.l X.ln.length A.kl, .slice A.e X.hl.length A.ke, .slice A.s X.hs.length A.ks, .int .i64 X.td]] w fun e w' => e = .returned (.bool (decide (X.ln.length ≤ 30) && X.ln.all (frK X))) ∧ Below w.heap.size w w' := by
  obtain ⟨ap, kp, ah, kh, al, kl, ae, ke, aq, kq⟩ := A
  show Calls Try.prog 55 #[.agg #[.slice ap X.pc.length kp, .int .i64 X.sz, .slice ah X.hd.length kh, .slice al X.ln.length kl, .slice ae X.hl.length ke, .slice aq X.hs.length kq, .int .i64 X.td]] w _
  have HG : Hid (∀ v fb fn ft, Below w.heap.size w v → Calls Try.prog 69 #[.agg #[.slice ap X.pc.length kp, .int .i64 X.sz, .slice ah X.hd.length kh, .slice al X.ln.length kl, .slice ae X.hl.length ke, .slice aq X.hs.length kq, .int .i64 X.td], .agg #[.bool fb, .int .i64 fn, .string ft]] v fun e w' => e = .returned (.bool (frK X ⟨fb, fn, ft⟩)) ∧ Below v.heap.size v w') := fun v fb fn ft g => goodFrame_any ⟨ap, kp, ah, kh, al, kl, ae, ke, aq, kq⟩ X fb fn ft v hs hf (h.up g g.size)
  have HZ : Hid (∀ v, Below w.heap.size w v → Fs v.heap.size al X.ln v) := fun v g => (h.l.below g).mono g.size
  have HX : Hid (∀ v, Below (w.alloc (.cells #[.slice ap X.pc.length kp, .int .i64 X.sz, .slice ah X.hd.length kh, .slice al X.ln.length kl, .slice ae X.hl.length ke, .slice aq X.hs.length kq, .int .i64 X.td] 27)).heap.size (w.alloc (.cells #[.slice ap X.pc.length kp, .int .i64 X.sz, .slice ah X.hd.length kh, .slice al X.ln.length kl, .slice ae X.hl.length ke, .slice aq X.hs.length kq, .int .i64 X.td] 27)) v → v.cell? ⟨w.heap.size, 0, none⟩ = some (.slice ap X.pc.length kp) ∧ v.cell? ⟨w.heap.size, 1, none⟩ = some (.int .i64 X.sz) ∧ v.cell? ⟨w.heap.size, 2, none⟩ = some (.slice ah X.hd.length kh) ∧ v.cell? ⟨w.heap.size, 3, none⟩ = some (.slice al X.ln.length kl) ∧ v.cell? ⟨w.heap.size, 4, none⟩ = some (.slice ae X.hl.length ke) ∧ v.cell? ⟨w.heap.size, 5, none⟩ = some (.slice aq X.hs.length kq) ∧ v.cell? ⟨w.heap.size, 6, none⟩ = some (.int .i64 X.td)) := fun v g => by
    have h1 : v.heap[w.heap.size]? = some (.cells #[.slice ap X.pc.length kp, .int .i64 X.sz, .slice ah X.hd.length kh, .slice al X.ln.length kl, .slice ae X.hl.length ke, .slice aq X.hs.length kq, .int .i64 X.td] 27) := (g.block _ (by simp)).trans (heap_last _ _)
    exact ⟨box_cell h1 0, box_cell h1 1, box_cell h1 2, box_cell h1 3, box_cell h1 4, box_cell h1 5, box_cell h1 6⟩
  have HB := hid (boxB w (.cells #[.slice ap X.pc.length kp, .int .i64 X.sz, .slice ah X.hd.length kh, .slice al X.ln.length kl, .slice ae X.hl.length ke, .slice aq X.hs.length kq, .int .i64 X.td] 27))
  have n1 := hf.l
  clear h hf hs
  by_cases hl : X.ln.length ≤ 30
  case neg =>
    have d1 : decide ((30 : Int) < (X.ln.length : Int)) = true := decide_eq_true (by omega)
    have d2 : decide (30 < X.ln.length) = true := decide_eq_true (by omega)
    rw [show (decide (X.ln.length ≤ 30) && X.ln.all (frK X)) = false from by rw [decide_eq_false hl]; rfl]
    clear hl HX HZ HG
    go_enter Try.func55, Try.ntmps55
    go_wp2_with fail
    go_ret
    exact ⟨rfl, HB.out⟩
  have d1 : decide ((30 : Int) < (X.ln.length : Int)) = false := decide_eq_false (by omega)
  have d2 : decide (30 < X.ln.length) = false := decide_eq_false (by omega)
  have HV : Hid ((decide (X.ln.length ≤ 30) && X.ln.all (frK X)) = X.ln.all (frK X)) := by show (decide (X.ln.length ≤ 30) && X.ln.all (frK X)) = X.ln.all (frK X); rw [decide_eq_true hl]; rfl
  rw [HV.out]
  clear HV
  go_enter Try.func55, Try.ntmps55
  go_wp2_with fail
  generalize w.alloc (.cells #[.slice ap X.pc.length kp, .int .i64 X.sz, .slice ah X.hd.length kh, .slice al X.ln.length kl, .slice ae X.hl.length ke, .slice aq X.hs.length kq, .int .i64 X.td] 27) = W at *
  go_loopw [12] (fun i wr => ∃ k : Nat, k ≤ X.ln.length ∧ i = .int .i64 k ∧ (∀ j (h : j < X.ln.length), j < k → frK X X.ln[j] = true) ∧ Below W.heap.size W wr) (fun i _ => X.ln.length - (intOf i).toNat)
  case atStart => exact ⟨0, Nat.zero_le _, rfl, fun _ _ h => absurd h (Nat.not_lt_zero _), Below.refl _ _⟩
  case round =>
    obtain ⟨k, hk, rfl, hall, hbel⟩ := hrel
    have HALL := hid hall
    have HBEL := hid hbel
    have HBW : Hid (Below w.heap.size w wr) := HB.out.trans (hbel.mono HB.out.size)
    clear hall hbel
    by_cases hlt : k < X.ln.length
    · obtain ⟨bl, ol, rfl, hbl, hcl⟩ := (HZ.out _ HBW.out).cell (by omega)
      obtain ⟨c0, c1, c2⟩ := hcl k hlt
      have HXA := hid (HX.out _ (HBEL.out.trans ((boxB wr (.cells #[.bool X.ln[k].back, .int .i64 X.ln[k].no, .string X.ln[k].tx] 72)).mono HBEL.out.size)))
      have HGA := hid (HG.out _ X.ln[k].back X.ln[k].no X.ln[k].tx (HBW.out.trans ((boxB wr (.cells #[.bool X.ln[k].back, .int .i64 X.ln[k].no, .string X.ln[k].tx] 72)).mono HBW.out.size)))
      have HBA := hid (HBEL.out.trans ((boxB wr (.cells #[.bool X.ln[k].back, .int .i64 X.ln[k].no, .string X.ln[k].tx] 72)).mono HBEL.out.size))
      have hJ := heap_last wr (.cells #[.bool X.ln[k].back, .int .i64 X.ln[k].no, .string X.ln[k].tx] 72)
      have j0 : (wr.alloc (.cells #[.bool X.ln[k].back, .int .i64 X.ln[k].no, .string X.ln[k].tx] 72)).cell? ⟨wr.heap.size, 0, none⟩ = some (.bool X.ln[k].back) := box_cell hJ 0
      have j1 : (wr.alloc (.cells #[.bool X.ln[k].back, .int .i64 X.ln[k].no, .string X.ln[k].tx] 72)).cell? ⟨wr.heap.size, 1, none⟩ = some (.int .i64 X.ln[k].no) := box_cell hJ 1
      have j2 : (wr.alloc (.cells #[.bool X.ln[k].back, .int .i64 X.ln[k].no, .string X.ln[k].tx] 72)).cell? ⟨wr.heap.size, 2, none⟩ = some (.string X.ln[k].tx) := box_cell hJ 2
      have HT : Hid (frK X X.ln[k] = false → X.ln.all (frK X) = false) := fun h => List.all_eq_false.2 ⟨_, List.getElem_mem hlt, by rw [h]; decide⟩
      have HN : Hid (frK X X.ln[k] = true → ∀ j (h : j < X.ln.length), j < k + 1 → frK X X.ln[j] = true) := fun h j hj hjk => by
        by_cases e : j = k
        · subst e; exact h
        · exact HALL.out j hj (by omega)
      obtain ⟨x0, x1, x2, x3, x4, x5, x6⟩ := HXA.out
      clear hcl hJ HALL HXA
      generalize X.ln[k] = f at *
      obtain ⟨fb, fn, ft⟩ := f
      simp only at c0 c1 c2 j0 j1 j2 HGA HBA x0 x1 x2 x3 x4 x5 x6
      go_wp2_with fail
      refine HGA.out.mono ?_
      rintro e w9 ⟨rfl, b9⟩
      have HB9 := hid (HBA.out.trans (b9.mono HBA.out.size))
      clear b9 HGA HBA x0 x1 x2 x3 x4 x5 x6 j0 j1 j2
      cases hv : frK X ⟨fb, fn, ft⟩
      · have HE := hid (HT.out hv)
        clear HT HN hv
        go_wp2_with fail
        go_ret
        exact ⟨ret_bN HE.out.symm, HB.out.trans (HB9.out.mono HB.out.size)⟩
      · have HE := hid (HN.out hv)
        clear HT HN hv
        go_wp2_with fail
        go_roundw
        case rel => exact ⟨k + 1, by omega, by go_num, HE.out, HB9.out⟩
        case measure => simp [intOf]; omega
    · have HE : Hid (X.ln.all (frK X) = true) := List.all_eq_true.2 fun x hx => by
        obtain ⟨j, hj, rfl⟩ := List.getElem_of_mem hx
        exact HALL.out j hj (by omega)
      clear HALL
      go_wp2_with fail
      go_ret
      exact ⟨ret_bN HE.out.symm, HBW.out⟩

end Go.Proofs.Ytaiilhhkfjlkoaa
