/- The program's GoodWindow: its walk. -/
import Derived.Test.YtaiilhhkfjlkoaaNGood
namespace Go.Proofs.Ytaiilhhkfjlkoaa
set_option maxRecDepth 100000
open Go.ChangeShapes Go.WideShapes Go.ChangeAt Go.RowKit
theorem Ss.at {B : Nat} {a : Option Addr} {l : List ByteArray} {w : World} (h : Ss B a l w) (k : Nat) (hk : k < l.length) : ∃ b off, a = some ⟨b, off, none⟩ ∧ b < B ∧ w.cell? ⟨b, off + k, none⟩ = some (.string l[k]) := by
  obtain ⟨b, off, e, hb, hc⟩ := h.cell (by omega)
  exact ⟨b, off, e, hb, hc k hk⟩
theorem Bs.at {B : Nat} {a : Option Addr} {l : List Bool} {w : World} (h : Bs B a l w) (k : Nat) (hk : k < l.length) : ∃ b off, a = some ⟨b, off, none⟩ ∧ b < B ∧ w.cell? ⟨b, off + k, none⟩ = some (.bool l[k]) := by
  obtain ⟨b, off, e, hb, hc⟩ := h.cell (by omega)
  exact ⟨b, off, e, hb, hc k hk⟩
set_option maxHeartbeats 2000000 in
theorem goodEnds_any (A : Ad) (X : Wd) (k : Nat) (w : World) (hp : k < X.pc.length) (hh : k < X.hd.length) (he : k < X.hl.length) (hs : k < X.hs.length) (hf : FitW X) (h : WR w.heap.size A X w) :
    Calls Try.prog 53 #[.agg #[.slice A.p X.pc.length A.kp, .int .i64 X.sz, .slice A.h X.hd.length A.kh, .slice A.l X.ln.length A.kl, .slice A.e X.hl.length A.ke, .slice A.s X.hs.length A.ks, .int .i64 X.td], .int .i64 k] w fun e w' => e = .returned (.bool (endK X k)) ∧ Below w.heap.size w w' := by
  obtain ⟨ap, kp, ah, kh, al, kl, ae, ke, aq, kq⟩ := A
  obtain ⟨bp, op, rfl, hbp, cp⟩ := (show Ss w.heap.size ap X.pc w from h.p).at k hp
  obtain ⟨bh, oh, rfl, hbh, ch⟩ := (show Bs w.heap.size ah X.hd w from h.h).at k hh
  obtain ⟨be, oe, rfl, hbe, ce⟩ := (show Ss w.heap.size ae X.hl w from h.e).at k he
  obtain ⟨bs, os, rfl, hbs, cs⟩ := (show Bs w.heap.size aq X.hs w from h.s).at k hs
  show Calls Try.prog 53 #[.agg #[.slice (some ⟨bp, op, none⟩) X.pc.length kp, .int .i64 X.sz, .slice (some ⟨bh, oh, none⟩) X.hd.length kh, .slice al X.ln.length kl, .slice (some ⟨be, oe, none⟩) X.hl.length ke, .slice (some ⟨bs, os, none⟩) X.hs.length kq, .int .i64 X.td], .int .i64 k] w _
  have HB := hid (boxB w (.cells #[.slice (some ⟨bp, op, none⟩) X.pc.length kp, .int .i64 X.sz, .slice (some ⟨bh, oh, none⟩) X.hd.length kh, .slice al X.ln.length kl, .slice (some ⟨be, oe, none⟩) X.hl.length ke, .slice (some ⟨bs, os, none⟩) X.hs.length kq, .int .i64 X.td] 27))
  have HK := hid (heap_last w (.cells #[.slice (some ⟨bp, op, none⟩) X.pc.length kp, .int .i64 X.sz, .slice (some ⟨bh, oh, none⟩) X.hd.length kh, .slice al X.ln.length kl, .slice (some ⟨be, oe, none⟩) X.hl.length ke, .slice (some ⟨bs, os, none⟩) X.hs.length kq, .int .i64 X.td] 27))
  have dp := ((boxB w (.cells #[.slice (some ⟨bp, op, none⟩) X.pc.length kp, .int .i64 X.sz, .slice (some ⟨bh, oh, none⟩) X.hd.length kh, .slice al X.ln.length kl, .slice (some ⟨be, oe, none⟩) X.hl.length ke, .slice (some ⟨bs, os, none⟩) X.hs.length kq, .int .i64 X.td] 27)).cell (p := ⟨bp, op + k, none⟩) hbp).trans cp
  have dh := ((boxB w (.cells #[.slice (some ⟨bp, op, none⟩) X.pc.length kp, .int .i64 X.sz, .slice (some ⟨bh, oh, none⟩) X.hd.length kh, .slice al X.ln.length kl, .slice (some ⟨be, oe, none⟩) X.hl.length ke, .slice (some ⟨bs, os, none⟩) X.hs.length kq, .int .i64 X.td] 27)).cell (p := ⟨bh, oh + k, none⟩) hbh).trans ch
  have de := ((boxB w (.cells #[.slice (some ⟨bp, op, none⟩) X.pc.length kp, .int .i64 X.sz, .slice (some ⟨bh, oh, none⟩) X.hd.length kh, .slice al X.ln.length kl, .slice (some ⟨be, oe, none⟩) X.hl.length ke, .slice (some ⟨bs, os, none⟩) X.hs.length kq, .int .i64 X.td] 27)).cell (p := ⟨be, oe + k, none⟩) hbe).trans ce
  have ds := ((boxB w (.cells #[.slice (some ⟨bp, op, none⟩) X.pc.length kp, .int .i64 X.sz, .slice (some ⟨bh, oh, none⟩) X.hd.length kh, .slice al X.ln.length kl, .slice (some ⟨be, oe, none⟩) X.hl.length ke, .slice (some ⟨bs, os, none⟩) X.hs.length kq, .int .i64 X.td] 27)).cell (p := ⟨bs, os + k, none⟩) hbs).trans cs
  have HE : Hid (endK X k = eOk X.hs[k] X.hl[k] X.pc[k] X.hd[k]) := by
    show endK X k = _
    unfold endK
    rw [getD_at hp, getD_at hh, getD_at he, getD_at hs]
  have n1 := hf.p
  have n2 := hf.h
  have n3 := hf.e
  have n4 := hf.s
  clear h hf cp ch ce cs
  generalize X.hs[k] = has at *
  generalize X.hl[k] = held at *
  generalize X.pc[k] = piece at *
  generalize X.hd[k] = heard at *
  rw [HE.out]
  clear HE
  have x0 : (w.alloc (.cells #[.slice (some ⟨bp, op, none⟩) X.pc.length kp, .int .i64 X.sz, .slice (some ⟨bh, oh, none⟩) X.hd.length kh, .slice al X.ln.length kl, .slice (some ⟨be, oe, none⟩) X.hl.length ke, .slice (some ⟨bs, os, none⟩) X.hs.length kq, .int .i64 X.td] 27)).cell? ⟨w.heap.size, 0, none⟩ = some (.slice (some ⟨bp, op, none⟩) X.pc.length kp) := box_cell HK.out 0
  have x1 : (w.alloc (.cells #[.slice (some ⟨bp, op, none⟩) X.pc.length kp, .int .i64 X.sz, .slice (some ⟨bh, oh, none⟩) X.hd.length kh, .slice al X.ln.length kl, .slice (some ⟨be, oe, none⟩) X.hl.length ke, .slice (some ⟨bs, os, none⟩) X.hs.length kq, .int .i64 X.td] 27)).cell? ⟨w.heap.size, 1, none⟩ = some (.int .i64 X.sz) := box_cell HK.out 1
  have x2 : (w.alloc (.cells #[.slice (some ⟨bp, op, none⟩) X.pc.length kp, .int .i64 X.sz, .slice (some ⟨bh, oh, none⟩) X.hd.length kh, .slice al X.ln.length kl, .slice (some ⟨be, oe, none⟩) X.hl.length ke, .slice (some ⟨bs, os, none⟩) X.hs.length kq, .int .i64 X.td] 27)).cell? ⟨w.heap.size, 2, none⟩ = some (.slice (some ⟨bh, oh, none⟩) X.hd.length kh) := box_cell HK.out 2
  have x3 : (w.alloc (.cells #[.slice (some ⟨bp, op, none⟩) X.pc.length kp, .int .i64 X.sz, .slice (some ⟨bh, oh, none⟩) X.hd.length kh, .slice al X.ln.length kl, .slice (some ⟨be, oe, none⟩) X.hl.length ke, .slice (some ⟨bs, os, none⟩) X.hs.length kq, .int .i64 X.td] 27)).cell? ⟨w.heap.size, 3, none⟩ = some (.slice al X.ln.length kl) := box_cell HK.out 3
  have x4 : (w.alloc (.cells #[.slice (some ⟨bp, op, none⟩) X.pc.length kp, .int .i64 X.sz, .slice (some ⟨bh, oh, none⟩) X.hd.length kh, .slice al X.ln.length kl, .slice (some ⟨be, oe, none⟩) X.hl.length ke, .slice (some ⟨bs, os, none⟩) X.hs.length kq, .int .i64 X.td] 27)).cell? ⟨w.heap.size, 4, none⟩ = some (.slice (some ⟨be, oe, none⟩) X.hl.length ke) := box_cell HK.out 4
  have x5 : (w.alloc (.cells #[.slice (some ⟨bp, op, none⟩) X.pc.length kp, .int .i64 X.sz, .slice (some ⟨bh, oh, none⟩) X.hd.length kh, .slice al X.ln.length kl, .slice (some ⟨be, oe, none⟩) X.hl.length ke, .slice (some ⟨bs, os, none⟩) X.hs.length kq, .int .i64 X.td] 27)).cell? ⟨w.heap.size, 5, none⟩ = some (.slice (some ⟨bs, os, none⟩) X.hs.length kq) := box_cell HK.out 5
  have x6 : (w.alloc (.cells #[.slice (some ⟨bp, op, none⟩) X.pc.length kp, .int .i64 X.sz, .slice (some ⟨bh, oh, none⟩) X.hd.length kh, .slice al X.ln.length kl, .slice (some ⟨be, oe, none⟩) X.hl.length ke, .slice (some ⟨bs, os, none⟩) X.hs.length kq, .int .i64 X.td] 27)).cell? ⟨w.heap.size, 6, none⟩ = some (.int .i64 X.td) := box_cell HK.out 6
  cases has
  · by_cases hq : held.toList = []
    · have q1 : (held.toList == []) = true := by rw [hq]; rfl
      have HQ : Hid (eOk false held piece heard = !heard) := by show (sNil held && !heard) = _; unfold sNil; rw [q1]; rfl
      rw [HQ.out]
      go_enter Try.func53, Try.ntmps53
      go_wp2_with fail
      go_ret
      exact ⟨rfl, HB.out⟩
    · have q1 : (held.toList == []) = false := by simpa using hq
      have HQ : Hid (eOk false held piece heard = false) := by show (sNil held && !heard) = _; unfold sNil; rw [q1]; rfl
      rw [HQ.out]
      go_enter Try.func53, Try.ntmps53
      go_wp2_with fail
      go_ret
      exact ⟨rfl, HB.out⟩
  · have HQ : Hid (eOk true held piece heard = (held.toList == piece.toList)) := rfl
    rw [HQ.out]
    go_enter Try.func53, Try.ntmps53
    go_wp2_with fail
    go_quiet (fail)
    go_wp2_with fail
    go_ret
    exact ⟨rfl, HB.out.trans ((belowN _ _).mono HB.out.size)⟩

set_option maxHeartbeats 4000000 in
theorem goodFrame_any (A : Ad) (X : Wd) (fb : Bool) (fn : Int) (ft : ByteArray) (w : World) (hs : X.hs.length = X.pc.length) (hf : FitW X) (h : WR w.heap.size A X w) :
    Calls Try.prog 69 #[.agg #[.slice A.p X.pc.length A.kp, .int .i64 X.sz, .slice A.h X.hd.length A.kh, .slice A.l X.ln.length A.kl, .slice A.e X.hl.length A.ke, .slice A.s X.hs.length A.ks, .int .i64 X.td], .agg #[.bool fb, .int .i64 fn, .string ft]] w fun e w' => e = .returned (.bool (frK X ⟨fb, fn, ft⟩)) ∧ Below w.heap.size w w' := by
  obtain ⟨ap, kp, ah, kh, al, kl, ae, ke, aq, kq⟩ := A
  show Calls Try.prog 69 #[.agg #[.slice ap X.pc.length kp, .int .i64 X.sz, .slice ah X.hd.length kh, .slice al X.ln.length kl, .slice ae X.hl.length ke, .slice aq X.hs.length kq, .int .i64 X.td], .agg #[.bool fb, .int .i64 fn, .string ft]] w _
  have n1 := hf.p
  have n4 := hf.s
  by_cases hr : 0 ≤ fn ∧ fn < X.pc.length
  case neg =>
    have HB := hid (((Below.refl w.heap.size w).alloc (Nat.le_refl _) (.cells #[.slice ap X.pc.length kp, .int .i64 X.sz, .slice ah X.hd.length kh, .slice al X.ln.length kl, .slice ae X.hl.length ke, .slice aq X.hs.length kq, .int .i64 X.td] 27)).alloc (show w.heap.size ≤ (w.alloc (.cells #[.slice ap X.pc.length kp, .int .i64 X.sz, .slice ah X.hd.length kh, .slice al X.ln.length kl, .slice ae X.hl.length ke, .slice aq X.hs.length kq, .int .i64 X.td] 27)).heap.size by simp) (.cells #[.bool fb, .int .i64 fn, .string ft] 72))
    have HK := hid (heap_mid2 w (.cells #[.slice ap X.pc.length kp, .int .i64 X.sz, .slice ah X.hd.length kh, .slice al X.ln.length kl, .slice ae X.hl.length ke, .slice aq X.hs.length kq, .int .i64 X.td] 27) (.cells #[.bool fb, .int .i64 fn, .string ft] 72))
    have HJ := hid (heap_last2 w (.cells #[.slice ap X.pc.length kp, .int .i64 X.sz, .slice ah X.hd.length kh, .slice al X.ln.length kl, .slice ae X.hl.length ke, .slice aq X.hs.length kq, .int .i64 X.td] 27) (.cells #[.bool fb, .int .i64 fn, .string ft] 72))
    have x0 : ((w.alloc (.cells #[.slice ap X.pc.length kp, .int .i64 X.sz, .slice ah X.hd.length kh, .slice al X.ln.length kl, .slice ae X.hl.length ke, .slice aq X.hs.length kq, .int .i64 X.td] 27)).alloc (.cells #[.bool fb, .int .i64 fn, .string ft] 72)).cell? ⟨w.heap.size, 0, none⟩ = some (.slice ap X.pc.length kp) := box_cell HK.out 0
    have x1 : ((w.alloc (.cells #[.slice ap X.pc.length kp, .int .i64 X.sz, .slice ah X.hd.length kh, .slice al X.ln.length kl, .slice ae X.hl.length ke, .slice aq X.hs.length kq, .int .i64 X.td] 27)).alloc (.cells #[.bool fb, .int .i64 fn, .string ft] 72)).cell? ⟨w.heap.size, 1, none⟩ = some (.int .i64 X.sz) := box_cell HK.out 1
    have x2 : ((w.alloc (.cells #[.slice ap X.pc.length kp, .int .i64 X.sz, .slice ah X.hd.length kh, .slice al X.ln.length kl, .slice ae X.hl.length ke, .slice aq X.hs.length kq, .int .i64 X.td] 27)).alloc (.cells #[.bool fb, .int .i64 fn, .string ft] 72)).cell? ⟨w.heap.size, 2, none⟩ = some (.slice ah X.hd.length kh) := box_cell HK.out 2
    have x3 : ((w.alloc (.cells #[.slice ap X.pc.length kp, .int .i64 X.sz, .slice ah X.hd.length kh, .slice al X.ln.length kl, .slice ae X.hl.length ke, .slice aq X.hs.length kq, .int .i64 X.td] 27)).alloc (.cells #[.bool fb, .int .i64 fn, .string ft] 72)).cell? ⟨w.heap.size, 3, none⟩ = some (.slice al X.ln.length kl) := box_cell HK.out 3
    have x4 : ((w.alloc (.cells #[.slice ap X.pc.length kp, .int .i64 X.sz, .slice ah X.hd.length kh, .slice al X.ln.length kl, .slice ae X.hl.length ke, .slice aq X.hs.length kq, .int .i64 X.td] 27)).alloc (.cells #[.bool fb, .int .i64 fn, .string ft] 72)).cell? ⟨w.heap.size, 4, none⟩ = some (.slice ae X.hl.length ke) := box_cell HK.out 4
    have x5 : ((w.alloc (.cells #[.slice ap X.pc.length kp, .int .i64 X.sz, .slice ah X.hd.length kh, .slice al X.ln.length kl, .slice ae X.hl.length ke, .slice aq X.hs.length kq, .int .i64 X.td] 27)).alloc (.cells #[.bool fb, .int .i64 fn, .string ft] 72)).cell? ⟨w.heap.size, 5, none⟩ = some (.slice aq X.hs.length kq) := box_cell HK.out 5
    have x6 : ((w.alloc (.cells #[.slice ap X.pc.length kp, .int .i64 X.sz, .slice ah X.hd.length kh, .slice al X.ln.length kl, .slice ae X.hl.length ke, .slice aq X.hs.length kq, .int .i64 X.td] 27)).alloc (.cells #[.bool fb, .int .i64 fn, .string ft] 72)).cell? ⟨w.heap.size, 6, none⟩ = some (.int .i64 X.td) := box_cell HK.out 6
    have y0 : ((w.alloc (.cells #[.slice ap X.pc.length kp, .int .i64 X.sz, .slice ah X.hd.length kh, .slice al X.ln.length kl, .slice ae X.hl.length ke, .slice aq X.hs.length kq, .int .i64 X.td] 27)).alloc (.cells #[.bool fb, .int .i64 fn, .string ft] 72)).cell? ⟨w.heap.size + 1, 0, none⟩ = some (.bool fb) := box_cell HJ.out 0
    have y1 : ((w.alloc (.cells #[.slice ap X.pc.length kp, .int .i64 X.sz, .slice ah X.hd.length kh, .slice al X.ln.length kl, .slice ae X.hl.length ke, .slice aq X.hs.length kq, .int .i64 X.td] 27)).alloc (.cells #[.bool fb, .int .i64 fn, .string ft] 72)).cell? ⟨w.heap.size + 1, 1, none⟩ = some (.int .i64 fn) := box_cell HJ.out 1
    have y2 : ((w.alloc (.cells #[.slice ap X.pc.length kp, .int .i64 X.sz, .slice ah X.hd.length kh, .slice al X.ln.length kl, .slice ae X.hl.length ke, .slice aq X.hs.length kq, .int .i64 X.td] 27)).alloc (.cells #[.bool fb, .int .i64 fn, .string ft] 72)).cell? ⟨w.heap.size + 1, 2, none⟩ = some (.string ft) := box_cell HJ.out 2

    have HE : Hid (frK X ⟨fb, fn, ft⟩ = false) := by
      show (decide (0 ≤ fn ∧ fn < (X.pc.length : Int)) && _) = false
      rw [decide_eq_false hr]; rfl
    rw [HE.out]
    clear h hf hs
    by_cases h0 : fn < 0
    · have d1 : decide (fn < 0) = true := decide_eq_true h0
      go_enter Try.func69, Try.ntmps69
      go_wp2_with fail
      go_ret
      exact ⟨rfl, HB.out⟩
    · have d1 : decide (fn < 0) = false := decide_eq_false h0
      have d2 : decide ((X.pc.length : Int) ≤ fn) = true := decide_eq_true (by omega)
      clear hr
      go_enter Try.func69, Try.ntmps69
      go_wp2_with fail
      go_ret
      exact ⟨rfl, HB.out⟩
  obtain ⟨k, rfl⟩ : ∃ k : Nat, fn = k := ⟨fn.toNat, by omega⟩
  have hp : k < X.pc.length := by omega
  have hq : k < X.hs.length := by omega
  have d1 : decide ((k : Int) < 0) = false := decide_eq_false (by omega)
  have d2 : decide ((X.pc.length : Int) ≤ (k : Int)) = false := decide_eq_false (by omega)
  have d3 : decide (X.pc.length ≤ k) = false := decide_eq_false (by omega)
  have HE : Hid (frK X ⟨fb, (k : Int), ft⟩ = cond fb (sNil ft && X.hs[k]) (sEq ft X.pc[k])) := by
    show (decide (0 ≤ (k : Int) ∧ (k : Int) < (X.pc.length : Int)) && cond fb (sNil ft && X.hs.getD (k : Int).toNat false) (sEq ft (X.pc.getD (k : Int).toNat ⟨#[]⟩))) = _
    rw [decide_eq_true hr, Int.toNat_natCast, getD_at hp, getD_at hq]; rfl
  clear hr
  cases fb
  · obtain ⟨bp, op, rfl, hbp, cp⟩ := (show Ss w.heap.size ap X.pc w from h.p).at k hp
    have HB := hid (((Below.refl w.heap.size w).alloc (Nat.le_refl _) (.cells #[.slice (some ⟨bp, op, none⟩) X.pc.length kp, .int .i64 X.sz, .slice ah X.hd.length kh, .slice al X.ln.length kl, .slice ae X.hl.length ke, .slice aq X.hs.length kq, .int .i64 X.td] 27)).alloc (show w.heap.size ≤ (w.alloc (.cells #[.slice (some ⟨bp, op, none⟩) X.pc.length kp, .int .i64 X.sz, .slice ah X.hd.length kh, .slice al X.ln.length kl, .slice ae X.hl.length ke, .slice aq X.hs.length kq, .int .i64 X.td] 27)).heap.size by simp) (.cells #[.bool false, .int .i64 (k : Int), .string ft] 72))
    have HK := hid (heap_mid2 w (.cells #[.slice (some ⟨bp, op, none⟩) X.pc.length kp, .int .i64 X.sz, .slice ah X.hd.length kh, .slice al X.ln.length kl, .slice ae X.hl.length ke, .slice aq X.hs.length kq, .int .i64 X.td] 27) (.cells #[.bool false, .int .i64 (k : Int), .string ft] 72))
    have HJ := hid (heap_last2 w (.cells #[.slice (some ⟨bp, op, none⟩) X.pc.length kp, .int .i64 X.sz, .slice ah X.hd.length kh, .slice al X.ln.length kl, .slice ae X.hl.length ke, .slice aq X.hs.length kq, .int .i64 X.td] 27) (.cells #[.bool false, .int .i64 (k : Int), .string ft] 72))
    have x0 : ((w.alloc (.cells #[.slice (some ⟨bp, op, none⟩) X.pc.length kp, .int .i64 X.sz, .slice ah X.hd.length kh, .slice al X.ln.length kl, .slice ae X.hl.length ke, .slice aq X.hs.length kq, .int .i64 X.td] 27)).alloc (.cells #[.bool false, .int .i64 (k : Int), .string ft] 72)).cell? ⟨w.heap.size, 0, none⟩ = some (.slice (some ⟨bp, op, none⟩) X.pc.length kp) := box_cell HK.out 0
    have x1 : ((w.alloc (.cells #[.slice (some ⟨bp, op, none⟩) X.pc.length kp, .int .i64 X.sz, .slice ah X.hd.length kh, .slice al X.ln.length kl, .slice ae X.hl.length ke, .slice aq X.hs.length kq, .int .i64 X.td] 27)).alloc (.cells #[.bool false, .int .i64 (k : Int), .string ft] 72)).cell? ⟨w.heap.size, 1, none⟩ = some (.int .i64 X.sz) := box_cell HK.out 1
    have x2 : ((w.alloc (.cells #[.slice (some ⟨bp, op, none⟩) X.pc.length kp, .int .i64 X.sz, .slice ah X.hd.length kh, .slice al X.ln.length kl, .slice ae X.hl.length ke, .slice aq X.hs.length kq, .int .i64 X.td] 27)).alloc (.cells #[.bool false, .int .i64 (k : Int), .string ft] 72)).cell? ⟨w.heap.size, 2, none⟩ = some (.slice ah X.hd.length kh) := box_cell HK.out 2
    have x3 : ((w.alloc (.cells #[.slice (some ⟨bp, op, none⟩) X.pc.length kp, .int .i64 X.sz, .slice ah X.hd.length kh, .slice al X.ln.length kl, .slice ae X.hl.length ke, .slice aq X.hs.length kq, .int .i64 X.td] 27)).alloc (.cells #[.bool false, .int .i64 (k : Int), .string ft] 72)).cell? ⟨w.heap.size, 3, none⟩ = some (.slice al X.ln.length kl) := box_cell HK.out 3
    have x4 : ((w.alloc (.cells #[.slice (some ⟨bp, op, none⟩) X.pc.length kp, .int .i64 X.sz, .slice ah X.hd.length kh, .slice al X.ln.length kl, .slice ae X.hl.length ke, .slice aq X.hs.length kq, .int .i64 X.td] 27)).alloc (.cells #[.bool false, .int .i64 (k : Int), .string ft] 72)).cell? ⟨w.heap.size, 4, none⟩ = some (.slice ae X.hl.length ke) := box_cell HK.out 4
    have x5 : ((w.alloc (.cells #[.slice (some ⟨bp, op, none⟩) X.pc.length kp, .int .i64 X.sz, .slice ah X.hd.length kh, .slice al X.ln.length kl, .slice ae X.hl.length ke, .slice aq X.hs.length kq, .int .i64 X.td] 27)).alloc (.cells #[.bool false, .int .i64 (k : Int), .string ft] 72)).cell? ⟨w.heap.size, 5, none⟩ = some (.slice aq X.hs.length kq) := box_cell HK.out 5
    have x6 : ((w.alloc (.cells #[.slice (some ⟨bp, op, none⟩) X.pc.length kp, .int .i64 X.sz, .slice ah X.hd.length kh, .slice al X.ln.length kl, .slice ae X.hl.length ke, .slice aq X.hs.length kq, .int .i64 X.td] 27)).alloc (.cells #[.bool false, .int .i64 (k : Int), .string ft] 72)).cell? ⟨w.heap.size, 6, none⟩ = some (.int .i64 X.td) := box_cell HK.out 6
    have y0 : ((w.alloc (.cells #[.slice (some ⟨bp, op, none⟩) X.pc.length kp, .int .i64 X.sz, .slice ah X.hd.length kh, .slice al X.ln.length kl, .slice ae X.hl.length ke, .slice aq X.hs.length kq, .int .i64 X.td] 27)).alloc (.cells #[.bool false, .int .i64 (k : Int), .string ft] 72)).cell? ⟨w.heap.size + 1, 0, none⟩ = some (.bool false) := box_cell HJ.out 0
    have y1 : ((w.alloc (.cells #[.slice (some ⟨bp, op, none⟩) X.pc.length kp, .int .i64 X.sz, .slice ah X.hd.length kh, .slice al X.ln.length kl, .slice ae X.hl.length ke, .slice aq X.hs.length kq, .int .i64 X.td] 27)).alloc (.cells #[.bool false, .int .i64 (k : Int), .string ft] 72)).cell? ⟨w.heap.size + 1, 1, none⟩ = some (.int .i64 (k : Int)) := box_cell HJ.out 1
    have y2 : ((w.alloc (.cells #[.slice (some ⟨bp, op, none⟩) X.pc.length kp, .int .i64 X.sz, .slice ah X.hd.length kh, .slice al X.ln.length kl, .slice ae X.hl.length ke, .slice aq X.hs.length kq, .int .i64 X.td] 27)).alloc (.cells #[.bool false, .int .i64 (k : Int), .string ft] 72)).cell? ⟨w.heap.size + 1, 2, none⟩ = some (.string ft) := box_cell HJ.out 2
    have dp := (HB.out.cell (p := ⟨bp, op + k, none⟩) hbp).trans cp
    clear h hf hs cp
    generalize X.hs[k] = has at *
    generalize X.pc[k] = piece at *
    rw [HE.out]
    clear HE
    show Calls _ _ _ _ fun e w' => e = .returned (.bool (ft.toList == piece.toList)) ∧ Below w.heap.size w w'
    go_enter Try.func69, Try.ntmps69
    go_wp2_with fail
    go_quiet (fail)
    go_wp2_with fail
    go_ret
    exact ⟨rfl, HB.out.trans ((belowN _ _).mono HB.out.size)⟩
  · obtain ⟨bs, os, rfl, hbs, cs⟩ := (show Bs w.heap.size aq X.hs w from h.s).at k hq
    have HB := hid (((Below.refl w.heap.size w).alloc (Nat.le_refl _) (.cells #[.slice ap X.pc.length kp, .int .i64 X.sz, .slice ah X.hd.length kh, .slice al X.ln.length kl, .slice ae X.hl.length ke, .slice (some ⟨bs, os, none⟩) X.hs.length kq, .int .i64 X.td] 27)).alloc (show w.heap.size ≤ (w.alloc (.cells #[.slice ap X.pc.length kp, .int .i64 X.sz, .slice ah X.hd.length kh, .slice al X.ln.length kl, .slice ae X.hl.length ke, .slice (some ⟨bs, os, none⟩) X.hs.length kq, .int .i64 X.td] 27)).heap.size by simp) (.cells #[.bool true, .int .i64 (k : Int), .string ft] 72))
    have HK := hid (heap_mid2 w (.cells #[.slice ap X.pc.length kp, .int .i64 X.sz, .slice ah X.hd.length kh, .slice al X.ln.length kl, .slice ae X.hl.length ke, .slice (some ⟨bs, os, none⟩) X.hs.length kq, .int .i64 X.td] 27) (.cells #[.bool true, .int .i64 (k : Int), .string ft] 72))
    have HJ := hid (heap_last2 w (.cells #[.slice ap X.pc.length kp, .int .i64 X.sz, .slice ah X.hd.length kh, .slice al X.ln.length kl, .slice ae X.hl.length ke, .slice (some ⟨bs, os, none⟩) X.hs.length kq, .int .i64 X.td] 27) (.cells #[.bool true, .int .i64 (k : Int), .string ft] 72))
    have x0 : ((w.alloc (.cells #[.slice ap X.pc.length kp, .int .i64 X.sz, .slice ah X.hd.length kh, .slice al X.ln.length kl, .slice ae X.hl.length ke, .slice (some ⟨bs, os, none⟩) X.hs.length kq, .int .i64 X.td] 27)).alloc (.cells #[.bool true, .int .i64 (k : Int), .string ft] 72)).cell? ⟨w.heap.size, 0, none⟩ = some (.slice ap X.pc.length kp) := box_cell HK.out 0
    have x1 : ((w.alloc (.cells #[.slice ap X.pc.length kp, .int .i64 X.sz, .slice ah X.hd.length kh, .slice al X.ln.length kl, .slice ae X.hl.length ke, .slice (some ⟨bs, os, none⟩) X.hs.length kq, .int .i64 X.td] 27)).alloc (.cells #[.bool true, .int .i64 (k : Int), .string ft] 72)).cell? ⟨w.heap.size, 1, none⟩ = some (.int .i64 X.sz) := box_cell HK.out 1
    have x2 : ((w.alloc (.cells #[.slice ap X.pc.length kp, .int .i64 X.sz, .slice ah X.hd.length kh, .slice al X.ln.length kl, .slice ae X.hl.length ke, .slice (some ⟨bs, os, none⟩) X.hs.length kq, .int .i64 X.td] 27)).alloc (.cells #[.bool true, .int .i64 (k : Int), .string ft] 72)).cell? ⟨w.heap.size, 2, none⟩ = some (.slice ah X.hd.length kh) := box_cell HK.out 2
    have x3 : ((w.alloc (.cells #[.slice ap X.pc.length kp, .int .i64 X.sz, .slice ah X.hd.length kh, .slice al X.ln.length kl, .slice ae X.hl.length ke, .slice (some ⟨bs, os, none⟩) X.hs.length kq, .int .i64 X.td] 27)).alloc (.cells #[.bool true, .int .i64 (k : Int), .string ft] 72)).cell? ⟨w.heap.size, 3, none⟩ = some (.slice al X.ln.length kl) := box_cell HK.out 3
    have x4 : ((w.alloc (.cells #[.slice ap X.pc.length kp, .int .i64 X.sz, .slice ah X.hd.length kh, .slice al X.ln.length kl, .slice ae X.hl.length ke, .slice (some ⟨bs, os, none⟩) X.hs.length kq, .int .i64 X.td] 27)).alloc (.cells #[.bool true, .int .i64 (k : Int), .string ft] 72)).cell? ⟨w.heap.size, 4, none⟩ = some (.slice ae X.hl.length ke) := box_cell HK.out 4
    have x5 : ((w.alloc (.cells #[.slice ap X.pc.length kp, .int .i64 X.sz, .slice ah X.hd.length kh, .slice al X.ln.length kl, .slice ae X.hl.length ke, .slice (some ⟨bs, os, none⟩) X.hs.length kq, .int .i64 X.td] 27)).alloc (.cells #[.bool true, .int .i64 (k : Int), .string ft] 72)).cell? ⟨w.heap.size, 5, none⟩ = some (.slice (some ⟨bs, os, none⟩) X.hs.length kq) := box_cell HK.out 5
    have x6 : ((w.alloc (.cells #[.slice ap X.pc.length kp, .int .i64 X.sz, .slice ah X.hd.length kh, .slice al X.ln.length kl, .slice ae X.hl.length ke, .slice (some ⟨bs, os, none⟩) X.hs.length kq, .int .i64 X.td] 27)).alloc (.cells #[.bool true, .int .i64 (k : Int), .string ft] 72)).cell? ⟨w.heap.size, 6, none⟩ = some (.int .i64 X.td) := box_cell HK.out 6
    have y0 : ((w.alloc (.cells #[.slice ap X.pc.length kp, .int .i64 X.sz, .slice ah X.hd.length kh, .slice al X.ln.length kl, .slice ae X.hl.length ke, .slice (some ⟨bs, os, none⟩) X.hs.length kq, .int .i64 X.td] 27)).alloc (.cells #[.bool true, .int .i64 (k : Int), .string ft] 72)).cell? ⟨w.heap.size + 1, 0, none⟩ = some (.bool true) := box_cell HJ.out 0
    have y1 : ((w.alloc (.cells #[.slice ap X.pc.length kp, .int .i64 X.sz, .slice ah X.hd.length kh, .slice al X.ln.length kl, .slice ae X.hl.length ke, .slice (some ⟨bs, os, none⟩) X.hs.length kq, .int .i64 X.td] 27)).alloc (.cells #[.bool true, .int .i64 (k : Int), .string ft] 72)).cell? ⟨w.heap.size + 1, 1, none⟩ = some (.int .i64 (k : Int)) := box_cell HJ.out 1
    have y2 : ((w.alloc (.cells #[.slice ap X.pc.length kp, .int .i64 X.sz, .slice ah X.hd.length kh, .slice al X.ln.length kl, .slice ae X.hl.length ke, .slice (some ⟨bs, os, none⟩) X.hs.length kq, .int .i64 X.td] 27)).alloc (.cells #[.bool true, .int .i64 (k : Int), .string ft] 72)).cell? ⟨w.heap.size + 1, 2, none⟩ = some (.string ft) := box_cell HJ.out 2
    have ds := (HB.out.cell (p := ⟨bs, os + k, none⟩) hbs).trans cs
    clear h hf hs cs
    generalize X.hs[k] = has at *
    generalize X.pc[k] = piece at *
    rw [HE.out]
    clear HE
    by_cases hz : ft.toList = []
    · have q1 : (ft.toList == []) = true := by rw [hz]; rfl
      have HQ : Hid (cond true (sNil ft && has) (sEq ft piece) = has) := by show (sNil ft && has) = has; unfold sNil; rw [q1]; rfl
      rw [HQ.out]
      go_enter Try.func69, Try.ntmps69
      go_wp2_with fail
      go_ret
      exact ⟨rfl, HB.out⟩
    · have q1 : (ft.toList == []) = false := by simpa using hz
      have HQ : Hid (cond true (sNil ft && has) (sEq ft piece) = false) := by show (sNil ft && has) = false; unfold sNil; rw [q1]; rfl
      rw [HQ.out]
      go_enter Try.func69, Try.ntmps69
      go_wp2_with fail
      go_ret
      exact ⟨rfl, HB.out⟩
end Go.Proofs.Ytaiilhhkfjlkoaa
