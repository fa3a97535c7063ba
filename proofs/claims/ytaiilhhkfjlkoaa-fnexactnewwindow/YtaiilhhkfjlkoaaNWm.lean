/- Windows held against each other, marked: the laws' own walks. -/
import Derived.Test.YtaiilhhkfjlkoaaNWin
namespace Go.Proofs.Ytaiilhhkfjlkoaa
set_option maxRecDepth 100000
open Go.ChangeShapes Go.WideShapes Go.ChangeAt Go.RowKit
set_option maxHeartbeats 8000000 in
theorem eqWindow_same (A C : Ad) (X : Wd) (w : World) (hf : FitW X) (h : WR w.heap.size A X w) (g : WR w.heap.size C X w) :
    Calls Try.prog 13 #[.agg #[.slice A.p X.pc.length A.kp, .int .i64 X.sz, .slice A.h X.hd.length A.kh, .slice A.l X.ln.length A.kl, .slice A.e X.hl.length A.ke, .slice A.s X.hs.length A.ks, .int .i64 X.td], .agg #[.slice C.p X.pc.length C.kp, .int .i64 X.sz, .slice C.h X.hd.length C.kh, .slice C.l X.ln.length C.kl, .slice C.e X.hl.length C.ke, .slice C.s X.hs.length C.ks, .int .i64 X.td]] w fun e w' => e = .returned (.bool true) ∧ Below w.heap.size w w' := by
  have HB0 : Hid (Below w.heap.size w ((w.alloc (.cells #[.slice A.p X.pc.length A.kp, .int .i64 X.sz, .slice A.h X.hd.length A.kh, .slice A.l X.ln.length A.kl, .slice A.e X.hl.length A.ke, .slice A.s X.hs.length A.ks, .int .i64 X.td] 27)).alloc (.cells #[.slice C.p X.pc.length C.kp, .int .i64 X.sz, .slice C.h X.hd.length C.kh, .slice C.l X.ln.length C.kl, .slice C.e X.hl.length C.ke, .slice C.s X.hs.length C.ks, .int .i64 X.td] 27))) := ((Below.refl _ _).alloc (Nat.le_refl _) _).alloc (by simp) _
  have HX0 : Hid (((w.alloc (.cells #[.slice A.p X.pc.length A.kp, .int .i64 X.sz, .slice A.h X.hd.length A.kh, .slice A.l X.ln.length A.kl, .slice A.e X.hl.length A.ke, .slice A.s X.hs.length A.ks, .int .i64 X.td] 27)).alloc (.cells #[.slice C.p X.pc.length C.kp, .int .i64 X.sz, .slice C.h X.hd.length C.kh, .slice C.l X.ln.length C.kl, .slice C.e X.hl.length C.ke, .slice C.s X.hs.length C.ks, .int .i64 X.td] 27)).heap[w.heap.size]? = some (.cells #[.slice A.p X.pc.length A.kp, .int .i64 X.sz, .slice A.h X.hd.length A.kh, .slice A.l X.ln.length A.kl, .slice A.e X.hl.length A.ke, .slice A.s X.hs.length A.ks, .int .i64 X.td] 27)) := heap_mid2 _ _ _
  have HY0 : Hid (((w.alloc (.cells #[.slice A.p X.pc.length A.kp, .int .i64 X.sz, .slice A.h X.hd.length A.kh, .slice A.l X.ln.length A.kl, .slice A.e X.hl.length A.ke, .slice A.s X.hs.length A.ks, .int .i64 X.td] 27)).alloc (.cells #[.slice C.p X.pc.length C.kp, .int .i64 X.sz, .slice C.h X.hd.length C.kh, .slice C.l X.ln.length C.kl, .slice C.e X.hl.length C.ke, .slice C.s X.hs.length C.ks, .int .i64 X.td] 27)).heap[w.heap.size + 1]? = some (.cells #[.slice C.p X.pc.length C.kp, .int .i64 X.sz, .slice C.h X.hd.length C.kh, .slice C.l X.ln.length C.kl, .slice C.e X.hl.length C.ke, .slice C.s X.hs.length C.ks, .int .i64 X.td] 27)) := heap_last2 _ _ _
  have HZ : Hid (∀ v, Below w.heap.size w v → WR v.heap.size A X v ∧ WR v.heap.size C X v) := fun v b => ⟨(h.below b).mono b.size, (g.below b).mono b.size⟩
  have HF := hid hf
  clear h g hf
  go_enter Try.func13, Try.ntmps13
  go_wp2_with fail
  generalize ((w.alloc (.cells #[.slice A.p X.pc.length A.kp, .int .i64 X.sz, .slice A.h X.hd.length A.kh, .slice A.l X.ln.length A.kl, .slice A.e X.hl.length A.ke, .slice A.s X.hs.length A.ks, .int .i64 X.td] 27)).alloc (.cells #[.slice C.p X.pc.length C.kp, .int .i64 X.sz, .slice C.h X.hd.length C.kh, .slice C.l X.ln.length C.kl, .slice C.e X.hl.length C.ke, .slice C.s X.hs.length C.ks, .int .i64 X.td] 27)) = v0 at *
  refine (eqStringS_same A.p C.p A.kp C.kp X.pc v0 HF.out.p (HZ.out _ HB0.out).1.p (HZ.out _ HB0.out).2.p).mono ?_
  rintro e v1 ⟨rfl, b⟩
  have HB1 : Hid (Below w.heap.size w v1) := HB0.out.trans (b.mono HB0.out.size)
  have HX1 := hid ((b.block _ (kbox HX0.out)).trans HX0.out)
  have HY1 := hid ((b.block _ (kbox HY0.out)).trans HY0.out)
  clear b HB0 HX0 HY0
  have x2 : v1.cell? ⟨w.heap.size, 2, none⟩ = some (.slice A.h X.hd.length A.kh) := box_cell HX1.out 2
  have y2 : v1.cell? ⟨w.heap.size + 1, 2, none⟩ = some (.slice C.h X.hd.length C.kh) := box_cell HY1.out 2
  have x1 : v1.cell? ⟨w.heap.size, 1, none⟩ = some (.int .i64 X.sz) := box_cell HX1.out 1
  have y1 : v1.cell? ⟨w.heap.size + 1, 1, none⟩ = some (.int .i64 X.sz) := box_cell HY1.out 1
  go_wp2_with fail
  refine (eqBoolS_same A.h C.h A.kh C.kh X.hd v1 HF.out.h (HZ.out _ HB1.out).1.h (HZ.out _ HB1.out).2.h).mono ?_
  rintro e v2 ⟨rfl, b⟩
  have HB2 : Hid (Below w.heap.size w v2) := HB1.out.trans (b.mono HB1.out.size)
  have HX2 := hid ((b.block _ (kbox HX1.out)).trans HX1.out)
  have HY2 := hid ((b.block _ (kbox HY1.out)).trans HY1.out)
  clear b HB1 HX1 HY1 x2 y2 x1 y1
  have x3 : v2.cell? ⟨w.heap.size, 3, none⟩ = some (.slice A.l X.ln.length A.kl) := box_cell HX2.out 3
  have y3 : v2.cell? ⟨w.heap.size + 1, 3, none⟩ = some (.slice C.l X.ln.length C.kl) := box_cell HY2.out 3
  go_wp2_with fail
  refine (eqFrameS_same A.l C.l A.kl C.kl X.ln v2 HF.out.l (HZ.out _ HB2.out).1.l (HZ.out _ HB2.out).2.l).mono ?_
  rintro e v3 ⟨rfl, b⟩
  have HB3 : Hid (Below w.heap.size w v3) := HB2.out.trans (b.mono HB2.out.size)
  have HX3 := hid ((b.block _ (kbox HX2.out)).trans HX2.out)
  have HY3 := hid ((b.block _ (kbox HY2.out)).trans HY2.out)
  clear b HB2 HX2 HY2 x3 y3
  have x4 : v3.cell? ⟨w.heap.size, 4, none⟩ = some (.slice A.e X.hl.length A.ke) := box_cell HX3.out 4
  have y4 : v3.cell? ⟨w.heap.size + 1, 4, none⟩ = some (.slice C.e X.hl.length C.ke) := box_cell HY3.out 4
  go_wp2_with fail
  refine (eqStringS_same A.e C.e A.ke C.ke X.hl v3 HF.out.e (HZ.out _ HB3.out).1.e (HZ.out _ HB3.out).2.e).mono ?_
  rintro e v4 ⟨rfl, b⟩
  have HB4 : Hid (Below w.heap.size w v4) := HB3.out.trans (b.mono HB3.out.size)
  have HX4 := hid ((b.block _ (kbox HX3.out)).trans HX3.out)
  have HY4 := hid ((b.block _ (kbox HY3.out)).trans HY3.out)
  clear b HB3 HX3 HY3 x4 y4
  have x5 : v4.cell? ⟨w.heap.size, 5, none⟩ = some (.slice A.s X.hs.length A.ks) := box_cell HX4.out 5
  have y5 : v4.cell? ⟨w.heap.size + 1, 5, none⟩ = some (.slice C.s X.hs.length C.ks) := box_cell HY4.out 5
  go_wp2_with fail
  refine (eqBoolS_same A.s C.s A.ks C.ks X.hs v4 HF.out.s (HZ.out _ HB4.out).1.s (HZ.out _ HB4.out).2.s).mono ?_
  rintro e v5 ⟨rfl, b⟩
  have HB5 : Hid (Below w.heap.size w v5) := HB4.out.trans (b.mono HB4.out.size)
  have HX5 := hid ((b.block _ (kbox HX4.out)).trans HX4.out)
  have HY5 := hid ((b.block _ (kbox HY4.out)).trans HY4.out)
  clear b HB4 HX4 HY4 x5 y5
  have x6 : v5.cell? ⟨w.heap.size, 6, none⟩ = some (.int .i64 X.td) := box_cell HX5.out 6
  have y6 : v5.cell? ⟨w.heap.size + 1, 6, none⟩ = some (.int .i64 X.td) := box_cell HY5.out 6
  go_wp2_with fail
  go_ret
  exact ⟨rfl, HB5.out⟩
theorem mark_kS (lo hi : Nat) (a : Option Addr) (c k : Nat) (l : List ByteArray) (w : World) (hn : l.length ≤ 1048576) (k1 : 1 ≤ k) (k2 : k ≤ 10000000) (h : OwnS lo hi a l w) :
    Calls Try.prog 15 #[.slice a l.length c, .int .i64 k] w fun e w' => e = .returned (.int .i64 (k + l.length : Nat)) ∧ OwnS lo hi a (smarks l.length k) w' ∧ Kp l.length a w w' := by
  by_cases h0 : l = []
  · subst h0
    exact (markStringS_none a c k w).mono fun e w' ⟨he, hb⟩ => ⟨he, Or.inl rfl, by subst hb; exact Kp.refl _ _ _⟩
  · rcases h with h | ⟨R, h1, h3, rfl, hr⟩
    · exact absurd h h0
    · exact (markStringS_row R c k l w hn k1 k2 hr).mono fun e w' ⟨he, hrow, hb⟩ => ⟨he, Or.inr ⟨R, h1, h3, rfl, hrow⟩, Kp.ofBut (List.length_pos_iff.2 h0) hb⟩
theorem mark_kB (lo hi : Nat) (a : Option Addr) (c k : Nat) (l : List Bool) (w : World) (hn : l.length ≤ 1048576) (k1 : 1 ≤ k) (k2 : k ≤ 10000000) (h : OwnB lo hi a l w) :
    Calls Try.prog 32 #[.slice a l.length c, .int .i64 k] w fun e w' => e = .returned (.int .i64 (k + l.length : Nat)) ∧ OwnB lo hi a (bmarks l.length k) w' ∧ Kp l.length a w w' := by
  by_cases h0 : l = []
  · subst h0
    exact (markBoolS_none a c k w).mono fun e w' ⟨he, hb⟩ => ⟨he, Or.inl rfl, by subst hb; exact Kp.refl _ _ _⟩
  · rcases h with h | ⟨R, h1, h3, rfl, hr⟩
    · exact absurd h h0
    · exact (markBoolS_row R c k l w hn k1 (by omega) hr).mono fun e w' ⟨he, hrow, hb⟩ => ⟨he, Or.inr ⟨R, h1, h3, rfl, hrow⟩, Kp.ofBut (List.length_pos_iff.2 h0) hb⟩
theorem mark_kF (lo hi : Nat) (a : Option Addr) (c k : Nat) (l : List Fr) (w : World) (hn : l.length ≤ 1048576) (k1 : 1 ≤ k) (k2 : k ≤ 10000000) (h : OwnF lo hi a l w) :
    Calls Try.prog 46 #[.slice a l.length c, .int .i64 k] w fun e w' => e = .returned (.int .i64 (k + 3 * l.length : Nat)) ∧ OwnF lo hi a (fmarks l.length k) w' ∧ Kp l.length a w w' := by
  by_cases h0 : l = []
  · subst h0
    exact (markFrameS_none a c k w).mono fun e w' ⟨he, hb⟩ => ⟨he, Or.inl rfl, by subst hb; exact Kp.refl _ _ _⟩
  · rcases h with h | ⟨R, h1, h3, rfl, hr⟩
    · exact absurd h h0
    · exact (markFrameS_row R c k l w hn k1 k2 hr).mono fun e w' ⟨he, hrow, hb⟩ => ⟨he, Or.inr ⟨R, h1, h3, rfl, hrow⟩, Kp.ofBut (List.length_pos_iff.2 h0) hb⟩
/-- a window all of whose lists bear marks -/
def wmarks (X : Wd) : Wd := ⟨smarks X.pc.length 1, X.sz, bmarks X.hd.length (1 + X.pc.length), fmarks X.ln.length (1 + X.pc.length + X.hd.length), smarks X.hl.length (1 + X.pc.length + X.hd.length + 3 * X.ln.length), bmarks X.hs.length (1 + X.pc.length + X.hd.length + 3 * X.ln.length + X.hl.length), X.td⟩
def wlast (X : Wd) : Nat := 1 + X.pc.length + X.hd.length + 3 * X.ln.length + X.hl.length + X.hs.length
theorem wmarks_len (X : Wd) : (wmarks X).pc.length = X.pc.length ∧ (wmarks X).hd.length = X.hd.length ∧ (wmarks X).ln.length = X.ln.length ∧ (wmarks X).hl.length = X.hl.length ∧ (wmarks X).hs.length = X.hs.length := ⟨smarks_len _ _, bmarks_len _ _, fmarks_len _ _, smarks_len _ _, bmarks_len _ _⟩
theorem Ap5.marks {A : Ad} {X : Wd} (h : Ap5 A X) : Ap5 A (wmarks X) := by
  obtain ⟨l1, l2, l3, l4, l5⟩ := wmarks_len X
  refine ⟨?_, ?_, ?_, ?_, ?_, ?_, ?_, ?_, ?_, ?_⟩
  · rw [l1, l2]; exact h.ph
  · rw [l1, l3]; exact h.pl
  · rw [l1, l4]; exact h.pe
  · rw [l1, l5]; exact h.ps
  · rw [l2, l3]; exact h.hl
  · rw [l2, l4]; exact h.he
  · rw [l2, l5]; exact h.hs
  · rw [l3, l4]; exact h.le
  · rw [l3, l5]; exact h.ls
  · rw [l4, l5]; exact h.es
theorem CapW.marks {A : Ad} {X : Wd} (h : CapW A X) : CapW A (wmarks X) := by
  obtain ⟨l1, l2, l3, l4, l5⟩ := wmarks_len X
  exact ⟨by rw [l1]; exact h.p, by rw [l2]; exact h.h, by rw [l3]; exact h.l, by rw [l4]; exact h.e, by rw [l5]; exact h.s⟩
set_option maxHeartbeats 8000000 in
theorem markWindow_any (lo hi : Nat) (A : Ad) (X : Wd) (w : World) (hf : FitW X) (hi' : hi ≤ w.heap.size) (h : WO lo hi A X w) :
    Calls Try.prog 16 #[.agg #[.slice A.p X.pc.length A.kp, .int .i64 X.sz, .slice A.h X.hd.length A.kh, .slice A.l X.ln.length A.kl, .slice A.e X.hl.length A.ke, .slice A.s X.hs.length A.ks, .int .i64 X.td], .int .i64 1] w fun e w' => e = .returned (.int .i64 (wlast X : Nat)) ∧ WO lo hi A (wmarks X) w' ∧ Out lo hi w w' := by
  have HB0 : Hid (Out lo hi w (w.alloc (.cells #[.slice A.p X.pc.length A.kp, .int .i64 X.sz, .slice A.h X.hd.length A.kh, .slice A.l X.ln.length A.kl, .slice A.e X.hl.length A.ke, .slice A.s X.hs.length A.ks, .int .i64 X.td] 27))) := Out.ofBelow (boxB _ _)
  have HX0 : Hid ((w.alloc (.cells #[.slice A.p X.pc.length A.kp, .int .i64 X.sz, .slice A.h X.hd.length A.kh, .slice A.l X.ln.length A.kl, .slice A.e X.hl.length A.ke, .slice A.s X.hs.length A.ks, .int .i64 X.td] 27)).heap[w.heap.size]? = some (.cells #[.slice A.p X.pc.length A.kp, .int .i64 X.sz, .slice A.h X.hd.length A.kh, .slice A.l X.ln.length A.kl, .slice A.e X.hl.length A.ke, .slice A.s X.hs.length A.ks, .int .i64 X.td] 27)) := heap_last _ _
  have HAP := hid h.ap
  have HCAP := hid h.cap
  have HF := hid hf
  have O0_0 := hid (h.p.below (boxB w (.cells #[.slice A.p X.pc.length A.kp, .int .i64 X.sz, .slice A.h X.hd.length A.kh, .slice A.l X.ln.length A.kl, .slice A.e X.hl.length A.ke, .slice A.s X.hs.length A.ks, .int .i64 X.td] 27)))
  have O1_0 := hid (h.h.below (boxB w (.cells #[.slice A.p X.pc.length A.kp, .int .i64 X.sz, .slice A.h X.hd.length A.kh, .slice A.l X.ln.length A.kl, .slice A.e X.hl.length A.ke, .slice A.s X.hs.length A.ks, .int .i64 X.td] 27)))
  have O2_0 := hid (h.l.below (boxB w (.cells #[.slice A.p X.pc.length A.kp, .int .i64 X.sz, .slice A.h X.hd.length A.kh, .slice A.l X.ln.length A.kl, .slice A.e X.hl.length A.ke, .slice A.s X.hs.length A.ks, .int .i64 X.td] 27)))
  have O3_0 := hid (h.e.below (boxB w (.cells #[.slice A.p X.pc.length A.kp, .int .i64 X.sz, .slice A.h X.hd.length A.kh, .slice A.l X.ln.length A.kl, .slice A.e X.hl.length A.ke, .slice A.s X.hs.length A.ks, .int .i64 X.td] 27)))
  have O4_0 := hid (h.s.below (boxB w (.cells #[.slice A.p X.pc.length A.kp, .int .i64 X.sz, .slice A.h X.hd.length A.kh, .slice A.l X.ln.length A.kl, .slice A.e X.hl.length A.ke, .slice A.s X.hs.length A.ks, .int .i64 X.td] 27)))
  have hn : X.pc.length ≤ 1048576 ∧ X.hd.length ≤ 1048576 ∧ X.ln.length ≤ 1048576 ∧ X.hl.length ≤ 1048576 ∧ X.hs.length ≤ 1048576 := ⟨hf.p, hf.h, hf.l, hf.e, hf.s⟩
  have HN := hid hn
  clear h hf hn
  unfold wlast wmarks
  obtain ⟨n1, hn1⟩ : ∃ n, n = 1 + X.pc.length := ⟨_, rfl⟩
  have HN1 := hid hn1
  obtain ⟨n2, hn2⟩ : ∃ n, n = 1 + X.pc.length + X.hd.length := ⟨_, rfl⟩
  have HN2 := hid hn2
  obtain ⟨n3, hn3⟩ : ∃ n, n = 1 + X.pc.length + X.hd.length + 3 * X.ln.length := ⟨_, rfl⟩
  have HN3 := hid hn3
  obtain ⟨n4, hn4⟩ : ∃ n, n = 1 + X.pc.length + X.hd.length + 3 * X.ln.length + X.hl.length := ⟨_, rfl⟩
  have HN4 := hid hn4
  obtain ⟨n5, hn5⟩ : ∃ n, n = 1 + X.pc.length + X.hd.length + 3 * X.ln.length + X.hl.length + X.hs.length := ⟨_, rfl⟩
  have HN5 := hid hn5
  rw [← HN5.out]
  rw [← HN4.out]
  rw [← HN3.out]
  rw [← HN2.out]
  rw [← HN1.out]
  clear hn1 hn2 hn3 hn4 hn5
  go_enter Try.func16, Try.ntmps16
  go_wp2_with fail
  generalize w.alloc (.cells #[.slice A.p X.pc.length A.kp, .int .i64 X.sz, .slice A.h X.hd.length A.kh, .slice A.l X.ln.length A.kl, .slice A.e X.hl.length A.ke, .slice A.s X.hs.length A.ks, .int .i64 X.td] 27) = v0 at *
  have HM : Hid (Calls Try.prog 15 #[.slice A.p X.pc.length A.kp, .int .i64 (1 : Nat)] v0 fun e w' => e = .returned (.int .i64 (n1 : Nat)) ∧ OwnS lo hi A.p (smarks X.pc.length 1) w' ∧ Kp X.pc.length A.p v0 w') := by
    rw [HN1.out]
    exact mark_kS lo hi A.p A.kp 1 X.pc v0 HF.out.p (by omega) (by omega) O0_0.out
  refine HM.out.mono ?_
  rintro e v1 ⟨rfl, om, km⟩
  clear HM
  have tm := km.out (O0_0.out.lies)
  have O0_1 := hid om
  have O1_1 := hid (O1_0.out.kp km (HAP.out.ph))
  have O2_1 := hid (O2_0.out.kp km (HAP.out.pl))
  have O3_1 := hid (O3_0.out.kp km (HAP.out.pe))
  have O4_1 := hid (O4_0.out.kp km (HAP.out.ps))
  have HX1 := hid ((tm.block _ (kbox HX0.out) (Or.inr hi')).trans HX0.out)
  have HB1 := hid (HB0.out.trans tm)
  clear om km tm HX0 HB0 O0_0 O1_0 O2_0 O3_0 O4_0
  have x2 : v1.cell? ⟨w.heap.size, 2, none⟩ = some (.slice A.h X.hd.length A.kh) := box_cell HX1.out 2
  go_wp2_with fail
  have HM : Hid (Calls Try.prog 32 #[.slice A.h X.hd.length A.kh, .int .i64 (n1 : Nat)] v1 fun e w' => e = .returned (.int .i64 (n2 : Nat)) ∧ OwnB lo hi A.h (bmarks X.hd.length n1) w' ∧ Kp X.hd.length A.h v1 w') := by
    rw [HN2.out, ← HN1.out]
    exact mark_kB lo hi A.h A.kh n1 X.hd v1 HF.out.h (by rw [HN1.out]; omega) (by rw [HN1.out]; obtain ⟨q1, q2, q3, q4, q5⟩ := HN.out; omega) O1_1.out
  refine HM.out.mono ?_
  rintro e v2 ⟨rfl, om, km⟩
  clear HM
  have tm := km.out (O1_1.out.lies)
  have O0_2 := hid (O0_1.out.kp km (by rw [smarks_len]; exact HAP.out.ph.symm))
  have O1_2 := hid om
  have O2_2 := hid (O2_1.out.kp km (HAP.out.hl))
  have O3_2 := hid (O3_1.out.kp km (HAP.out.he))
  have O4_2 := hid (O4_1.out.kp km (HAP.out.hs))
  have HX2 := hid ((tm.block _ (kbox HX1.out) (Or.inr hi')).trans HX1.out)
  have HB2 := hid (HB1.out.trans tm)
  clear om km tm HX1 HB1 O0_1 O1_1 O2_1 O3_1 O4_1 x2
  have x3 : v2.cell? ⟨w.heap.size, 3, none⟩ = some (.slice A.l X.ln.length A.kl) := box_cell HX2.out 3
  go_wp2_with fail
  have HM : Hid (Calls Try.prog 46 #[.slice A.l X.ln.length A.kl, .int .i64 (n2 : Nat)] v2 fun e w' => e = .returned (.int .i64 (n3 : Nat)) ∧ OwnF lo hi A.l (fmarks X.ln.length n2) w' ∧ Kp X.ln.length A.l v2 w') := by
    rw [HN3.out, ← HN2.out]
    exact mark_kF lo hi A.l A.kl n2 X.ln v2 HF.out.l (by rw [HN2.out]; omega) (by rw [HN2.out]; obtain ⟨q1, q2, q3, q4, q5⟩ := HN.out; omega) O2_2.out
  refine HM.out.mono ?_
  rintro e v3 ⟨rfl, om, km⟩
  clear HM
  have tm := km.out (O2_2.out.lies)
  have O0_3 := hid (O0_2.out.kp km (by rw [smarks_len]; exact HAP.out.pl.symm))
  have O1_3 := hid (O1_2.out.kp km (by rw [bmarks_len]; exact HAP.out.hl.symm))
  have O2_3 := hid om
  have O3_3 := hid (O3_2.out.kp km (HAP.out.le))
  have O4_3 := hid (O4_2.out.kp km (HAP.out.ls))
  have HX3 := hid ((tm.block _ (kbox HX2.out) (Or.inr hi')).trans HX2.out)
  have HB3 := hid (HB2.out.trans tm)
  clear om km tm HX2 HB2 O0_2 O1_2 O2_2 O3_2 O4_2 x3
  have x4 : v3.cell? ⟨w.heap.size, 4, none⟩ = some (.slice A.e X.hl.length A.ke) := box_cell HX3.out 4
  go_wp2_with fail
  have HM : Hid (Calls Try.prog 15 #[.slice A.e X.hl.length A.ke, .int .i64 (n3 : Nat)] v3 fun e w' => e = .returned (.int .i64 (n4 : Nat)) ∧ OwnS lo hi A.e (smarks X.hl.length n3) w' ∧ Kp X.hl.length A.e v3 w') := by
    rw [HN4.out, ← HN3.out]
    exact mark_kS lo hi A.e A.ke n3 X.hl v3 HF.out.e (by rw [HN3.out]; omega) (by rw [HN3.out]; obtain ⟨q1, q2, q3, q4, q5⟩ := HN.out; omega) O3_3.out
  refine HM.out.mono ?_
  rintro e v4 ⟨rfl, om, km⟩
  clear HM
  have tm := km.out (O3_3.out.lies)
  have O0_4 := hid (O0_3.out.kp km (by rw [smarks_len]; exact HAP.out.pe.symm))
  have O1_4 := hid (O1_3.out.kp km (by rw [bmarks_len]; exact HAP.out.he.symm))
  have O2_4 := hid (O2_3.out.kp km (by rw [fmarks_len]; exact HAP.out.le.symm))
  have O3_4 := hid om
  have O4_4 := hid (O4_3.out.kp km (HAP.out.es))
  have HX4 := hid ((tm.block _ (kbox HX3.out) (Or.inr hi')).trans HX3.out)
  have HB4 := hid (HB3.out.trans tm)
  clear om km tm HX3 HB3 O0_3 O1_3 O2_3 O3_3 O4_3 x4
  have x5 : v4.cell? ⟨w.heap.size, 5, none⟩ = some (.slice A.s X.hs.length A.ks) := box_cell HX4.out 5
  go_wp2_with fail
  have HM : Hid (Calls Try.prog 32 #[.slice A.s X.hs.length A.ks, .int .i64 (n4 : Nat)] v4 fun e w' => e = .returned (.int .i64 (n5 : Nat)) ∧ OwnB lo hi A.s (bmarks X.hs.length n4) w' ∧ Kp X.hs.length A.s v4 w') := by
    rw [HN5.out, ← HN4.out]
    exact mark_kB lo hi A.s A.ks n4 X.hs v4 HF.out.s (by rw [HN4.out]; omega) (by rw [HN4.out]; obtain ⟨q1, q2, q3, q4, q5⟩ := HN.out; omega) O4_4.out
  refine HM.out.mono ?_
  rintro e v5 ⟨rfl, om, km⟩
  clear HM
  have tm := km.out (O4_4.out.lies)
  have O0_5 := hid (O0_4.out.kp km (by rw [smarks_len]; exact HAP.out.ps.symm))
  have O1_5 := hid (O1_4.out.kp km (by rw [bmarks_len]; exact HAP.out.hs.symm))
  have O2_5 := hid (O2_4.out.kp km (by rw [fmarks_len]; exact HAP.out.ls.symm))
  have O3_5 := hid (O3_4.out.kp km (by rw [smarks_len]; exact HAP.out.es.symm))
  have O4_5 := hid om
  have HX5 := hid ((tm.block _ (kbox HX4.out) (Or.inr hi')).trans HX4.out)
  have HB5 := hid (HB4.out.trans tm)
  clear om km tm HX4 HB4 O0_4 O1_4 O2_4 O3_4 O4_4 x5
  have HE := hid HAP.out.marks
  unfold wmarks at HE
  have HE2 := hid HCAP.out.marks
  unfold wmarks at HE2
  rw [← HN4.out] at HE HE2
  rw [← HN3.out] at HE HE2
  rw [← HN2.out] at HE HE2
  rw [← HN1.out] at HE HE2
  go_wp2_with fail
  go_ret
  exact ⟨rfl, ⟨O0_5.out, O1_5.out, O2_5.out, O3_5.out, O4_5.out, HE.out, HE2.out⟩, HB5.out⟩
set_option maxHeartbeats 8000000 in
theorem heldWindow_any (lo hi : Nat) (A : Ad) (X : Wd) (w : World) (hf : FitW X) (h : WO lo hi A (wmarks X) w) :
    Calls Try.prog 17 #[.agg #[.slice A.p X.pc.length A.kp, .int .i64 X.sz, .slice A.h X.hd.length A.kh, .slice A.l X.ln.length A.kl, .slice A.e X.hl.length A.ke, .slice A.s X.hs.length A.ks, .int .i64 X.td], .int .i64 1] w fun e w' => e = .returned (.int .i64 (wlast X : Nat)) ∧ Below w.heap.size w w' := by
  have HB0 : Hid (Below w.heap.size w (w.alloc (.cells #[.slice A.p X.pc.length A.kp, .int .i64 X.sz, .slice A.h X.hd.length A.kh, .slice A.l X.ln.length A.kl, .slice A.e X.hl.length A.ke, .slice A.s X.hs.length A.ks, .int .i64 X.td] 27))) := boxB _ _
  have HX0 : Hid ((w.alloc (.cells #[.slice A.p X.pc.length A.kp, .int .i64 X.sz, .slice A.h X.hd.length A.kh, .slice A.l X.ln.length A.kl, .slice A.e X.hl.length A.ke, .slice A.s X.hs.length A.ks, .int .i64 X.td] 27)).heap[w.heap.size]? = some (.cells #[.slice A.p X.pc.length A.kp, .int .i64 X.sz, .slice A.h X.hd.length A.kh, .slice A.l X.ln.length A.kl, .slice A.e X.hl.length A.ke, .slice A.s X.hs.length A.ks, .int .i64 X.td] 27)) := heap_last _ _
  have HZ : Hid (∀ v, Below w.heap.size w v → WR v.heap.size A (wmarks X) v) := fun v g => (h.read.below g).mono g.size
  have HF := hid hf
  have hn : X.pc.length ≤ 1048576 ∧ X.hd.length ≤ 1048576 ∧ X.ln.length ≤ 1048576 ∧ X.hl.length ≤ 1048576 ∧ X.hs.length ≤ 1048576 := ⟨hf.p, hf.h, hf.l, hf.e, hf.s⟩
  have HN := hid hn
  clear h hf hn
  unfold wlast
  obtain ⟨n1, hn1⟩ : ∃ n, n = 1 + X.pc.length := ⟨_, rfl⟩
  have HN1 := hid hn1
  have hd1 : decide ((n1 : Int) < 0) = false := decide_eq_false (by omega)
  obtain ⟨n2, hn2⟩ : ∃ n, n = 1 + X.pc.length + X.hd.length := ⟨_, rfl⟩
  have HN2 := hid hn2
  have hd2 : decide ((n2 : Int) < 0) = false := decide_eq_false (by omega)
  obtain ⟨n3, hn3⟩ : ∃ n, n = 1 + X.pc.length + X.hd.length + 3 * X.ln.length := ⟨_, rfl⟩
  have HN3 := hid hn3
  have hd3 : decide ((n3 : Int) < 0) = false := decide_eq_false (by omega)
  obtain ⟨n4, hn4⟩ : ∃ n, n = 1 + X.pc.length + X.hd.length + 3 * X.ln.length + X.hl.length := ⟨_, rfl⟩
  have HN4 := hid hn4
  have hd4 : decide ((n4 : Int) < 0) = false := decide_eq_false (by omega)
  obtain ⟨n5, hn5⟩ : ∃ n, n = 1 + X.pc.length + X.hd.length + 3 * X.ln.length + X.hl.length + X.hs.length := ⟨_, rfl⟩
  have HN5 := hid hn5
  have hd5 : decide ((n5 : Int) < 0) = false := decide_eq_false (by omega)
  rw [← HN5.out]
  clear hn1 hn2 hn3 hn4 hn5
  go_enter Try.func17, Try.ntmps17
  go_wp2_with fail
  generalize w.alloc (.cells #[.slice A.p X.pc.length A.kp, .int .i64 X.sz, .slice A.h X.hd.length A.kh, .slice A.l X.ln.length A.kl, .slice A.e X.hl.length A.ke, .slice A.s X.hs.length A.ks, .int .i64 X.td] 27) = v0 at *
  have HM : Hid (Calls Try.prog 38 #[.slice A.p X.pc.length A.kp, .int .i64 (1 : Nat)] v0 fun e w' => e = .returned (.int .i64 (n1 : Nat)) ∧ Below v0.heap.size v0 w') := by
    have hr := (HZ.out v0 HB0.out).p
    unfold wmarks at hr
    simp only at hr
    rw [HN1.out]
    exact heldStringS_row A.p A.kp 1 X.pc.length v0 HF.out.p (by omega) (by omega) hr
  refine HM.out.mono ?_
  rintro e v1 ⟨rfl, b⟩
  clear HM
  have HX1 := hid ((b.block _ (kbox HX0.out)).trans HX0.out)
  have HB1 : Hid (Below w.heap.size w v1) := HB0.out.trans (b.mono HB0.out.size)
  clear b HX0 HB0
  have x2 : v1.cell? ⟨w.heap.size, 2, none⟩ = some (.slice A.h X.hd.length A.kh) := box_cell HX1.out 2
  go_wp2_with fail
  have HM : Hid (Calls Try.prog 33 #[.slice A.h X.hd.length A.kh, .int .i64 (n1 : Nat)] v1 fun e w' => e = .returned (.int .i64 (n2 : Nat)) ∧ Below v1.heap.size v1 w') := by
    have hr := (HZ.out v1 HB1.out).h
    unfold wmarks at hr
    simp only at hr
    rw [← HN1.out] at hr
    rw [HN2.out, ← HN1.out]
    exact heldBoolS_row A.h A.kh n1 X.hd.length v1 HF.out.h (by rw [HN1.out]; omega) (by rw [HN1.out]; obtain ⟨q1, q2, q3, q4, q5⟩ := HN.out; omega) hr
  refine HM.out.mono ?_
  rintro e v2 ⟨rfl, b⟩
  clear HM
  have HX2 := hid ((b.block _ (kbox HX1.out)).trans HX1.out)
  have HB2 : Hid (Below w.heap.size w v2) := HB1.out.trans (b.mono HB1.out.size)
  clear b HX1 HB1 x2
  have x3 : v2.cell? ⟨w.heap.size, 3, none⟩ = some (.slice A.l X.ln.length A.kl) := box_cell HX2.out 3
  go_wp2_with fail
  have HM : Hid (Calls Try.prog 47 #[.slice A.l X.ln.length A.kl, .int .i64 (n2 : Nat)] v2 fun e w' => e = .returned (.int .i64 (n3 : Nat)) ∧ Below v2.heap.size v2 w') := by
    have hr := (HZ.out v2 HB2.out).l
    unfold wmarks at hr
    simp only at hr
    rw [← HN2.out] at hr
    rw [HN3.out, ← HN2.out]
    exact heldFrameS_row A.l A.kl n2 X.ln.length v2 HF.out.l (by rw [HN2.out]; omega) (by rw [HN2.out]; obtain ⟨q1, q2, q3, q4, q5⟩ := HN.out; omega) hr
  refine HM.out.mono ?_
  rintro e v3 ⟨rfl, b⟩
  clear HM
  have HX3 := hid ((b.block _ (kbox HX2.out)).trans HX2.out)
  have HB3 : Hid (Below w.heap.size w v3) := HB2.out.trans (b.mono HB2.out.size)
  clear b HX2 HB2 x3
  have x4 : v3.cell? ⟨w.heap.size, 4, none⟩ = some (.slice A.e X.hl.length A.ke) := box_cell HX3.out 4
  go_wp2_with fail
  have HM : Hid (Calls Try.prog 38 #[.slice A.e X.hl.length A.ke, .int .i64 (n3 : Nat)] v3 fun e w' => e = .returned (.int .i64 (n4 : Nat)) ∧ Below v3.heap.size v3 w') := by
    have hr := (HZ.out v3 HB3.out).e
    unfold wmarks at hr
    simp only at hr
    rw [← HN3.out] at hr
    rw [HN4.out, ← HN3.out]
    exact heldStringS_row A.e A.ke n3 X.hl.length v3 HF.out.e (by rw [HN3.out]; omega) (by rw [HN3.out]; obtain ⟨q1, q2, q3, q4, q5⟩ := HN.out; omega) hr
  refine HM.out.mono ?_
  rintro e v4 ⟨rfl, b⟩
  clear HM
  have HX4 := hid ((b.block _ (kbox HX3.out)).trans HX3.out)
  have HB4 : Hid (Below w.heap.size w v4) := HB3.out.trans (b.mono HB3.out.size)
  clear b HX3 HB3 x4
  have x5 : v4.cell? ⟨w.heap.size, 5, none⟩ = some (.slice A.s X.hs.length A.ks) := box_cell HX4.out 5
  go_wp2_with fail
  have HM : Hid (Calls Try.prog 33 #[.slice A.s X.hs.length A.ks, .int .i64 (n4 : Nat)] v4 fun e w' => e = .returned (.int .i64 (n5 : Nat)) ∧ Below v4.heap.size v4 w') := by
    have hr := (HZ.out v4 HB4.out).s
    unfold wmarks at hr
    simp only at hr
    rw [← HN4.out] at hr
    rw [HN5.out, ← HN4.out]
    exact heldBoolS_row A.s A.ks n4 X.hs.length v4 HF.out.s (by rw [HN4.out]; omega) (by rw [HN4.out]; obtain ⟨q1, q2, q3, q4, q5⟩ := HN.out; omega) hr
  refine HM.out.mono ?_
  rintro e v5 ⟨rfl, b⟩
  clear HM
  have HX5 := hid ((b.block _ (kbox HX4.out)).trans HX4.out)
  have HB5 : Hid (Below w.heap.size w v5) := HB4.out.trans (b.mono HB4.out.size)
  clear b HX4 HB4 x5
  go_wp2_with fail
  go_ret
  exact ⟨rfl, HB5.out⟩
end Go.Proofs.Ytaiilhhkfjlkoaa
