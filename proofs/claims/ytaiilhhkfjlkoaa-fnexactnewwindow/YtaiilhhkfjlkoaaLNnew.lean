/- The exact law of NewWindow: its walk. -/
import Derived.Test.YtaiilhhkfjlkoaaNNwS
import Derived.Test.YtaiilhhkfjlkoaaNWm
import Derived.Test.YtaiilhhkfjlkoaaNOpen
namespace Go.Proofs.Ytaiilhhkfjlkoaa
set_option maxRecDepth 100000
open Go.ChangeShapes Go.WideShapes Go.ChangeAt Go.RowKit
/-- function f answers the window V and ok, in memory of its own -/
def TellsNew (f : Nat) (l : List ByteArray) (sz : Int) (V : Wd) (ok : Bool) : Prop := ∀ (a : Option Addr) (c : Nat) (v : World), Ss v.heap.size a l v →
  Calls Try.prog f #[.slice a l.length c, .int .i64 sz] v fun e w' => ∃ A, e = .returned (.tuple #[.agg #[.slice A.p V.pc.length A.kp, .int .i64 V.sz, .slice A.h V.hd.length A.kh, .slice A.l V.ln.length A.kl, .slice A.e V.hl.length A.ke, .slice A.s V.hs.length A.ks, .int .i64 V.td], .bool ok]) ∧ WO v.heap.size w'.heap.size A V w' ∧ Below v.heap.size v w'
def newV (l : List ByteArray) (sz : Int) : Wd := cond (newOk l sz) (newW l sz) zeroW
theorem NewO.tells {l : List ByteArray} {sz : Int} {w : World} {e : Ending} {w' : World} (h : NewO l sz w e w') : ∃ A, e = .returned (.tuple #[.agg #[.slice A.p (newV l sz).pc.length A.kp, .int .i64 (newV l sz).sz, .slice A.h (newV l sz).hd.length A.kh, .slice A.l (newV l sz).ln.length A.kl, .slice A.e (newV l sz).hl.length A.ke, .slice A.s (newV l sz).hs.length A.ks, .int .i64 (newV l sz).td], .bool (newOk l sz)]) ∧ WO w.heap.size w'.heap.size A (newV l sz) w' ∧ Below w.heap.size w w' := by
  unfold newV
  rcases h with ⟨hk, A, h1, h2, h3⟩ | ⟨hk, h1, h3⟩
  · rw [hk]; exact ⟨A, h1, h2, h3⟩
  · rw [hk]; exact ⟨noA, h1, WO.zero _ _ _ _, h3⟩
theorem newV_fit (l : List ByteArray) (sz : Int) : FitW (newV l sz) := by
  unfold newV
  cases hk : newOk l sz
  · exact FitW.zero
  · have h12 : l.length ≤ 12 := by
      unfold newOk at hk
      rw [Bool.and_eq_true] at hk
      exact (pcOk_iff.1 hk.1).1
    refine ⟨?_, ?_, Nat.zero_le _, ?_, ?_⟩
    · show l.length ≤ _; omega
    · show (List.replicate l.length false).length ≤ _; rw [List.length_replicate]; omega
    · show (List.replicate l.length (⟨#[]⟩ : ByteArray)).length ≤ _; rw [List.length_replicate]; omega
    · show (List.replicate l.length false).length ≤ _; rw [List.length_replicate]; omega
set_option maxHeartbeats 16000000 in
theorem law_NewWindow (a : Option Addr) (c : Nat) (l : List ByteArray) (sz : Int) (w0 : World) (hs : ∀ s ∈ l, s.size ≤ 9223372036854775807) (hn : l.length ≤ 9223372036854775807) (h : Ss w0.heap.size a l w0) (V : Wd) (ok : Bool) (hV : FitW V)
    (h9 : l.length ≤ 1048576 → TellsNew 10 l sz V ok) (h11 : l.length ≤ 1048576 → TellsNew 12 l sz V ok) :
    Calls Try.prog 3 #[.slice a l.length c, .int .i64 sz] w0 fun e w' => e = .returned (.bool true) ∧ Below w0.heap.size w0 w' := by
  have HH9 := hid h9
  have HH11 := hid h11
  have HV := hid hV
  have HZ0 := hid h
  have HCN := hid hs
  have HZ : Hid (∀ v, Below w0.heap.size w0 v → Ss v.heap.size a l v) := fun v g => (h.below g).mono g.size
  clear h9 h11 hV h hs
  have B_0 : Hid (Below w0.heap.size w0 w0) := Below.refl _ _
  have hbk : (ok != ok) = false := by cases ok <;> rfl
  have hbl : (ok == ok) = true := by cases ok <;> rfl
  go_enter Try.func3, Try.ntmps3
  go_wp2_with fail
  refine (szStringS_l a c l 1048576 w0 (by decide) (by decide) HCN.out hn HZ0.out).mono ?_
  rintro e v ⟨⟨r, rfl, r1, r2, hr⟩, hv⟩
  rw [hv]
  clear hv v
  by_cases p0 : 0 ≤ r
  case neg =>
    have hd0 : decide (r < 0) = true := decide_eq_true (by omega)
    clear hr
    go_wp2_with fail
    go_ret
    exact ⟨rfl, B_0.out⟩
  have hd0 : decide (r < 0) = false := decide_eq_false (by omega)
  have HL : Hid (l.length ≤ 1048576) := by show l.length ≤ 1048576; have := hr p0; omega
  clear hr r1 r2
  have HT : Hid (∀ v, Below w0.heap.size w0 v → Calls Try.prog 11 #[.slice a l.length c] v fun e w' => ∃ b, e = .returned (.slice b l.length l.length) ∧ OwnS v.heap.size w'.heap.size b l w' ∧ Below v.heap.size v w') := fun v g => to_ownS a c l v HL.out (HZ.out v g)
  have H9 := hid (HH9.out HL.out)
  have H11 := hid (HH11.out HL.out)
  clear HH9 HH11 HZ0 HCN
  go_wp2_with fail
  refine (HT.out _ B_0.out).mono ?_
  rintro e w1 ⟨bS1, rfl, oT, gT⟩
  have s1 := gT.size
  have B_1 : Hid (Below w0.heap.size w0 w1) := B_0.out.trans (gT.mono B_0.out.size)
  clear B_0
  have S1_1 : Hid (OwnS w0.heap.size w1.heap.size bS1 l w1) := oT
  clear oT gT
  go_wp2_with fail
  refine (H9.out bS1 l.length _ S1_1.out.ss).mono ?_
  rintro e w2 ⟨AW, rfl, oA, gA⟩
  have s2 := gA.size
  have B_2 : Hid (Below w0.heap.size w0 w2) := B_1.out.trans (gA.mono B_1.out.size)
  have S1_2 : Hid (OwnS w0.heap.size w1.heap.size bS1 l w2) := S1_1.out.below gA
  clear B_1 S1_1
  have Wo_2 : Hid (WO w1.heap.size w2.heap.size AW V w2) := oA
  clear oA gA
  go_wp2_with fail
  have gA := boxB w2 (.cells #[.slice AW.p V.pc.length AW.kp, .int .i64 V.sz, .slice AW.h V.hd.length AW.kh, .slice AW.l V.ln.length AW.kl, .slice AW.e V.hl.length AW.ke, .slice AW.s V.hs.length AW.ks, .int .i64 V.td] 27)
  have hA := heap_last w2 (.cells #[.slice AW.p V.pc.length AW.kp, .int .i64 V.sz, .slice AW.h V.hd.length AW.kh, .slice AW.l V.ln.length AW.kl, .slice AW.e V.hl.length AW.ke, .slice AW.s V.hs.length AW.ks, .int .i64 V.td] 27)
  have zA : (w2.alloc (.cells #[.slice AW.p V.pc.length AW.kp, .int .i64 V.sz, .slice AW.h V.hd.length AW.kh, .slice AW.l V.ln.length AW.kl, .slice AW.e V.hl.length AW.ke, .slice AW.s V.hs.length AW.ks, .int .i64 V.td] 27)).heap.size ≤ w2.heap.size + 1 := Nat.le_of_eq (heap_size _ _)
  have yA : w2.heap.size < (w2.alloc (.cells #[.slice AW.p V.pc.length AW.kp, .int .i64 V.sz, .slice AW.h V.hd.length AW.kh, .slice AW.l V.ln.length AW.kl, .slice AW.e V.hl.length AW.ke, .slice AW.s V.hs.length AW.ks, .int .i64 V.td] 27)).heap.size := by simp
  generalize w2.alloc (.cells #[.slice AW.p V.pc.length AW.kp, .int .i64 V.sz, .slice AW.h V.hd.length AW.kh, .slice AW.l V.ln.length AW.kl, .slice AW.e V.hl.length AW.ke, .slice AW.s V.hs.length AW.ks, .int .i64 V.td] 27) = w3 at *
  have s3 := gA.size
  have B_3 : Hid (Below w0.heap.size w0 w3) := B_2.out.trans (gA.mono B_2.out.size)
  have S1_3 : Hid (OwnS w0.heap.size w1.heap.size bS1 l w3) := S1_2.out.below gA
  have Wo_3 : Hid (WO w1.heap.size w2.heap.size AW V w3) := Wo_2.out.below gA
  clear B_2 S1_2 Wo_2
  have Wk_3 : Hid (w3.heap[w2.heap.size]? = some (.cells #[.slice AW.p V.pc.length AW.kp, .int .i64 V.sz, .slice AW.h V.hd.length AW.kh, .slice AW.l V.ln.length AW.kl, .slice AW.e V.hl.length AW.ke, .slice AW.s V.hs.length AW.ks, .int .i64 V.td] 27)) := hA
  have zz3 := zA
  have yy3 := yA
  clear gA hA zA yA
  clear S1_3
  refine (HT.out _ B_3.out).mono ?_
  rintro e w4 ⟨bX, rfl, oT, gT⟩
  have s4 := gT.size
  have B_4 : Hid (Below w0.heap.size w0 w4) := B_3.out.trans (gT.mono B_3.out.size)
  have Wo_4 : Hid (WO w1.heap.size w2.heap.size AW V w4) := Wo_3.out.below gT
  have Wk_4 : Hid (w4.heap[w2.heap.size]? = some (.cells #[.slice AW.p V.pc.length AW.kp, .int .i64 V.sz, .slice AW.h V.hd.length AW.kh, .slice AW.l V.ln.length AW.kl, .slice AW.e V.hl.length AW.ke, .slice AW.s V.hs.length AW.ks, .int .i64 V.td] 27)) := (gT.block _ (kbox Wk_3.out)).trans Wk_3.out
  clear B_3 Wo_3 Wk_3
  have X_4 : Hid (OwnS w3.heap.size w4.heap.size bX l w4) := oT
  clear oT gT
  go_wp2_with fail
  refine (H11.out bX l.length _ X_4.out.ss).mono ?_
  rintro e w5 ⟨AG, rfl, oA, gA⟩
  have s5 := gA.size
  have B_5 : Hid (Below w0.heap.size w0 w5) := B_4.out.trans (gA.mono B_4.out.size)
  have Wo_5 : Hid (WO w1.heap.size w2.heap.size AW V w5) := Wo_4.out.below gA
  have Wk_5 : Hid (w5.heap[w2.heap.size]? = some (.cells #[.slice AW.p V.pc.length AW.kp, .int .i64 V.sz, .slice AW.h V.hd.length AW.kh, .slice AW.l V.ln.length AW.kl, .slice AW.e V.hl.length AW.ke, .slice AW.s V.hs.length AW.ks, .int .i64 V.td] 27)) := (gA.block _ (kbox Wk_4.out)).trans Wk_4.out
  have X_5 : Hid (OwnS w3.heap.size w4.heap.size bX l w5) := X_4.out.below gA
  clear B_4 Wo_4 Wk_4 X_4
  have Go_5 : Hid (WO w4.heap.size w5.heap.size AG V w5) := oA
  clear oA gA
  obtain ⟨⟨z0, z1, z2, z3, z4, z5, z6⟩, -⟩ := box7 (((boxB w5 (.cells #[.slice AG.p V.pc.length AG.kp, .int .i64 V.sz, .slice AG.h V.hd.length AG.kh, .slice AG.l V.ln.length AG.kl, .slice AG.e V.hl.length AG.ke, .slice AG.s V.hs.length AG.ks, .int .i64 V.td] 27)).block _ (kbox Wk_5.out)).trans Wk_5.out)
  go_wp2_with fail
  have gA := boxB w5 (.cells #[.slice AG.p V.pc.length AG.kp, .int .i64 V.sz, .slice AG.h V.hd.length AG.kh, .slice AG.l V.ln.length AG.kl, .slice AG.e V.hl.length AG.ke, .slice AG.s V.hs.length AG.ks, .int .i64 V.td] 27)
  have hA := heap_last w5 (.cells #[.slice AG.p V.pc.length AG.kp, .int .i64 V.sz, .slice AG.h V.hd.length AG.kh, .slice AG.l V.ln.length AG.kl, .slice AG.e V.hl.length AG.ke, .slice AG.s V.hs.length AG.ks, .int .i64 V.td] 27)
  have zA : (w5.alloc (.cells #[.slice AG.p V.pc.length AG.kp, .int .i64 V.sz, .slice AG.h V.hd.length AG.kh, .slice AG.l V.ln.length AG.kl, .slice AG.e V.hl.length AG.ke, .slice AG.s V.hs.length AG.ks, .int .i64 V.td] 27)).heap.size ≤ w5.heap.size + 1 := Nat.le_of_eq (heap_size _ _)
  have yA : w5.heap.size < (w5.alloc (.cells #[.slice AG.p V.pc.length AG.kp, .int .i64 V.sz, .slice AG.h V.hd.length AG.kh, .slice AG.l V.ln.length AG.kl, .slice AG.e V.hl.length AG.ke, .slice AG.s V.hs.length AG.ks, .int .i64 V.td] 27)).heap.size := by simp
  generalize w5.alloc (.cells #[.slice AG.p V.pc.length AG.kp, .int .i64 V.sz, .slice AG.h V.hd.length AG.kh, .slice AG.l V.ln.length AG.kl, .slice AG.e V.hl.length AG.ke, .slice AG.s V.hs.length AG.ks, .int .i64 V.td] 27) = w6 at *
  have s6 := gA.size
  have B_6 : Hid (Below w0.heap.size w0 w6) := B_5.out.trans (gA.mono B_5.out.size)
  have Wo_6 : Hid (WO w1.heap.size w2.heap.size AW V w6) := Wo_5.out.below gA
  have Wk_6 : Hid (w6.heap[w2.heap.size]? = some (.cells #[.slice AW.p V.pc.length AW.kp, .int .i64 V.sz, .slice AW.h V.hd.length AW.kh, .slice AW.l V.ln.length AW.kl, .slice AW.e V.hl.length AW.ke, .slice AW.s V.hs.length AW.ks, .int .i64 V.td] 27)) := (gA.block _ (kbox Wk_5.out)).trans Wk_5.out
  have X_6 : Hid (OwnS w3.heap.size w4.heap.size bX l w6) := X_5.out.below gA
  have Go_6 : Hid (WO w4.heap.size w5.heap.size AG V w6) := Go_5.out.below gA
  clear B_5 Wo_5 Wk_5 X_5 Go_5
  have Gk_6 : Hid (w6.heap[w5.heap.size]? = some (.cells #[.slice AG.p V.pc.length AG.kp, .int .i64 V.sz, .slice AG.h V.hd.length AG.kh, .slice AG.l V.ln.length AG.kl, .slice AG.e V.hl.length AG.ke, .slice AG.s V.hs.length AG.ks, .int .i64 V.td] 27)) := hA
  have zz6 := zA
  have yy6 := yA
  clear gA hA zA yA
  clear z0 z1 z2 z3 z4 z5 z6
  refine (eqWindow_same AG AW V _ HV.out Go_6.out.read Wo_6.out.read).mono ?_
  rintro e w7 ⟨rfl, gE⟩
  have s7 := gE.size
  have B_7 : Hid (Below w0.heap.size w0 w7) := B_6.out.trans (gE.mono B_6.out.size)
  have Wo_7 : Hid (WO w1.heap.size w2.heap.size AW V w7) := Wo_6.out.below gE
  have Wk_7 : Hid (w7.heap[w2.heap.size]? = some (.cells #[.slice AW.p V.pc.length AW.kp, .int .i64 V.sz, .slice AW.h V.hd.length AW.kh, .slice AW.l V.ln.length AW.kl, .slice AW.e V.hl.length AW.ke, .slice AW.s V.hs.length AW.ks, .int .i64 V.td] 27)) := (gE.block _ (kbox Wk_6.out)).trans Wk_6.out
  have X_7 : Hid (OwnS w3.heap.size w4.heap.size bX l w7) := X_6.out.below gE
  have Go_7 : Hid (WO w4.heap.size w5.heap.size AG V w7) := Go_6.out.below gE
  have Gk_7 : Hid (w7.heap[w5.heap.size]? = some (.cells #[.slice AG.p V.pc.length AG.kp, .int .i64 V.sz, .slice AG.h V.hd.length AG.kh, .slice AG.l V.ln.length AG.kl, .slice AG.e V.hl.length AG.ke, .slice AG.s V.hs.length AG.ks, .int .i64 V.td] 27)) := (gE.block _ (kbox Gk_6.out)).trans Gk_6.out
  clear B_6 Wo_6 Wk_6 X_6 Go_6 Gk_6
  clear gE
  go_wp2_with fail
  refine (HT.out _ B_7.out).mono ?_
  rintro e w8 ⟨bS2, rfl, oT, gT⟩
  have s8 := gT.size
  have B_8 : Hid (Below w0.heap.size w0 w8) := B_7.out.trans (gT.mono B_7.out.size)
  have Wo_8 : Hid (WO w1.heap.size w2.heap.size AW V w8) := Wo_7.out.below gT
  have Wk_8 : Hid (w8.heap[w2.heap.size]? = some (.cells #[.slice AW.p V.pc.length AW.kp, .int .i64 V.sz, .slice AW.h V.hd.length AW.kh, .slice AW.l V.ln.length AW.kl, .slice AW.e V.hl.length AW.ke, .slice AW.s V.hs.length AW.ks, .int .i64 V.td] 27)) := (gT.block _ (kbox Wk_7.out)).trans Wk_7.out
  have X_8 : Hid (OwnS w3.heap.size w4.heap.size bX l w8) := X_7.out.below gT
  have Go_8 : Hid (WO w4.heap.size w5.heap.size AG V w8) := Go_7.out.below gT
  have Gk_8 : Hid (w8.heap[w5.heap.size]? = some (.cells #[.slice AG.p V.pc.length AG.kp, .int .i64 V.sz, .slice AG.h V.hd.length AG.kh, .slice AG.l V.ln.length AG.kl, .slice AG.e V.hl.length AG.ke, .slice AG.s V.hs.length AG.ks, .int .i64 V.td] 27)) := (gT.block _ (kbox Gk_7.out)).trans Gk_7.out
  clear B_7 Wo_7 Wk_7 X_7 Go_7 Gk_7
  have S2_8 : Hid (OwnS w7.heap.size w8.heap.size bS2 l w8) := oT
  clear oT gT
  go_wp2_with fail
  refine (eqStringS_same bX bS2 l.length l.length l _ HL.out X_8.out.ss S2_8.out.ss).mono ?_
  rintro e w9 ⟨rfl, gE⟩
  have s9 := gE.size
  have B_9 : Hid (Below w0.heap.size w0 w9) := B_8.out.trans (gE.mono B_8.out.size)
  have Wo_9 : Hid (WO w1.heap.size w2.heap.size AW V w9) := Wo_8.out.below gE
  have Wk_9 : Hid (w9.heap[w2.heap.size]? = some (.cells #[.slice AW.p V.pc.length AW.kp, .int .i64 V.sz, .slice AW.h V.hd.length AW.kh, .slice AW.l V.ln.length AW.kl, .slice AW.e V.hl.length AW.ke, .slice AW.s V.hs.length AW.ks, .int .i64 V.td] 27)) := (gE.block _ (kbox Wk_8.out)).trans Wk_8.out
  have X_9 : Hid (OwnS w3.heap.size w4.heap.size bX l w9) := X_8.out.below gE
  have Go_9 : Hid (WO w4.heap.size w5.heap.size AG V w9) := Go_8.out.below gE
  have Gk_9 : Hid (w9.heap[w5.heap.size]? = some (.cells #[.slice AG.p V.pc.length AG.kp, .int .i64 V.sz, .slice AG.h V.hd.length AG.kh, .slice AG.l V.ln.length AG.kl, .slice AG.e V.hl.length AG.ke, .slice AG.s V.hs.length AG.ks, .int .i64 V.td] 27)) := (gE.block _ (kbox Gk_8.out)).trans Gk_8.out
  have S2_9 : Hid (OwnS w7.heap.size w8.heap.size bS2 l w9) := S2_8.out.below gE
  clear B_8 Wo_8 Wk_8 X_8 Go_8 Gk_8 S2_8
  clear gE
  clear S2_9
  go_wp2_with fail
  refine (mark_ownS _ _ bX l.length l _ HL.out X_9.out).mono ?_
  rintro e w10 ⟨rfl, oM, tM⟩
  have hm1 : decide (((1 + l.length : Nat) : Int) < 0) = false := decide_eq_false (by omega)
  have s10 := tM.size
  have B_10 : Hid (Below w0.heap.size w0 w10) := B_9.out.trans (tM.below (by omega) B_9.out.size)
  have Wo_10 : Hid (WO w1.heap.size w2.heap.size AW V w10) := Wo_9.out.out tM (by omega)
  have Wk_10 : Hid (w10.heap[w2.heap.size]? = some (.cells #[.slice AW.p V.pc.length AW.kp, .int .i64 V.sz, .slice AW.h V.hd.length AW.kh, .slice AW.l V.ln.length AW.kl, .slice AW.e V.hl.length AW.ke, .slice AW.s V.hs.length AW.ks, .int .i64 V.td] 27)) := (tM.block _ (kbox Wk_9.out) (by have := kbox Wk_9.out; omega)).trans Wk_9.out
  have X_10 : Hid (OwnS w3.heap.size w4.heap.size bX (smarks l.length 1) w10) := oM
  have Go_10 : Hid (WO w4.heap.size w5.heap.size AG V w10) := Go_9.out.out tM (by omega)
  have Gk_10 : Hid (w10.heap[w5.heap.size]? = some (.cells #[.slice AG.p V.pc.length AG.kp, .int .i64 V.sz, .slice AG.h V.hd.length AG.kh, .slice AG.l V.ln.length AG.kl, .slice AG.e V.hl.length AG.ke, .slice AG.s V.hs.length AG.ks, .int .i64 V.td] 27)) := (tM.block _ (kbox Gk_9.out) (by have := kbox Gk_9.out; omega)).trans Gk_9.out
  clear B_9 Wo_9 Wk_9 X_9 Go_9 Gk_9
  clear oM tM
  generalize 1 + l.length = m1 at *
  obtain ⟨⟨y0, y1, y2, y3, y4, y5, y6⟩, -⟩ := box7 Gk_10.out
  obtain ⟨⟨z0, z1, z2, z3, z4, z5, z6⟩, -⟩ := box7 Wk_10.out
  go_wp2_with fail
  refine (eqWindow_same AG AW V _ HV.out Go_10.out.read Wo_10.out.read).mono ?_
  rintro e w11 ⟨rfl, gE⟩
  clear y0 y1 y2 y3 y4 y5 y6 z0 z1 z2 z3 z4 z5 z6
  have s11 := gE.size
  have B_11 : Hid (Below w0.heap.size w0 w11) := B_10.out.trans (gE.mono B_10.out.size)
  have Wo_11 : Hid (WO w1.heap.size w2.heap.size AW V w11) := Wo_10.out.below gE
  have Wk_11 : Hid (w11.heap[w2.heap.size]? = some (.cells #[.slice AW.p V.pc.length AW.kp, .int .i64 V.sz, .slice AW.h V.hd.length AW.kh, .slice AW.l V.ln.length AW.kl, .slice AW.e V.hl.length AW.ke, .slice AW.s V.hs.length AW.ks, .int .i64 V.td] 27)) := (gE.block _ (kbox Wk_10.out)).trans Wk_10.out
  have X_11 : Hid (OwnS w3.heap.size w4.heap.size bX (smarks l.length 1) w11) := X_10.out.below gE
  have Go_11 : Hid (WO w4.heap.size w5.heap.size AG V w11) := Go_10.out.below gE
  have Gk_11 : Hid (w11.heap[w5.heap.size]? = some (.cells #[.slice AG.p V.pc.length AG.kp, .int .i64 V.sz, .slice AG.h V.hd.length AG.kh, .slice AG.l V.ln.length AG.kl, .slice AG.e V.hl.length AG.ke, .slice AG.s V.hs.length AG.ks, .int .i64 V.td] 27)) := (gE.block _ (kbox Gk_10.out)).trans Gk_10.out
  clear B_10 Wo_10 Wk_10 X_10 Go_10 Gk_10
  clear gE
  clear X_11
  obtain ⟨⟨y0, y1, y2, y3, y4, y5, y6⟩, -⟩ := box7 Gk_11.out
  go_wp2_with fail
  refine (markWindow_any _ _ AG V _ HV.out (by omega) Go_11.out).mono ?_
  rintro e w12 ⟨rfl, oM, tM⟩
  clear y0 y1 y2 y3 y4 y5 y6
  have s12 := tM.size
  have B_12 : Hid (Below w0.heap.size w0 w12) := B_11.out.trans (tM.below (by omega) B_11.out.size)
  have Wo_12 : Hid (WO w1.heap.size w2.heap.size AW V w12) := Wo_11.out.out tM (by omega)
  have Wk_12 : Hid (w12.heap[w2.heap.size]? = some (.cells #[.slice AW.p V.pc.length AW.kp, .int .i64 V.sz, .slice AW.h V.hd.length AW.kh, .slice AW.l V.ln.length AW.kl, .slice AW.e V.hl.length AW.ke, .slice AW.s V.hs.length AW.ks, .int .i64 V.td] 27)) := (tM.block _ (kbox Wk_11.out) (by have := kbox Wk_11.out; omega)).trans Wk_11.out
  have Go_12 : Hid (WO w4.heap.size w5.heap.size AG (wmarks V) w12) := oM
  have Gk_12 : Hid (w12.heap[w5.heap.size]? = some (.cells #[.slice AG.p V.pc.length AG.kp, .int .i64 V.sz, .slice AG.h V.hd.length AG.kh, .slice AG.l V.ln.length AG.kl, .slice AG.e V.hl.length AG.ke, .slice AG.s V.hs.length AG.ks, .int .i64 V.td] 27)) := (tM.block _ (kbox Gk_11.out) (by have := kbox Gk_11.out; omega)).trans Gk_11.out
  clear B_11 Wo_11 Wk_11 Go_11 Gk_11
  clear oM tM
  have hm2 : decide (((wlast V : Nat) : Int) < 0) = false := decide_eq_false (by omega)
  obtain ⟨⟨y0, y1, y2, y3, y4, y5, y6⟩, -⟩ := box7 Gk_12.out
  go_wp2_with fail
  refine (heldWindow_any _ _ AG V _ HV.out Go_12.out).mono ?_
  rintro e w13 ⟨rfl, gH⟩
  clear y0 y1 y2 y3 y4 y5 y6
  have s13 := gH.size
  have B_13 : Hid (Below w0.heap.size w0 w13) := B_12.out.trans (gH.mono B_12.out.size)
  have Wo_13 : Hid (WO w1.heap.size w2.heap.size AW V w13) := Wo_12.out.below gH
  have Wk_13 : Hid (w13.heap[w2.heap.size]? = some (.cells #[.slice AW.p V.pc.length AW.kp, .int .i64 V.sz, .slice AW.h V.hd.length AW.kh, .slice AW.l V.ln.length AW.kl, .slice AW.e V.hl.length AW.ke, .slice AW.s V.hs.length AW.ks, .int .i64 V.td] 27)) := (gH.block _ (kbox Wk_12.out)).trans Wk_12.out
  have Go_13 : Hid (WO w4.heap.size w5.heap.size AG (wmarks V) w13) := Go_12.out.below gH
  have Gk_13 : Hid (w13.heap[w5.heap.size]? = some (.cells #[.slice AG.p V.pc.length AG.kp, .int .i64 V.sz, .slice AG.h V.hd.length AG.kh, .slice AG.l V.ln.length AG.kl, .slice AG.e V.hl.length AG.ke, .slice AG.s V.hs.length AG.ks, .int .i64 V.td] 27)) := (gH.block _ (kbox Gk_12.out)).trans Gk_12.out
  clear B_12 Wo_12 Wk_12 Go_12 Gk_12
  clear gH
  go_wp2_with fail
  refine (HT.out _ B_13.out).mono ?_
  rintro e w14 ⟨bS3, rfl, oT, gT⟩
  have s14 := gT.size
  have B_14 : Hid (Below w0.heap.size w0 w14) := B_13.out.trans (gT.mono B_13.out.size)
  have Wo_14 : Hid (WO w1.heap.size w2.heap.size AW V w14) := Wo_13.out.below gT
  have Wk_14 : Hid (w14.heap[w2.heap.size]? = some (.cells #[.slice AW.p V.pc.length AW.kp, .int .i64 V.sz, .slice AW.h V.hd.length AW.kh, .slice AW.l V.ln.length AW.kl, .slice AW.e V.hl.length AW.ke, .slice AW.s V.hs.length AW.ks, .int .i64 V.td] 27)) := (gT.block _ (kbox Wk_13.out)).trans Wk_13.out
  have Go_14 : Hid (WO w4.heap.size w5.heap.size AG (wmarks V) w14) := Go_13.out.below gT
  have Gk_14 : Hid (w14.heap[w5.heap.size]? = some (.cells #[.slice AG.p V.pc.length AG.kp, .int .i64 V.sz, .slice AG.h V.hd.length AG.kh, .slice AG.l V.ln.length AG.kl, .slice AG.e V.hl.length AG.ke, .slice AG.s V.hs.length AG.ks, .int .i64 V.td] 27)) := (gT.block _ (kbox Gk_13.out)).trans Gk_13.out
  clear B_13 Wo_13 Wk_13 Go_13 Gk_13
  have S3_14 : Hid (OwnS w13.heap.size w14.heap.size bS3 l w14) := oT
  clear oT gT
  go_wp2_with fail
  refine (H11.out bS3 l.length _ S3_14.out.ss).mono ?_
  rintro e w15 ⟨AH, rfl, oA, gA⟩
  have s15 := gA.size
  have B_15 : Hid (Below w0.heap.size w0 w15) := B_14.out.trans (gA.mono B_14.out.size)
  have Wo_15 : Hid (WO w1.heap.size w2.heap.size AW V w15) := Wo_14.out.below gA
  have Wk_15 : Hid (w15.heap[w2.heap.size]? = some (.cells #[.slice AW.p V.pc.length AW.kp, .int .i64 V.sz, .slice AW.h V.hd.length AW.kh, .slice AW.l V.ln.length AW.kl, .slice AW.e V.hl.length AW.ke, .slice AW.s V.hs.length AW.ks, .int .i64 V.td] 27)) := (gA.block _ (kbox Wk_14.out)).trans Wk_14.out
  have Go_15 : Hid (WO w4.heap.size w5.heap.size AG (wmarks V) w15) := Go_14.out.below gA
  have Gk_15 : Hid (w15.heap[w5.heap.size]? = some (.cells #[.slice AG.p V.pc.length AG.kp, .int .i64 V.sz, .slice AG.h V.hd.length AG.kh, .slice AG.l V.ln.length AG.kl, .slice AG.e V.hl.length AG.ke, .slice AG.s V.hs.length AG.ks, .int .i64 V.td] 27)) := (gA.block _ (kbox Gk_14.out)).trans Gk_14.out
  have S3_15 : Hid (OwnS w13.heap.size w14.heap.size bS3 l w15) := S3_14.out.below gA
  clear B_14 Wo_14 Wk_14 Go_14 Gk_14 S3_14
  have Ho_15 : Hid (WO w14.heap.size w15.heap.size AH V w15) := oA
  clear oA gA
  obtain ⟨⟨z0, z1, z2, z3, z4, z5, z6⟩, -⟩ := box7 (((boxB w15 (.cells #[.slice AH.p V.pc.length AH.kp, .int .i64 V.sz, .slice AH.h V.hd.length AH.kh, .slice AH.l V.ln.length AH.kl, .slice AH.e V.hl.length AH.ke, .slice AH.s V.hs.length AH.ks, .int .i64 V.td] 27)).block _ (kbox Wk_15.out)).trans Wk_15.out)
  go_wp2_with fail
  have gA := boxB w15 (.cells #[.slice AH.p V.pc.length AH.kp, .int .i64 V.sz, .slice AH.h V.hd.length AH.kh, .slice AH.l V.ln.length AH.kl, .slice AH.e V.hl.length AH.ke, .slice AH.s V.hs.length AH.ks, .int .i64 V.td] 27)
  have hA := heap_last w15 (.cells #[.slice AH.p V.pc.length AH.kp, .int .i64 V.sz, .slice AH.h V.hd.length AH.kh, .slice AH.l V.ln.length AH.kl, .slice AH.e V.hl.length AH.ke, .slice AH.s V.hs.length AH.ks, .int .i64 V.td] 27)
  have zA : (w15.alloc (.cells #[.slice AH.p V.pc.length AH.kp, .int .i64 V.sz, .slice AH.h V.hd.length AH.kh, .slice AH.l V.ln.length AH.kl, .slice AH.e V.hl.length AH.ke, .slice AH.s V.hs.length AH.ks, .int .i64 V.td] 27)).heap.size ≤ w15.heap.size + 1 := Nat.le_of_eq (heap_size _ _)
  have yA : w15.heap.size < (w15.alloc (.cells #[.slice AH.p V.pc.length AH.kp, .int .i64 V.sz, .slice AH.h V.hd.length AH.kh, .slice AH.l V.ln.length AH.kl, .slice AH.e V.hl.length AH.ke, .slice AH.s V.hs.length AH.ks, .int .i64 V.td] 27)).heap.size := by simp
  generalize w15.alloc (.cells #[.slice AH.p V.pc.length AH.kp, .int .i64 V.sz, .slice AH.h V.hd.length AH.kh, .slice AH.l V.ln.length AH.kl, .slice AH.e V.hl.length AH.ke, .slice AH.s V.hs.length AH.ks, .int .i64 V.td] 27) = w16 at *
  have s16 := gA.size
  have B_16 : Hid (Below w0.heap.size w0 w16) := B_15.out.trans (gA.mono B_15.out.size)
  have Wo_16 : Hid (WO w1.heap.size w2.heap.size AW V w16) := Wo_15.out.below gA
  have Wk_16 : Hid (w16.heap[w2.heap.size]? = some (.cells #[.slice AW.p V.pc.length AW.kp, .int .i64 V.sz, .slice AW.h V.hd.length AW.kh, .slice AW.l V.ln.length AW.kl, .slice AW.e V.hl.length AW.ke, .slice AW.s V.hs.length AW.ks, .int .i64 V.td] 27)) := (gA.block _ (kbox Wk_15.out)).trans Wk_15.out
  have Go_16 : Hid (WO w4.heap.size w5.heap.size AG (wmarks V) w16) := Go_15.out.below gA
  have Gk_16 : Hid (w16.heap[w5.heap.size]? = some (.cells #[.slice AG.p V.pc.length AG.kp, .int .i64 V.sz, .slice AG.h V.hd.length AG.kh, .slice AG.l V.ln.length AG.kl, .slice AG.e V.hl.length AG.ke, .slice AG.s V.hs.length AG.ks, .int .i64 V.td] 27)) := (gA.block _ (kbox Gk_15.out)).trans Gk_15.out
  have S3_16 : Hid (OwnS w13.heap.size w14.heap.size bS3 l w16) := S3_15.out.below gA
  have Ho_16 : Hid (WO w14.heap.size w15.heap.size AH V w16) := Ho_15.out.below gA
  clear B_15 Wo_15 Wk_15 Go_15 Gk_15 S3_15 Ho_15
  have Hk_16 : Hid (w16.heap[w15.heap.size]? = some (.cells #[.slice AH.p V.pc.length AH.kp, .int .i64 V.sz, .slice AH.h V.hd.length AH.kh, .slice AH.l V.ln.length AH.kl, .slice AH.e V.hl.length AH.ke, .slice AH.s V.hs.length AH.ks, .int .i64 V.td] 27)) := hA
  have zz16 := zA
  have yy16 := yA
  clear gA hA zA yA
  clear z0 z1 z2 z3 z4 z5 z6
  clear S3_16
  refine (eqWindow_same AH AW V _ HV.out Ho_16.out.read Wo_16.out.read).mono ?_
  rintro e w17 ⟨rfl, gE⟩
  have s17 := gE.size
  have B_17 : Hid (Below w0.heap.size w0 w17) := B_16.out.trans (gE.mono B_16.out.size)
  have Wo_17 : Hid (WO w1.heap.size w2.heap.size AW V w17) := Wo_16.out.below gE
  have Wk_17 : Hid (w17.heap[w2.heap.size]? = some (.cells #[.slice AW.p V.pc.length AW.kp, .int .i64 V.sz, .slice AW.h V.hd.length AW.kh, .slice AW.l V.ln.length AW.kl, .slice AW.e V.hl.length AW.ke, .slice AW.s V.hs.length AW.ks, .int .i64 V.td] 27)) := (gE.block _ (kbox Wk_16.out)).trans Wk_16.out
  have Go_17 : Hid (WO w4.heap.size w5.heap.size AG (wmarks V) w17) := Go_16.out.below gE
  have Gk_17 : Hid (w17.heap[w5.heap.size]? = some (.cells #[.slice AG.p V.pc.length AG.kp, .int .i64 V.sz, .slice AG.h V.hd.length AG.kh, .slice AG.l V.ln.length AG.kl, .slice AG.e V.hl.length AG.ke, .slice AG.s V.hs.length AG.ks, .int .i64 V.td] 27)) := (gE.block _ (kbox Gk_16.out)).trans Gk_16.out
  have Ho_17 : Hid (WO w14.heap.size w15.heap.size AH V w17) := Ho_16.out.below gE
  have Hk_17 : Hid (w17.heap[w15.heap.size]? = some (.cells #[.slice AH.p V.pc.length AH.kp, .int .i64 V.sz, .slice AH.h V.hd.length AH.kh, .slice AH.l V.ln.length AH.kl, .slice AH.e V.hl.length AH.ke, .slice AH.s V.hs.length AH.ks, .int .i64 V.td] 27)) := (gE.block _ (kbox Hk_16.out)).trans Hk_16.out
  clear B_16 Wo_16 Wk_16 Go_16 Gk_16 Ho_16 Hk_16
  clear gE
  obtain ⟨⟨y0, y1, y2, y3, y4, y5, y6⟩, -⟩ := box7 Gk_17.out
  go_wp2_with fail
  refine (heldWindow_any _ _ AG V _ HV.out Go_17.out).mono ?_
  rintro e w18 ⟨rfl, gH⟩
  clear y0 y1 y2 y3 y4 y5 y6
  have s18 := gH.size
  have B_18 : Hid (Below w0.heap.size w0 w18) := B_17.out.trans (gH.mono B_17.out.size)
  have Wo_18 : Hid (WO w1.heap.size w2.heap.size AW V w18) := Wo_17.out.below gH
  have Wk_18 : Hid (w18.heap[w2.heap.size]? = some (.cells #[.slice AW.p V.pc.length AW.kp, .int .i64 V.sz, .slice AW.h V.hd.length AW.kh, .slice AW.l V.ln.length AW.kl, .slice AW.e V.hl.length AW.ke, .slice AW.s V.hs.length AW.ks, .int .i64 V.td] 27)) := (gH.block _ (kbox Wk_17.out)).trans Wk_17.out
  have Go_18 : Hid (WO w4.heap.size w5.heap.size AG (wmarks V) w18) := Go_17.out.below gH
  have Gk_18 : Hid (w18.heap[w5.heap.size]? = some (.cells #[.slice AG.p V.pc.length AG.kp, .int .i64 V.sz, .slice AG.h V.hd.length AG.kh, .slice AG.l V.ln.length AG.kl, .slice AG.e V.hl.length AG.ke, .slice AG.s V.hs.length AG.ks, .int .i64 V.td] 27)) := (gH.block _ (kbox Gk_17.out)).trans Gk_17.out
  have Ho_18 : Hid (WO w14.heap.size w15.heap.size AH V w18) := Ho_17.out.below gH
  have Hk_18 : Hid (w18.heap[w15.heap.size]? = some (.cells #[.slice AH.p V.pc.length AH.kp, .int .i64 V.sz, .slice AH.h V.hd.length AH.kh, .slice AH.l V.ln.length AH.kl, .slice AH.e V.hl.length AH.ke, .slice AH.s V.hs.length AH.ks, .int .i64 V.td] 27)) := (gH.block _ (kbox Hk_17.out)).trans Hk_17.out
  clear B_17 Wo_17 Wk_17 Go_17 Gk_17 Ho_17 Hk_17
  clear gH
  go_wp2_with fail
  go_ret
  exact ⟨rfl, B_18.out⟩
theorem walk_NewWindow (a : Option Addr) (c : Nat) (l : List ByteArray) (sz : Int) (w : World) (h : Ss w.heap.size a l w) (hs : ∀ s ∈ l, s.size ≤ 9223372036854775807) (hn : l.length ≤ 9223372036854775807) (_h1 : fit sz) :
    Calls Try.prog 3 #[.slice a l.length c, .int .i64 sz] w fun e w' => e = .returned (.bool true) ∧ Below w.heap.size w w' :=
  law_NewWindow a c l sz w hs hn h (newV l sz) (newOk l sz) (newV_fit l sz) (fun hl a c v h1 => (snew_any a c l sz v hl h1).mono fun _ _ h => h.tells) (fun hl a c v h1 => (inew_any a c l sz v hl h1).mono fun _ _ h => h.tells)
end Go.Proofs.Ytaiilhhkfjlkoaa
