/- The program's GoodWorks. -/
import Derived.Test.YtgompioaknfjgabUwGi
namespace Go.Proofs.Ytgompioaknfjgab
set_option maxRecDepth 100000
open Go Go.ChangeShapes Go.WideShapes Go.ChangeAt Go.RowKit
/-- a world that has grown -/
structure Gw (W : World) where
  v : World
  b : Below W.heap.size W v
/-- a region that draws, walked once: its callees may make memory, but tell one value in every world that has grown -/
theorem region_grown {P : Program} {id : Nat} {Q : Exit → Act → World → Prop} {a : Act} {w : World} {l : List Oper} (W : World) (hw : Below W.heap.size W w) (hm : P.follows .mixedOrders = true) (hB : Region.lexB .any l.toArray = true)
    (h : wpQuiet P l.toArray (fun w' => ∃ s : Gw W, w' = s.v) (fun a' => ∀ w', (∃ s : Gw W, w' = s.v) → Q .normal a' w') l a) : (Code.region id l.toArray true).wp P Q a w :=
  wp_region_quiet (C := fun w' => ∃ s : Gw W, w' = s.v) hm hB ⟨⟨w.drew, hw.drew⟩, rfl⟩ (by simpa using h)
theorem grown_of {P : Program} {f : FuncId} {args : Array Value} {W : World} {s : Gw W} {v : Value} (h : Calls P f args s.v fun e w' => e = .returned v ∧ Below s.v.heap.size s.v w') : Calls P f args s.v fun e w'' => e = .returned v ∧ ∃ s' : Gw W, w'' = s'.v :=
  h.mono fun _ w' ⟨he, hb⟩ => ⟨he, ⟨w', s.b.trans (hb.mono s.b.size)⟩, rfl⟩
/-- what the program's GoodWorks holds against it, in its own order -/
theorem goodU_prog (X : Uw) : goodU X = (cellsB X.cl && (cellsB X.dk && ((decide (X.lg.length ≤ 60) && X.lg.all noteB) && (inB 0 X.lg.length X.sr && decide (X.op = openL X.lg))))) := by
  unfold goodU
  cases X.lg.all noteB <;> cases cellsB X.cl <;> cases cellsB X.dk <;> cases decide (X.lg.length ≤ 60) <;> rfl
set_option maxHeartbeats 8000000 in
theorem igoodU_any (A : UwA) (X : Uw) (w : World) (hf : UwFit X) (h : UwR w.heap.size A X w) :
    Calls Try.prog 16 #[.agg #[.slice A.c X.cl.length A.kc, .slice A.d X.dk.length A.kd, .slice A.l X.lg.length A.kl, .int .i64 X.sr, .slice A.o X.op.length A.ko]] w fun e w' => e = .returned (.bool (goodU X)) ∧ Below w.heap.size w w' := by
  have HB0 := hid (boxB w (.cells #[.slice A.c X.cl.length A.kc, .slice A.d X.dk.length A.kd, .slice A.l X.lg.length A.kl, .int .i64 X.sr, .slice A.o X.op.length A.ko] 31))
  have HK0 := hid (heap_last w (.cells #[.slice A.c X.cl.length A.kc, .slice A.d X.dk.length A.kd, .slice A.l X.lg.length A.kl, .int .i64 X.sr, .slice A.o X.op.length A.ko] 31))
  have HZ : Hid (∀ v, Below w.heap.size w v → UwR v.heap.size A X v) := fun v g => h.up g g.size
  have HF := hid hf
  have EG : Hid (goodU X = (cellsB X.cl && (cellsB X.dk && ((decide (X.lg.length ≤ 60) && X.lg.all noteB) && (inB 0 X.lg.length X.sr && decide (X.op = openL X.lg)))))) := goodU_prog X
  have n2 := hf.l
  have n3 := hf.o
  clear h hf
  go_enter Try.func16, Try.ntmps16
  go_upto_region 1 with fail
  generalize w.alloc (.cells #[.slice A.c X.cl.length A.kc, .slice A.d X.dk.length A.kd, .slice A.l X.lg.length A.kl, .int .i64 X.sr, .slice A.o X.op.length A.ko] 31) = W at *
  have HUP : Hid (∀ v, Below W.heap.size W v → Below w.heap.size w v) := fun v g => HB0.out.trans (g.mono HB0.out.size)
  have HS : Hid (∀ v, Below W.heap.size W v → v.cell? ⟨w.heap.size, 0, none⟩ = some (.slice A.c X.cl.length A.kc) ∧ v.cell? ⟨w.heap.size, 1, none⟩ = some (.slice A.d X.dk.length A.kd) ∧ v.cell? ⟨w.heap.size, 2, none⟩ = some (.slice A.l X.lg.length A.kl) ∧ v.cell? ⟨w.heap.size, 3, none⟩ = some (.int .i64 X.sr) ∧ v.cell? ⟨w.heap.size, 4, none⟩ = some (.slice A.o X.op.length A.ko)) := fun v g => by
    have h1 := (g.block _ (kbox HK0.out)).trans HK0.out
    exact ⟨box_cell h1 0, box_cell h1 1, box_cell h1 2, box_cell h1 3, box_cell h1 4⟩
  have HC1 : Hid (∀ v, Below W.heap.size W v → Calls Try.prog 27 #[.slice A.c X.cl.length A.kc] v fun e w' => e = .returned (.bool (cellsB X.cl)) ∧ Below v.heap.size v w') := fun v g => (goodCells_any A.c A.kc X.cl v HF.out.c (HZ.out v (HUP.out v g)).c).mono fun _ _ h => ⟨h.1, by rw [h.2]; exact Below.refl _ _⟩
  have HC2 : Hid (∀ v, Below W.heap.size W v → Calls Try.prog 27 #[.slice A.d X.dk.length A.kd] v fun e w' => e = .returned (.bool (cellsB X.dk)) ∧ Below v.heap.size v w') := fun v g => (goodCells_any A.d A.kd X.dk v HF.out.d (HZ.out v (HUP.out v g)).d).mono fun _ _ h => ⟨h.1, by rw [h.2]; exact Below.refl _ _⟩
  have HC3 : Hid (∀ v, Below W.heap.size W v → Calls Try.prog 28 #[.slice A.l X.lg.length A.kl] v fun e w' => e = .returned (.bool (decide (X.lg.length ≤ 60) && X.lg.all noteB)) ∧ Below v.heap.size v w') := fun v g => goodNotes_any A.l A.kl X.lg v n2 (HZ.out v (HUP.out v g)).l
  have HC4 : Hid (X.lg.all noteB = true → ∀ v, Below W.heap.size W v → Calls Try.prog 30 #[.slice A.l X.lg.length A.kl] v fun e w' => ∃ q c, e = .returned (.slice q (openL X.lg).length c) ∧ Is w'.heap.size q (openL X.lg) w' ∧ Below v.heap.size v w') := fun hN v g => (openIn_any A.l A.kl X.lg v n2 hN (HZ.out v (HUP.out v g)).l).mono fun _ _ h => by
    obtain ⟨s, h1, h2, h3⟩ := h
    obtain ⟨q, c, rfl, ho, _⟩ := h2.own
    exact ⟨q, c, h1, ho.is, h3⟩
  have hol : (openL X.lg).length ≤ 1048576 := Nat.le_trans (openK_len X.lg 9) (by decide)
  have HC5 : Hid (∀ v q c, Below W.heap.size W v → Is v.heap.size q (openL X.lg) v → Calls Try.prog 29 #[.slice A.o X.op.length A.ko, .slice q (openL X.lg).length c] v fun e w' => e = .returned (.bool (decide (X.op = openL X.lg))) ∧ Below v.heap.size v w') := fun v q c g hq => equalI_any A.o q A.ko c X.op (openL X.lg) v n3 hol (HZ.out v (HUP.out v g)).o hq
  have HQ1 : Hid (∀ s : Gw W, Calls Try.prog 27 #[.slice A.c X.cl.length A.kc] s.v fun e w'' => e = .returned (.bool (cellsB X.cl)) ∧ ∃ s' : Gw W, w'' = s'.v) := fun s => grown_of (HC1.out s.v s.b)
  have HQ2 : Hid (∀ s : Gw W, Calls Try.prog 27 #[.slice A.d X.dk.length A.kd] s.v fun e w'' => e = .returned (.bool (cellsB X.dk)) ∧ ∃ s' : Gw W, w'' = s'.v) := fun s => grown_of (HC2.out s.v s.b)
  have HQ3 : Hid (∀ s : Gw W, Calls Try.prog 28 #[.slice A.l X.lg.length A.kl] s.v fun e w'' => e = .returned (.bool (decide (X.lg.length ≤ 60) && X.lg.all noteB)) ∧ ∃ s' : Gw W, w'' = s'.v) := fun s => grown_of (HC3.out s.v s.b)
  have HC4A : Hid ((decide (X.lg.length ≤ 60) && X.lg.all noteB) = true → X.lg.all noteB = true) := fun h => by rw [Bool.and_eq_true] at h; exact h.2
  have EI : Hid (inB 0 X.lg.length X.sr = (decide ((0 : Int) ≤ X.sr) && decide (X.sr ≤ (X.lg.length : Int)))) := rfl
  have BD : Below W.heap.size W W.drew := (Below.refl _ _).drew
  have hol2 := hid hol
  clear hol HF HB0 HK0
  generalize cellsB X.cl = c1 at *
  generalize cellsB X.dk = c2 at *
  generalize (decide (X.lg.length ≤ 60) && X.lg.all noteB) = c3 at *
  generalize inB 0 (X.lg.length : Int) X.sr = c4 at *
  generalize decide (X.op = openL X.lg) = c5 at *
  have hs0 : ∀ s : Gw W, s.v.cell? ⟨w.heap.size, 0, none⟩ = some (.slice A.c X.cl.length A.kc) := fun s => (HS.out s.v s.b).1
  have hs1 : ∀ s : Gw W, s.v.cell? ⟨w.heap.size, 1, none⟩ = some (.slice A.d X.dk.length A.kd) := fun s => (HS.out s.v s.b).2.1
  have hs2 : ∀ s : Gw W, s.v.cell? ⟨w.heap.size, 2, none⟩ = some (.slice A.l X.lg.length A.kl) := fun s => (HS.out s.v s.b).2.2.1
  have hs3 : ∀ s : Gw W, s.v.cell? ⟨w.heap.size, 3, none⟩ = some (.int .i64 X.sr) := fun s => (HS.out s.v s.b).2.2.2.1
  have hne : Nonempty (Gw W) := ⟨⟨W, Below.refl _ _⟩⟩
  have hcl : ∀ s : Gw W, ∃ s' : Gw W, s.v = s'.v := fun s => ⟨s, rfl⟩
  cases c1
  · refine region_grown W (Below.refl _ _) (by kernel_rfl) (by kernel_rfl) ?_
    repeat (go_big_quiet_step ((first | (go_at_call 27; with_reducible exact HQ1.out _) | (go_at_call 27; with_reducible exact HQ2.out _) | (go_at_call 28; with_reducible exact HQ3.out _))))
    refine wpQuiet_nil ?_
    rintro _ ⟨s, rfl⟩
    have hb := hid (HUP.out _ s.b)
    go_wp2_with fail
    go_ret
    exact ⟨by rw [EG.out]; rfl, hb.out⟩
  cases c2
  · refine region_grown W (Below.refl _ _) (by kernel_rfl) (by kernel_rfl) ?_
    repeat (go_big_quiet_step ((first | (go_at_call 27; with_reducible exact HQ1.out _) | (go_at_call 27; with_reducible exact HQ2.out _) | (go_at_call 28; with_reducible exact HQ3.out _))))
    refine wpQuiet_nil ?_
    rintro _ ⟨s, rfl⟩
    have hb := hid (HUP.out _ s.b)
    go_wp2_with fail
    go_ret
    exact ⟨by rw [EG.out]; rfl, hb.out⟩
  cases c3
  · refine region_grown W (Below.refl _ _) (by kernel_rfl) (by kernel_rfl) ?_
    repeat (go_big_quiet_step ((first | (go_at_call 27; with_reducible exact HQ1.out _) | (go_at_call 27; with_reducible exact HQ2.out _) | (go_at_call 28; with_reducible exact HQ3.out _))))
    refine wpQuiet_nil ?_
    rintro _ ⟨s, rfl⟩
    have hb := hid (HUP.out _ s.b)
    go_wp2_with fail
    go_ret
    exact ⟨by rw [EG.out]; rfl, hb.out⟩
  have HC4B := hid (HC4.out (HC4A.out rfl))
  by_cases z0 : (0 : Int) ≤ X.sr
  case neg =>
    have e0 : decide ((0 : Int) ≤ X.sr) = false := decide_eq_false z0
    have E4 : Hid (c4 = false) := by show c4 = false; rw [EI.out, e0]; rfl
    clear z0 EI
    refine region_grown W (Below.refl _ _) (by kernel_rfl) (by kernel_rfl) ?_
    repeat (go_big_quiet_step ((first | (go_at_call 27; with_reducible exact HQ1.out _) | (go_at_call 27; with_reducible exact HQ2.out _) | (go_at_call 28; with_reducible exact HQ3.out _))))
    refine wpQuiet_nil ?_
    rintro _ ⟨s, rfl⟩
    have hb := hid (HUP.out _ s.b)
    go_wp2_with fail
    go_ret
    exact ⟨by rw [EG.out, E4.out]; rfl, hb.out⟩
  have e0 : decide ((0 : Int) ≤ X.sr) = true := decide_eq_true z0
  by_cases z1 : X.sr ≤ (X.lg.length : Int)
  case neg =>
    have e1 : decide (X.sr ≤ (X.lg.length : Int)) = false := decide_eq_false z1
    have E4 : Hid (c4 = false) := by show c4 = false; rw [EI.out, e0, e1]; rfl
    clear z0 z1 EI
    refine region_grown W (Below.refl _ _) (by kernel_rfl) (by kernel_rfl) ?_
    repeat (go_big_quiet_step ((first | (go_at_call 27; with_reducible exact HQ1.out _) | (go_at_call 27; with_reducible exact HQ2.out _) | (go_at_call 28; with_reducible exact HQ3.out _))))
    refine wpQuiet_nil ?_
    rintro _ ⟨s, rfl⟩
    have hb := hid (HUP.out _ s.b)
    go_wp2_with fail
    go_ret
    exact ⟨by rw [EG.out, E4.out]; rfl, hb.out⟩
  have e1 : decide (X.sr ≤ (X.lg.length : Int)) = true := decide_eq_true z1
  have E4 : Hid (c4 = true) := by show c4 = true; rw [EI.out, e0, e1]; rfl
  clear z0 z1 EI hcl hne hs0 hs1 hs2 hs3 HQ1 HQ2 HQ3 HC4
  have d0 := HS.out _ BD
  go_region_held (fun v => v.cell? ⟨w.heap.size, 0, none⟩ = some (.slice A.c X.cl.length A.kc) ∧ v.cell? ⟨w.heap.size, 1, none⟩ = some (.slice A.d X.dk.length A.kd) ∧ v.cell? ⟨w.heap.size, 2, none⟩ = some (.slice A.l X.lg.length A.kl) ∧ v.cell? ⟨w.heap.size, 3, none⟩ = some (.int .i64 X.sr) ∧ v.cell? ⟨w.heap.size, 4, none⟩ = some (.slice A.o X.op.length A.ko)) (first | exact HS.out _ (by with_reducible assumption)) (first | (go_at_call 29; refine (HC5.out _ qq cc Ba hq).mono ?_; rintro e wb ⟨rfl, bb⟩; have Bb : Below W.heap.size W wb := Ba.trans (bb.mono Ba.size)) | (go_at_call 30; refine (HC4B.out _ B9).mono ?_; rintro e wa ⟨qq, cc, rfl, hq, ba⟩; have Ba : Below W.heap.size W wa := B9.trans (ba.mono B9.size)) | (go_at_call 28; refine (HC3.out _ B8).mono ?_; rintro e w9 ⟨rfl, b9⟩; have B9 : Below W.heap.size W w9 := B8.trans (b9.mono B8.size)) | (go_at_call 27; refine (HC2.out _ B7).mono ?_; rintro e w8 ⟨rfl, b8⟩; have B8 : Below W.heap.size W w8 := B7.trans (b8.mono B7.size)) | (go_at_call 27; refine (HC1.out _ BD).mono ?_; rintro e w7 ⟨rfl, b7⟩; have B7 : Below W.heap.size W w7 := BD.trans (b7.mono BD.size)))
  all_goals
    have HBZ := hid (HUP.out _ Bb)
    go_wp2_with fail
    go_ret
    exact ⟨by rw [EG.out, E4.out]; cases c5 <;> rfl, HBZ.out⟩
end Go.Proofs.Ytgompioaknfjgab
