/- The program's undoing.backOver, whatever its function does: the walk. -/
import Derived.Test.YtgompioaknfjgaaUwBo
namespace Go.Proofs.Ytgompioaknfjgaa
set_option maxRecDepth 100000
open Go Go.ChangeShapes Go.WideShapes Go.ChangeAt Go.RowKit Go.Shelf
attribute [local go_sem] Oper.semAt_some
/-- what stands in the boxes of a backOver -/
structure Bo (w : World) (a au : Option Addr) (cap cu n : Nat) (op : List Int) (uf : Nat) (caps : Array Value) (W : World) : Prop where
  u : W.heap[w.heap.size]? = some (.cells #[.slice au op.length cu, .func (.func uf) #[] caps] 97 (0, 0))
  s : Boxed W (w.heap.size + 1) 23 (.slice a n cap)
  m : Boxed W (w.heap.size + 1 + 1) 23 (.slice a n cap)
theorem Bo.lt {w : World} {a au : Option Addr} {cap cu n : Nat} {op : List Int} {uf : Nat} {caps : Array Value} {W : World} (h : Bo w a au cap cu n op uf caps W) : w.heap.size + 3 ≤ W.heap.size := h.m.lt
theorem Bo.on {w : World} {a au : Option Addr} {cap cu n : Nat} {op : List Int} {uf : Nat} {caps : Array Value} {W W' : World} (h : Bo w a au cap cu n op uf caps W) (g : OutP (fun b => b < w.heap.size) W W') : Bo w a au cap cu n op uf caps W' := by
  have hl := h.lt
  exact ⟨(g.block _ (by omega) (by omega)).trans h.u, (g.block _ (by omega) (by omega)).trans h.s, (g.block _ (by omega) (by omega)).trans h.m⟩
theorem Bo.grown {w : World} {a au : Option Addr} {cap cu n : Nat} {op : List Int} {uf : Nat} {caps : Array Value} {X Y : World} {row : Option Nat} (h : Bo w a au cap cu n op uf caps X) (hg : X.grownBy Y row) (hr : ∀ r, row = some r → ∃ o, X.heap[r]? = some o ∧ o.isCells = false) : Bo w a au cap cu n op uf caps Y := by
  have hne : ∀ {B : Nat} {o : Obj}, X.heap[B]? = some o → o.isCells = true → Y.heap[B]? = some o := fun hb hc => (hg.block _ (Array.getElem?_eq_some_iff.1 hb).1 (fun e => by obtain ⟨o', g1, g2⟩ := hr _ e.symm; rw [hb] at g1; cases g1; rw [hc] at g2; cases g2)).trans hb
  exact ⟨hne h.u rfl, hne h.s rfl, hne h.m rfl⟩
set_option maxHeartbeats 8000000 in
theorem backOver_any (a au : Option Addr) (cap cu : Nat) (S : List Nt) (op : List Int) (uf : Nat) (caps : Array Value) (w : World) (hlen : S.length ≤ 1048576) (hop : op.length ≤ 1048576)
    (hent : ∀ args w, (callFunc uf args).run Try.prog w = .ok (.enter uf args) w)
    (J : List (Fin S.length) → World → Prop) (Rd : World → Prop)
    (hJ : ∀ pre W W', J pre W → Below W.heap.size W W' → J pre W') (hJo : OwnFrom w.heap.size J)
    (hR : ∀ W W', Rd W → Below W.heap.size W W' → Rd W') (hRo : OwnFrom w.heap.size (fun (_ : Unit) W => Rd W))
    (hRd : ∀ W, Rd W → Nts W.heap.size a S W ∧ Is W.heap.size au op W)
    (hU : ∀ pre (x : Fin S.length) W, J pre W → Rd W → w.heap.size ≤ W.heap.size → condB S op x = true → Calls Try.prog uf (#[nv S x] ++ caps) W fun e W' => (∃ v, e = .returned v) ∧ J (pre ++ [x]) W' ∧ Rd W' ∧ OutP (fun b => b < w.heap.size) W W')
    (hNo : ∀ pre (x : Fin S.length) W, J pre W → condB S op x = false → J (pre ++ [x]) W)
    (h0 : J [] w) (hR0 : Rd w) :
    Calls Try.prog 81 #[.agg #[.slice au op.length cu, .func (.func uf) #[] caps], .slice a S.length cap] w fun e W' => (∃ v, e = .returned v) ∧ J (bkT S S.length) W' ∧ Rd W' ∧ w.heap.size ≤ W'.heap.size := by
  have HJ := hid hJ
  have HJO := hid hJo
  have HR := hid hR
  have HRO := hid hRo
  have HRD := hid hRd
  have HU := hid hU
  have HNO := hid hNo
  clear hJ hJo hR hRo hRd hU hNo
  refine (callsIn_wide (n := 6)).1 ?_
  have hro : Fence.wide.round = none := rfl
  refine callsIn_of_wp_marks Try.func81 rfl trivial ?_ hro
  simp only [Try.ntmps81, List.size_toArray, List.length_cons, List.length_nil, Nat.reduceAdd, Nat.reduceSub, Array.replicate_succ, Array.replicate_zero, List.push_toArray, List.append_toArray, List.nil_append, List.cons_append]
  have hF1 : Fence.wide.fn 84 := trivial
  have hF2 : Fence.wide.fn 70 := trivial
  have hF3 : Fence.wide.fn 74 := trivial
  have hF4 : Fence.wide.fn uf := trivial
  have HBN : Hid (∀ v m, CallsIn Fence.wide m Try.prog 84 #[.slice a S.length cap] v fun e w' => e = .returned (.func (.func 100) #[] #[.pointer (some ⟨v.heap.size, 0, none⟩)]) ∧ w' = v.alloc (.cells #[.slice a S.length cap] 23)) := fun v m => callsIn_wide.2 (backN_any a cap S.length v)
  gi_wp2_with (gi_at_call 84; refine (HBN.out _ _).mono ?_; rintro e w2 ⟨rfl, hw2⟩)
  clear HBN
  have bA : (w.alloc (.cells #[.slice au op.length cu, .func (.func uf) #[] caps] 97)).heap[w.heap.size]? = some (.cells #[.slice au op.length cu, .func (.func uf) #[] caps] 97 (0, 0)) := World.alloc_heap_new w _
  have bB := Boxed.new (w.alloc (.cells #[.slice au op.length cu, .func (.func uf) #[] caps] 97)) 23 (.slice a S.length cap)
  have bC := Boxed.new ((w.alloc (.cells #[.slice au op.length cu, .func (.func uf) #[] caps] 97)).alloc (.cells #[.slice a S.length cap] 23)) 23 (.slice a S.length cap)
  have bB := bB.alloc (.cells #[.slice a S.length cap] 23)
  have hB0 : Below w.heap.size w (((w.alloc (.cells #[.slice au op.length cu, .func (.func uf) #[] caps] 97)).alloc (.cells #[.slice a S.length cap] 23)).alloc (.cells #[.slice a S.length cap] 23)) := (((Below.refl _ w).alloc (Nat.le_refl _) _).alloc (by simp) _).alloc (by simp; omega) _
  have bA2 : (((w.alloc (.cells #[.slice au op.length cu, .func (.func uf) #[] caps] 97)).alloc (.cells #[.slice a S.length cap] 23)).alloc (.cells #[.slice a S.length cap] 23)).heap[w.heap.size]? = some (.cells #[.slice au op.length cu, .func (.func uf) #[] caps] 97 (0, 0)) := by
    rw [Below.heap_alloc _ _ _ (by simp; omega), Below.heap_alloc _ _ _ (by simp)]; exact bA
  have hsz : (((w.alloc (.cells #[.slice au op.length cu, .func (.func uf) #[] caps] 97)).alloc (.cells #[.slice a S.length cap] 23)).alloc (.cells #[.slice a S.length cap] 23)).heap.size = w.heap.size + 3 := by simp
  simp only [World.size_alloc] at bB bC hw2 ⊢
  rw [← hw2] at bA2 bB bC hB0 hsz ⊢
  clear hw2 bA
  have HB0 : Hid (Bo w a au cap cu S.length op uf caps w2) := ⟨bA2, bB, bC⟩
  have HJ0 := hid (HJ.out [] w w2 h0 hB0)
  have HR0 := hid (HR.out w w2 hR0 hB0)
  refine wpIn_rangeFunc_ownH hro (by omega) (gf := 100) (lb := #[.pointer (some ⟨w.heap.size + 1 + 1, 0, none⟩)]) rfl trivial (enters_of Try.func100 (by kernel_rfl) rfl)
    (back_stopsK Fence.wide (6 - 1) trivial hro (by omega) (w.heap.size + 1 + 1) cap a S w2 hlen (fun W => Rd W ∧ Bo w a au cap cu S.length op uf caps W) (fun W h => ⟨h.2.m.cell, (HRD.out W h.1).1⟩) (fun W h => ⟨HR.out w2 W HR0.out h, HB0.out.on (Below.outP h)⟩))
    (fun h k r => k (h r)) ?hKb (Below.refl _ _) (fun _ => rfl)
    (fun pre W => J pre W ∧ Rd W ∧ Bo w a au cap cu S.length op uf caps W)
    (fun _ _ _ => False) ?hI (fun _ _ _ _ _ hs _ _ => hs) ⟨HJ0.out, HR0.out, HB0.out⟩
    (fun k a' W => ∃ Bx, w.heap.size + 2 < Bx ∧ W.heap[Bx]? = some (.cells #[.int .i64 S[k.1].kd, .int .i64 S[k.1].wh, .int .i64 S[k.1].cl, .int .i64 S[k.1].ws, .int .i64 S[k.1].is] 67 (0, 0)) ∧ a' = { tmps := #[.agg #[.slice au op.length cu, .func (.func uf) #[] caps], .slice a S.length cap, .pointer (some ⟨w.heap.size, 0, none⟩), .pointer (some ⟨w.heap.size + 1, 0, none⟩), .int .i64 (k.1 : Int), .pointer (some ⟨Bx, 0, none⟩), undef, undef, .slice a S.length cap, .func (.func 100) #[] #[.pointer (some ⟨w.heap.size + 1 + 1, 0, none⟩)], .int .i64 (k.1 : Int), nv S k, undef, undef, undef, undef, undef, undef, undef, undef, undef, undef, undef, undef, undef, undef, undef, undef, undef, undef, undef, undef, undef, undef, undef, undef, undef, undef], defers := [] })
    ?hAx ?assign ?body ?done ?stop
  case hKb =>
    rintro W l o o' hl hW hc hwk ⟨h1, h2⟩
    have hg := grownBy_putObj' W l o'
    exact ⟨HRO.out.putObj (s := ()) _ h1 (by omega) hW hc, h2.grown hg (fun r e => by cases e; exact ⟨o, hW, hc⟩)⟩
  case hI =>
    rintro pre X Y row ⟨h1, h2, h3⟩ hg hr
    have hr' : ∀ r, row = some r → w.heap.size ≤ r ∧ ∃ o, X.heap[r]? = some o ∧ o.isCells = false := fun r e => ⟨by have := (hr r e).1; omega, (hr r e).2⟩
    exact ⟨HJO.out pre X Y row h1 hg hr', HRO.out () X Y row h2 hg hr', h3.grown hg (fun r e => (hr r e).2)⟩
  case hAx =>
    intro x a' _ X Y row hs hg hr
    obtain ⟨Bx, h1, h2, h3⟩ := hs
    have hlt : Bx < X.heap.size := (Array.getElem?_eq_some_iff.1 h2).1
    exact ⟨Bx, h1, (hg.block Bx hlt (fun e => by obtain ⟨o, g1, g2⟩ := (hr _ e.symm).2; rw [h2] at g1; cases g1; cases g2)).trans h2, h3⟩
  case assign =>
    rintro l pre x W K ⟨i1, i2, i3⟩ hK
    have hlw : nv S x = .agg #[.int .i64 S[x.1].kd, .int .i64 S[x.1].wh, .int .i64 S[x.1].cl, .int .i64 S[x.1].ws, .int .i64 S[x.1].is] := rfl
    have hb : Below W.heap.size W (W.alloc (.cells #[.int .i64 S[x.1].kd, .int .i64 S[x.1].wh, .int .i64 S[x.1].cl, .int .i64 S[x.1].ws, .int .i64 S[x.1].is] 67)) := boxB W _
    have hs4 := i3.lt
    have j1 := HJ.out _ _ _ i1 hb
    have j2 := HR.out _ _ i2 hb
    have j3 := i3.on (Below.outP hb)
    rw [hlw]
    gi_wp2
    exact hK _ _ ((KeepsOthers.alloc _ _).from _) (fun _ => ⟨j2, j3⟩) ⟨j1, j2, j3⟩ ⟨W.heap.size, by omega, World.alloc_heap_new W _, rfl⟩
  case done =>
    rintro D ys W hD rfl ⟨i1, i2, i3⟩ hK
    have hs4 := i3.lt
    have j1 := HJO.out.putObj (.deferred none) i1 (show w.heap.size ≤ D by omega) hK rfl
    have j2 := HRO.out.putObj (s := ()) (.deferred none) i2 (show w.heap.size ≤ D by omega) hK rfl
    gi_wp2
    refine ⟨by simp, .inl ⟨_, _, rfl, run_takeDeferred hK, ?_⟩⟩
    exact ⟨_, results_none rfl _ _ _, ⟨_, rfl⟩, j1, j2, by simp; omega⟩
  case stop =>
    rintro D c pre W _ _ h _
    exact h.elim
  case body =>
    rintro l pre x a' W hl _ ⟨i1, i2, i3⟩ ⟨Bx, hBx, hX, rfl⟩ hlt
    have x0 := box_cell hX 0
    have x1 := box_cell hX 1
    have cu0 : W.cell? ⟨w.heap.size, 0, none⟩ = some (.slice au op.length cu) := box_cell i3.u 0
    have cu1 : W.cell? ⟨w.heap.size, 1, none⟩ = some (.func (.func uf) #[] caps) := box_cell i3.u 1
    have cs := i3.s.cell
    have hlw : nv S x = .agg #[.int .i64 S[x.1].kd, .int .i64 S[x.1].wh, .int .i64 S[x.1].cl, .int .i64 S[x.1].ws, .int .i64 S[x.1].is] := rfl
    have HUx : Hid (∀ V, J pre V → Rd V → w.heap.size ≤ V.heap.size → condB S op x = true → Calls Try.prog uf (#[.agg #[.int .i64 S[x.1].kd, .int .i64 S[x.1].wh, .int .i64 S[x.1].cl, .int .i64 S[x.1].ws, .int .i64 S[x.1].is]] ++ caps) V fun e W' => (∃ v, e = .returned v) ∧ J (pre ++ [x]) W' ∧ Rd W' ∧ OutP (fun b => b < w.heap.size) V W') := fun V h1 h2 h3 h4 => by
      have := HU.out pre x V h1 h2 h3 h4
      rw [hlw] at this
      exact this
    rw [hlw]
    have HNx : Hid (∀ V, J pre V → condB S op x = false → J (pre ++ [x]) V) := HNO.out pre x
    have HCB : Hid (condB S op x = (decide (S[x.1].kd = 2) && (decide ((fromI S S[x.1].wh : Int) < (x.1 : Int)) && decide (S[x.1].wh ∈ op)))) := rfl
    have HOF : Hid (∀ v m, Rd v → CallsIn Fence.wide m Try.prog 70 #[.slice a S.length cap, .int .i64 S[x.1].wh] v fun e W' => e = .returned (.tuple #[.int .i64 (fromI S S[x.1].wh : Int), .bool (isO S S[x.1].wh)]) ∧ Below v.heap.size v W') := fun v m h => callsIn_wide.2 (openFrom_any a cap S S[x.1].wh v hlen (HRD.out v h).1)
    have HCI : Hid (∀ v m, Rd v → CallsIn Fence.wide m Try.prog 74 #[.slice au op.length cu, .int .i64 S[x.1].wh] v fun e w' => e = .returned (.bool (decide (S[x.1].wh ∈ op))) ∧ w' = v) := fun v m h => callsIn_wide.2 (containsI_any au cu op S[x.1].wh v hop (HRD.out v h).2)
    have HX := hid hX
    have HI1 := hid i1
    have HI2 := hid i2
    have HI3 := hid i3
    clear hlw i1 i2 i3 hX
    generalize condB S op x = cb at *
    generalize ((fromI S S[x.1].wh : Nat) : Int) = fr at *
    generalize isO S S[x.1].wh = oo at *
    generalize decide (S[x.1].wh ∈ op) = mm at *
    generalize S[x.1].kd = p0 at *
    generalize S[x.1].wh = p1 at *
    generalize S[x.1].cl = p2 at *
    generalize S[x.1].ws = p3 at *
    generalize S[x.1].is = p4 at *
    have hBl : Bx < W.heap.size := (Array.getElem?_eq_some_iff.1 HX.out).1
    have hsW := HI3.out.lt
    have e2l : w2.heap.size = w.heap.size + 3 := hsz
    by_cases k2 : p0 = 2
    case neg =>
      have e1 : (p0 == 2) = false := beq_eq_false_iff_ne.2 k2
      have HCF : Hid (cb = false) := by show cb = false; rw [HCB.out, decide_eq_false k2]; rfl
      clear k2 HCB
      gi_wp2_with (gi_at_call 70; refine (CallsIn.inRound l (HOF.out _ _ HI2.out)).mono ?_; rintro e V ⟨rfl, hV⟩; have HV := hid hV; have hXV : V.heap[Bx]? = some (.cells #[.int .i64 p0, .int .i64 p1, .int .i64 p2, .int .i64 p3, .int .i64 p4] 67 (0, 0)) := (hV.block _ hBl).trans HX.out; have hIV := HI3.out.on (Below.outP hV); have HRV := hid (HR.out _ _ HI2.out hV); have HJV := hid (HJ.out _ _ _ HI1.out hV); have HXV := hid hXV; have HIV := hid hIV; have v0 : V.cell? ⟨Bx, 0, none⟩ = some (.int .i64 p0) := box_cell hXV 0; have v1 : V.cell? ⟨Bx, 1, none⟩ = some (.int .i64 p1) := box_cell hXV 1; have v2 : V.cell? ⟨Bx, 2, none⟩ = some (.int .i64 p2) := box_cell hXV 2; have v3 : V.cell? ⟨Bx, 3, none⟩ = some (.int .i64 p3) := box_cell hXV 3; have v4 : V.cell? ⟨Bx, 4, none⟩ = some (.int .i64 p4) := box_cell hXV 4; have q0 : V.cell? ⟨w.heap.size, 0, none⟩ = some (.slice au op.length cu) := box_cell hIV.u 0; have q1 : V.cell? ⟨w.heap.size, 1, none⟩ = some (.func (.func uf) #[] caps) := box_cell hIV.u 1; clear hV hXV hIV x0 x1 cu0 cu1 cs)
      exact ⟨(Below.outP (n := w2.heap.size) HV.out).keeps, fun _ => ⟨HRV.out, HIV.out⟩, HNx.out _ HJV.out HCF.out, HRV.out, HIV.out⟩
    have e1 : (p0 == 2) = true := beq_iff_eq.2 k2
    have d1 := decide_eq_true k2
    by_cases kf : fr < (x.1 : Int)
    case neg =>
      have e2 : decide (fr < (x.1 : Int)) = false := decide_eq_false kf
      have HCF : Hid (cb = false) := by show cb = false; rw [HCB.out, e2]; simp
      clear k2 kf HCB d1
      gi_wp2_with (gi_at_call 70; refine (CallsIn.inRound l (HOF.out _ _ HI2.out)).mono ?_; rintro e V ⟨rfl, hV⟩; have HV := hid hV; have hXV : V.heap[Bx]? = some (.cells #[.int .i64 p0, .int .i64 p1, .int .i64 p2, .int .i64 p3, .int .i64 p4] 67 (0, 0)) := (hV.block _ hBl).trans HX.out; have hIV := HI3.out.on (Below.outP hV); have HRV := hid (HR.out _ _ HI2.out hV); have HJV := hid (HJ.out _ _ _ HI1.out hV); have HXV := hid hXV; have HIV := hid hIV; have v0 : V.cell? ⟨Bx, 0, none⟩ = some (.int .i64 p0) := box_cell hXV 0; have v1 : V.cell? ⟨Bx, 1, none⟩ = some (.int .i64 p1) := box_cell hXV 1; have v2 : V.cell? ⟨Bx, 2, none⟩ = some (.int .i64 p2) := box_cell hXV 2; have v3 : V.cell? ⟨Bx, 3, none⟩ = some (.int .i64 p3) := box_cell hXV 3; have v4 : V.cell? ⟨Bx, 4, none⟩ = some (.int .i64 p4) := box_cell hXV 4; have q0 : V.cell? ⟨w.heap.size, 0, none⟩ = some (.slice au op.length cu) := box_cell hIV.u 0; have q1 : V.cell? ⟨w.heap.size, 1, none⟩ = some (.func (.func uf) #[] caps) := box_cell hIV.u 1; clear hV hXV hIV x0 x1 cu0 cu1 cs)
      exact ⟨(Below.outP (n := w2.heap.size) HV.out).keeps, fun _ => ⟨HRV.out, HIV.out⟩, HNx.out _ HJV.out HCF.out, HRV.out, HIV.out⟩
    have e2 : decide (fr < (x.1 : Int)) = true := decide_eq_true kf
    cases mm
    · have HCF : Hid (cb = false) := by show cb = false; rw [HCB.out]; simp
      clear k2 kf HCB d1
      gi_wp2_with (first | (gi_at_call 70; refine (CallsIn.inRound l (HOF.out _ _ HI2.out)).mono ?_; rintro e V ⟨rfl, hV⟩; have HV := hid hV; have hXV : V.heap[Bx]? = some (.cells #[.int .i64 p0, .int .i64 p1, .int .i64 p2, .int .i64 p3, .int .i64 p4] 67 (0, 0)) := (hV.block _ hBl).trans HX.out; have hIV := HI3.out.on (Below.outP hV); have HRV := hid (HR.out _ _ HI2.out hV); have HJV := hid (HJ.out _ _ _ HI1.out hV); have HXV := hid hXV; have HIV := hid hIV; have v0 : V.cell? ⟨Bx, 0, none⟩ = some (.int .i64 p0) := box_cell hXV 0; have v1 : V.cell? ⟨Bx, 1, none⟩ = some (.int .i64 p1) := box_cell hXV 1; have v2 : V.cell? ⟨Bx, 2, none⟩ = some (.int .i64 p2) := box_cell hXV 2; have v3 : V.cell? ⟨Bx, 3, none⟩ = some (.int .i64 p3) := box_cell hXV 3; have v4 : V.cell? ⟨Bx, 4, none⟩ = some (.int .i64 p4) := box_cell hXV 4; have q0 : V.cell? ⟨w.heap.size, 0, none⟩ = some (.slice au op.length cu) := box_cell hIV.u 0; have q1 : V.cell? ⟨w.heap.size, 1, none⟩ = some (.func (.func uf) #[] caps) := box_cell hIV.u 1; clear hV hXV hIV x0 x1 cu0 cu1 cs) | (gi_at_call 74; refine (CallsIn.inRound l (HCI.out _ _ HRV.out)).mono ?_; rintro e V2 ⟨rfl, hV2⟩; rw [hV2]; clear hV2))
      exact ⟨(Below.outP (n := w2.heap.size) HV.out).keeps, fun _ => ⟨HRV.out, HIV.out⟩, HNx.out _ HJV.out HCF.out, HRV.out, HIV.out⟩
    · have HCT : Hid (cb = true) := by show cb = true; rw [HCB.out, d1, e2]; rfl
      clear k2 kf HCB d1
      gi_wp2_with (first | (gi_at_call 70; refine (CallsIn.inRound l (HOF.out _ _ HI2.out)).mono ?_; rintro e V ⟨rfl, hV⟩; have HV := hid hV; have hXV : V.heap[Bx]? = some (.cells #[.int .i64 p0, .int .i64 p1, .int .i64 p2, .int .i64 p3, .int .i64 p4] 67 (0, 0)) := (hV.block _ hBl).trans HX.out; have hIV := HI3.out.on (Below.outP hV); have HRV := hid (HR.out _ _ HI2.out hV); have HJV := hid (HJ.out _ _ _ HI1.out hV); have HXV := hid hXV; have HIV := hid hIV; have v0 : V.cell? ⟨Bx, 0, none⟩ = some (.int .i64 p0) := box_cell hXV 0; have v1 : V.cell? ⟨Bx, 1, none⟩ = some (.int .i64 p1) := box_cell hXV 1; have v2 : V.cell? ⟨Bx, 2, none⟩ = some (.int .i64 p2) := box_cell hXV 2; have v3 : V.cell? ⟨Bx, 3, none⟩ = some (.int .i64 p3) := box_cell hXV 3; have v4 : V.cell? ⟨Bx, 4, none⟩ = some (.int .i64 p4) := box_cell hXV 4; have q0 : V.cell? ⟨w.heap.size, 0, none⟩ = some (.slice au op.length cu) := box_cell hIV.u 0; have q1 : V.cell? ⟨w.heap.size, 1, none⟩ = some (.func (.func uf) #[] caps) := box_cell hIV.u 1; clear hV hXV hIV x0 x1 cu0 cu1 cs) | (gi_at_call 74; refine (CallsIn.inRound l (HCI.out _ _ HRV.out)).mono ?_; rintro e V2 ⟨rfl, hV2⟩; rw [hV2]; clear hV2))
      have hsV : w.heap.size ≤ V.heap.size := Nat.le_trans (by omega) HV.out.size
      refine (CallsIn.inRound l (callsIn_wide.2 (HUx.out _ HJV.out HRV.out hsV HCT.out))).mono ?_
      rintro e V3 ⟨⟨vv, rfl⟩, h1, h2, h3⟩
      have H1 := hid h1
      have H2 := hid h2
      have H3 := hid h3
      clear h1 h2 h3
      gi_wp2
      exact ⟨((Below.outP (n := w2.heap.size) HV.out).keeps).trans ((H3.out.wide (fun k h => Nat.lt_of_lt_of_le h (by omega))).keeps), fun _ => ⟨H2.out, HIV.out.on H3.out⟩, H1.out, H2.out, HIV.out.on H3.out⟩
end Go.Proofs.Ytgompioaknfjgaa
