/- A row of layers that grows, whose layers' own rows lie wherever, but not in the row itself. -/
import Derived.Test.YtmbkdollakbigaaKRw
import Derived.Test.YtmbkdollakbigaaHB
import Derived.Test.YtmbkdollakbigaaKPt
import Derived.Test.YtmbkdollakbigaaKOwnC
namespace Go.Proofs.Ytmbkdollakbigaa
set_option maxRecDepth 100000
open Go Go.ChangeShapes Go.WideShapes Go.ChangeAt Go.RowKit
structure Fz (lf : Nat) (v : Value) (x : Ly × LA) (w : World) : Prop where
  bl : Is w.heap.size x.2.p x.1.bl w
  dt : Ss w.heap.size x.2.q x.1.dt w
  ob : ∀ g, v.ownBlock = some g → OffR g x.1.bl.length x.2.p
  od : ∀ g, v.ownBlock = some g → OffR g x.1.dt.length x.2.q
  lb : ∀ b o f, x.2.p = some ⟨b, o, f⟩ → 0 < x.1.bl.length → lf ≤ b
  ld : ∀ b o f, x.2.q = some ⟨b, o, f⟩ → 0 < x.1.dt.length → lf ≤ b
theorem Fz.on {lf : Nat} {v : Value} {x : Ly × LA} {w w' : World} (h : Fz lf v x w) (g : Below w.heap.size w w') : Fz lf v x w' :=
  ⟨(h.bl.below g).mono g.size, (h.dt.below g).mono g.size, h.ob, h.od, h.lb, h.ld⟩
theorem Fz.set {lf : Nat} {v : Value} {x : Ly × LA} {w : World} (h : Fz lf v x w) (X : Nat) (u : Value) (hX : X < lf) : Fz lf v x (w.setCell ⟨X, 0, none⟩ u) := by
  have hs : (w.setCell ⟨X, 0, none⟩ u).heap.size = w.heap.size := by simp [World.setCell]
  refine ⟨?_, ?_, h.ob, h.od, h.lb, h.ld⟩
  · rw [hs]; exact is_off (R := X) h.bl (fun h0 o f e => by have := h.lb _ _ _ e h0; omega) (fun Y _ hne => keepB _ _ _ _ _ hne)
  · rw [hs]; exact ss_off (R := X) h.dt (fun h0 o f e => by have := h.ld _ _ _ e h0; omega) (fun Y _ hne => keepB _ _ _ _ _ hne)
theorem gsl_new {B s : Nat} {a : Option Addr} {rows : List (List Value)} {w : World} (h : GSl B s a rows w) : OffR B rows.length a := fun h0 o f e => by
  obtain ⟨b, off, e2, hB, -⟩ := GSl.cell h h0
  rw [e2] at e
  injection e with e
  injection e with e _ _
  omega
theorem Fz.grown {lf : Nat} {v v' : Value} {x : Ly × LA} {w w' : World} (h : Fz lf v x w) (g : w.grownBy w' v.ownBlock) (e : v'.ownBlock = v.ownBlock ∨ v'.ownBlock = some w.heap.size) : Fz lf v' x w' := by
  have hs := g.size
  have h1 : Is w.heap.size x.2.p x.1.bl w' := by
    cases hv : v.ownBlock with
    | none => exact is_off (R := w.heap.size) h.bl (by have := gsl_new h.bl; simpa using this) (fun X hX _ => g.block X hX (by rw [hv]; simp))
    | some q => exact is_off (R := q) h.bl (h.ob q hv) (fun X hX hne => g.block X hX (by rw [hv]; intro e; injection e with e; exact hne e))
  have h2 : Ss w.heap.size x.2.q x.1.dt w' := by
    cases hv : v.ownBlock with
    | none => exact ss_off (R := w.heap.size) h.dt (by have := gsl_new h.dt; simpa using this) (fun X hX _ => g.block X hX (by rw [hv]; simp))
    | some q => exact ss_off (R := q) h.dt (h.od q hv) (fun X hX hne => g.block X hX (by rw [hv]; intro e; injection e with e; exact hne e))
  refine ⟨h1.mono hs, h2.mono hs, fun q hq => ?_, fun q hq => ?_, h.lb, h.ld⟩
  · rcases e with e | e
    · exact h.ob q (e.symm.trans hq)
    · rw [e] at hq; injection hq with hq; subst hq
      have := gsl_new h.bl; simpa using this
  · rcases e with e | e
    · exact h.od q (e.symm.trans hq)
    · rw [e] at hq; injection hq with hq; subst hq
      have := gsl_new h.dt; simpa using this
structure RG (lo lf : Nat) (v : Value) (L : List (Ly × LA)) (w : World) : Prop where
  row : w.ownsRow lo 64 3 v L.length (kvals L)
  fit : ∀ i (h : i < L.length), Fz lf v L[i] w
theorem RG.nil (lo lf : Nat) (w : World) : RG lo lf (.slice none 0 0) [] w := ⟨World.ownsRow_nil _ _ _ _, fun _ h => absurd h (Nat.not_lt_zero _)⟩
theorem RG.set {lo lf : Nat} {v : Value} {L : List (Ly × LA)} {w : World} (h : RG lo lf v L w) (X : Nat) (u : Value) (hX : X < lf) (hX2 : X < lo) : RG lo lf v L (w.setCell ⟨X, 0, none⟩ u) := ⟨rw_keep h.row (fun k hk => keepB _ _ _ _ _ (by have := (h.row.lt k hk).1; omega)), fun i hi => (h.fit i hi).set X u hX⟩
theorem RG.on {lo lf : Nat} {v : Value} {L : List (Ly × LA)} {w w' : World} (h : RG lo lf v L w) (g : Below w.heap.size w w') : RG lo lf v L w' := ⟨rw_below h.row g, fun i hi => (h.fit i hi).on g⟩
theorem RG.push {lo lf : Nat} {v : Value} {L : List (Ly × LA)} {w : World} (h : RG lo lf v L w) (hlo : lo ≤ w.heap.size) (X cX : Nat) (y : Ly) (la : LA)
    (hX : w.heap[X]? = some (.cells #[.int .i64 y.mark, .slice la.p y.bl.length la.c, .slice la.q y.dt.length la.d] 64)) (hf : Fz lf v (y, la) w) (hn : L.length + 1 ≤ 10000) :
    ∃ v' w', (∀ ty, (Builtin.append_ #[29, 29] ty #[v, .slice (some ⟨X, 0, none⟩) 1 cX]).run Try.prog w = .ok v' w') ∧ RG lo lf v' (L ++ [(y, la)]) w' ∧ w.grownBy w' v.ownBlock ∧ Below lo w w' ∧ (v'.ownBlock = v.ownBlock ∨ v'.ownBlock = some w.heap.size) := by
  obtain ⟨v', w', r, o, gr, nb⟩ := app_ly w lo v L.length (kvals L) h.row X cX y.mark la.p y.bl.length la.c la.q y.dt.length la.d hX hn hlo
  refine ⟨v', w', r, ⟨by rw [List.length_append, kvals_snoc]; exact o, fun i hi => ?_⟩, gr, below_of_grown gr hlo (fun k hk => (h.row.lt k hk).1), nb⟩
  rcases snoc_at L (y, la) i hi with ⟨hi', e⟩ | ⟨_, e⟩
  · rw [e]; exact (h.fit i hi').grown gr nb
  · rw [e]; exact hf.grown gr nb
theorem RG.ys {lo lf : Nat} {v : Value} {L : List (Ly × LA)} {w : World} (h : RG lo lf v L w) : ∃ a c, v = .slice a L.length c ∧ Ys w.heap.size a (L.map (·.1)) w := by
  obtain ⟨a, c, rfl⟩ := rw_form h.row
  refine ⟨a, c, rfl, fun h0 => ?_⟩
  have h0' : 0 < L.length := by simpa using h0
  obtain ⟨R, cap, e, hR, hrow⟩ := GRow.ofOwns (rows := L.map kcells) (kwide L) h.row (by simp) (fun e => by injection e with e1 e2 e3; omega)
  injection e with e1 e2 e3
  subst e1
  refine ⟨R, 0, rfl, hrow.lt, fun i hi => ?_⟩
  have hi' : i < L.length := by simpa using hi
  have k0 := hrow.cell i (by simpa using hi) 0 (by decide)
  have k1 := hrow.cell i (by simpa using hi) 1 (by decide)
  have k2 := hrow.cell i (by simpa using hi) 2 (by decide)
  rw [List.getElem_map] at k0 k1 k2
  have f := h.fit i hi'
  rw [List.getElem_map]
  exact ⟨L[i].2.p, L[i].2.c, L[i].2.q, L[i].2.d, by rw [Nat.zero_add]; exact k0, by rw [Nat.zero_add]; exact k1, by rw [Nat.zero_add]; exact k2, f.bl, f.dt⟩
/-- layers of one's own, seen from a row that came later -/
theorem KG.fz {lo : Nat} {v u : Value} {L : List (Ly × LA)} {w w' : World} (h : KG lo v L w) (hs : w.heap.size ≤ w'.heap.size) (hb : ∀ X, lo ≤ X → X < w.heap.size → w'.heap[X]? = w.heap[X]?) (hu : ∀ g, u.ownBlock = some g → w.heap.size ≤ g) (i : Nat) (hi : i < L.length) : Fz lo u L[i] w' := by
  refine ⟨?_, ?_, fun g hg n o f e => ?_, fun g hg n o f e => ?_, fun b o f e n => ?_, fun b o f e n => ?_⟩
  · rcases h.ownB i hi with h0 | ⟨h3, h4, _, h6, h7⟩
    · rw [h0]; exact ⟨fun h0 => absurd h0 (by simp)⟩
    · rw [h6]; exact (h7.same hs (hb _ h3 h4)).sl (by omega)
  · rcases h.ownD i hi with h0 | ⟨h3, h4, _, h6, h7⟩
    · rw [h0]; exact ⟨fun h0 => absurd h0 (by simp)⟩
    · rw [h6]; exact (h7.same hs (hb _ h3 h4)).sl (by omega)
  · rcases h.ownB i hi with h0 | ⟨_, h4, _, h6, _⟩
    · rw [h0] at n; exact absurd n (by simp)
    · rw [h6] at e; injection e with e; injection e with e _ _; have := hu g hg; omega
  · rcases h.ownD i hi with h0 | ⟨_, h4, _, h6, _⟩
    · rw [h0] at n; exact absurd n (by simp)
    · rw [h6] at e; injection e with e; injection e with e _ _; have := hu g hg; omega
  · rcases h.ownB i hi with h0 | ⟨h3, _, _, h6, _⟩
    · rw [h0] at n; exact absurd n (by simp)
    · rw [h6] at e; injection e with e; injection e with e _ _; omega
  · rcases h.ownD i hi with h0 | ⟨h3, _, _, h6, _⟩
    · rw [h0] at n; exact absurd n (by simp)
    · rw [h6] at e; injection e with e; injection e with e _ _; omega
/-- what stands in a round of the model's DropMark -/
structure Ob (O : Nat) (vO : Value) (w6 wr : World) : Prop where
  bel : Below O w6 wr
  keep : ∀ X, X < w6.heap.size → X ≠ O → wr.heap[X]? = w6.heap[X]?
  o : wr.heap[O]? = some (.cells #[vO] 31)
theorem Ob.on {O : Nat} {vO : Value} {w6 wr w' : World} (h : Ob O vO w6 wr) (hO : O < w6.heap.size) (g : Below wr.heap.size wr w') : Ob O vO w6 w' :=
  ⟨h.bel.trans (g.mono (by have := h.bel.size; omega)), fun X hX hne => (g.block X (by have := h.bel.size; omega)).trans (h.keep X hX hne), (g.block O (by have := h.bel.size; omega)).trans h.o⟩
theorem Ob.put {O : Nat} {vO vN : Value} {w6 wr w' : World} (h : Ob O vO w6 wr) (hO : O < w6.heap.size) (g : wr.grownBy w' vO.ownBlock) (hv : ∀ k, vO.ownBlock = some k → w6.heap.size ≤ k) : Ob O vN w6 (w'.setCell ⟨O, 0, none⟩ vN) := by
  have hs := h.bel.size
  have hk : ∀ X, X < w6.heap.size → w'.heap[X]? = wr.heap[X]? := fun X hX => g.block X (by omega) (fun e => by have := hv X e.symm; omega)
  refine ⟨setB (h.bel.trans (below_of_grown g (by omega) (fun k hk => by have := hv k hk; omega))) _ _ (Nat.le_refl _) _, fun X hX hne => (keepB _ _ _ _ _ hne).trans ((hk X hX).trans (h.keep X hX hne)), ?_⟩
  have := box_set ((hk O hO).trans h.o) 0 vN
  simpa using this
/-- the layer in its box of a round, its rows elsewhere -/
structure Zin (lf Y : Nat) (v : Value) (z : Ly) (la : LA) (w : World) : Prop where
  fz : Fz lf v (z, la) w
  oy : OffR Y z.bl.length la.p
  od : OffR Y z.dt.length la.q
  cb : z.bl.length ≤ la.c
  cd : z.dt.length ≤ la.d
  box : w.heap[Y]? = some (.cells #[.int .i64 z.mark, .slice la.p z.bl.length la.c, .slice la.q z.dt.length la.d] 64)
theorem Zin.put {lf Y : Nat} {v : Value} {z : Ly} {la : LA} {w w2 : World} (h : Zin lf Y v z la w) (g : Below w.heap.size w w2) (hlf : lf ≤ w.heap.size) (hv : ∀ k, v.ownBlock = some k → k < w.heap.size) (y : Ly) (p1 p2 : Option Addr) (c1 c2 : Nat)
    (hI : Is w2.heap.size p1 y.bl w2) (hS : Ss w2.heap.size p2 y.dt w2) (e1 : (p1 = la.p ∧ 0 < z.bl.length) ∨ ∃ R, p1 = some ⟨R, 0, none⟩ ∧ w.heap.size ≤ R) (e2 : ∃ R, p2 = some ⟨R, 0, none⟩ ∧ w.heap.size ≤ R) (h1 : y.bl.length ≤ c1) (h2 : y.dt.length ≤ c2) :
    (w2.cell? ⟨Y, 0, none⟩ = some (.int .i64 z.mark) ∧ w2.cell? ⟨Y, 1, none⟩ = some (.slice la.p z.bl.length la.c) ∧ w2.cell? ⟨Y, 2, none⟩ = some (.slice la.q z.dt.length la.d)) ∧ (w2.frozen? ⟨Y, 0, none⟩ = false ∧ w2.frozen? ⟨Y, 1, none⟩ = false ∧ w2.frozen? ⟨Y, 2, none⟩ = false) ∧
    Zin lf Y v y ⟨p1, c1, 0, p2, c2, 0⟩ (((w2.setCell ⟨Y, 0, none⟩ (.int .i64 y.mark)).setCell ⟨Y, 1, none⟩ (.slice p1 y.bl.length c1)).setCell ⟨Y, 2, none⟩ (.slice p2 y.dt.length c2)) := by
  have hY : Y < w.heap.size := (Array.getElem?_eq_some_iff.1 h.box).1
  have hb := (g.block Y hY).trans h.box
  obtain ⟨R2, rfl, hR2⟩ := e2
  have o1 : ∀ k, k < w.heap.size → (0 < z.bl.length → ∀ o f, la.p ≠ some ⟨k, o, f⟩) → OffR k y.bl.length p1 := fun k hk hp n o f e => by
    rcases e1 with ⟨e3, h0⟩ | ⟨R1, rfl, hR1⟩
    · exact hp h0 o f (e3.symm.trans e)
    · injection e with e; injection e with e _ _; omega
  have o2 : ∀ k, k < w.heap.size → OffR k y.dt.length (some ⟨R2, 0, none⟩) := fun k hk n o f e => by
    injection e with e; injection e with e _ _; omega
  have hs : (((w2.setCell ⟨Y, 0, none⟩ (.int .i64 y.mark)).setCell ⟨Y, 1, none⟩ (.slice p1 y.bl.length c1)).setCell ⟨Y, 2, none⟩ (.slice (some ⟨R2, 0, none⟩) y.dt.length c2)).heap.size = w2.heap.size := by simp [World.setCell]
  have hk : ∀ X, X ≠ Y → (((w2.setCell ⟨Y, 0, none⟩ (.int .i64 y.mark)).setCell ⟨Y, 1, none⟩ (.slice p1 y.bl.length c1)).setCell ⟨Y, 2, none⟩ (.slice (some ⟨R2, 0, none⟩) y.dt.length c2)).heap[X]? = w2.heap[X]? := fun X hX => (keepB _ _ _ _ _ hX).trans ((keepB _ _ _ _ _ hX).trans (keepB _ _ _ _ _ hX))
  have oY1 := o1 Y hY (fun n => h.oy n)
  have oY2 := o2 Y hY
  refine ⟨⟨box_cell hb 0, box_cell hb 1, box_cell hb 2⟩, ⟨box_free hb 0, box_free hb 1, box_free hb 2⟩, ⟨⟨?_, ?_, ?_, ?_, ?_, ?_⟩, oY1, oY2, h1, h2, ?_⟩⟩
  · rw [hs]; exact is_off hI oY1 (fun X _ hX => hk X hX)
  · rw [hs]; exact ss_off hS oY2 (fun X _ hX => hk X hX)
  · exact fun k hk2 => o1 k (hv k hk2) (fun n => h.fz.ob k hk2 n)
  · exact fun k hk2 => o2 k (hv k hk2)
  · intro b o f e n
    rcases e1 with ⟨e3, h0⟩ | ⟨R1, rfl, hR1⟩
    · exact h.fz.lb b o f (e3.symm.trans e) h0
    · injection e with e; injection e with e _ _; omega
  · intro b o f e n
    injection e with e; injection e with e _ _; omega
  · have := box_set (box_set (box_set hb 0 (.int .i64 y.mark)) 1 (.slice p1 y.bl.length c1)) 2 (.slice (some ⟨R2, 0, none⟩) y.dt.length c2)
    simpa using this
theorem Zin.on {lf Y : Nat} {v : Value} {z : Ly} {la : LA} {w w' : World} (h : Zin lf Y v z la w) (g : Below w.heap.size w w') : Zin lf Y v z la w' :=
  ⟨h.fz.on g, h.oy, h.od, h.cb, h.cd, (g.block Y (Array.getElem?_eq_some_iff.1 h.box).1).trans h.box⟩
set_option maxHeartbeats 1000000 in
theorem hasK_any (a : Option Addr) (cap : Nat) (l : List Int) (x : Int) (w : World) (hn : l.length ≤ 1048576) (hZ : Is w.heap.size a l w) :
    Calls Try.prog 33 #[.slice a l.length cap, .int .i64 x] w fun e w' => e = .returned (.bool (decide (x ∈ l))) ∧ w' = w := by
  have HZ := hid hZ
  clear hZ
  obtain ⟨an, han⟩ : ∃ an, decide (x ∈ l) = an := ⟨_, rfl⟩
  rw [han]
  have HAN := hid han
  clear han
  go_enter Try.func33, Try.ntmps33
  go_wp2
  go_loopw [9] (fun i wr => ∃ k : Nat, k ≤ l.length ∧ i = .int .i64 k ∧ (∀ j (h : j < l.length), j < k → l[j] ≠ x) ∧ wr = w) (fun i _ => l.length - (intOf i).toNat)
  case atStart => exact ⟨0, Nat.zero_le _, rfl, (fun _ _ h => absurd h (Nat.not_lt_zero _)), rfl⟩
  case round =>
    obtain ⟨k, hk, rfl, hall, hwr⟩ := hrel
    subst hwr
    have HALL := hid hall
    clear hall
    by_cases hlt : k < l.length
    · obtain ⟨b, off, rfl, hb, hc⟩ := HZ.out.cell (by omega)
      have x0 := hc k hlt
      clear hc
      by_cases hx : l[k] = x
      · have ha : an = true := by rw [← HAN.out]; exact decide_eq_true (by rw [← hx]; exact List.getElem_mem hlt)
        subst ha
        have hd : (l[k] == x) = true := by simpa using hx
        clear hx
        generalize l[k] = y at *
        go_wp2
        go_ret
        exact ⟨rfl, rfl⟩
      · have HL : Hid (∀ j (h : j < l.length), j < k + 1 → l[j] ≠ x) := fun j hj hjk => by
          by_cases e : j = k
          · subst e; exact hx
          · exact HALL.out j hj (by omega)
        have hd : (l[k] == x) = false := by simpa using hx
        clear hx
        generalize l[k] = y at *
        go_wp2
        go_roundw
        case rel => exact ⟨k + 1, by omega, by go_num, HL.out, by trivial⟩
        case measure => simp [intOf]; omega
    · obtain rfl : k = l.length := by omega
      have ha : an = false := by
        rw [← HAN.out]
        refine decide_eq_false fun hm => ?_
        obtain ⟨j, hj, e⟩ := List.getElem_of_mem hm
        exact HALL.out j hj hj e
      subst ha
      go_wp2
      go_ret
      exact ⟨rfl, rfl⟩
end Go.Proofs.Ytmbkdollakbigaa
