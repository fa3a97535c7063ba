/- Rows of one's own of numbers: appended to, read. -/
import Derived.Test.YtgompioaknfjgabAOpen
import Derived.Test.YtgompioaknfjgabOwn
import Derived.Laws.AppendOwn
import Derived.Maps.AppendAt
namespace Go.Proofs.Ytgompioaknfjgab
set_option maxRecDepth 100000
open Go Go.ChangeShapes Go.WideShapes Go.ChangeAt Go.RowKit
def ivals (l : List Int) : List Value := l.map fun n => .int .i64 n
theorem ivals_flat (l : List Int) : (l.map icell).flatten = ivals l := by
  unfold ivals
  induction l with
  | nil => rfl
  | cons x l ih => rw [List.map_cons, List.flatten_cons, ih]; rfl
theorem app_any (t e : TypeId) (i : TypeInfo) (z : Value) (sz bs : Nat) (ht : Try.prog.underlying t = some (.slice e)) (hi : Try.prog.info? e = some i) (hz : i.zero = some z) (hs : i.size = sz) (hb : i.bytes = bs) (hzs : z.cells.size = sz) (h0 : 0 < sz)
    (W : World) (lo : Nat) (v : Value) (n : Nat) (xs : List Value) (hown : W.ownsRow lo e sz v n xs) (X off m c : Nat) (news : List Value) (hl : news.length = m * sz) (hc : ∀ j (h : j < news.length), W.cell? ⟨X, off + j, none⟩ = some news[j]) (h1 : ∀ u ∈ news, u.oneCell' = true)
    (hm : n + m ≤ 10000) (hbs : bs ≤ 64) (hlo : lo ≤ W.heap.size) :
    ∃ v' w', (∀ ty, (Builtin.append_ #[t, t] ty #[v, .slice (some ⟨X, off, none⟩) m c]).run Try.prog W = .ok v' w') ∧ w'.ownsRow lo e sz v' (n + m) (xs ++ news) ∧ W.grownBy w' v.ownBlock ∧ (v'.ownBlock = v.ownBlock ∨ v'.ownBlock = some W.heap.size) := by
  have hbb : (n + m) * bs ≤ 140737488355328 := Nat.le_trans (Nat.mul_le_mul hm hbs) (by decide)
  have hn : ∀ j u, news[j]? = some u → W.cell? ((⟨X, off, none⟩ : Addr).add j) = some u := fun j u hu => by
    obtain ⟨hj, rfl⟩ := List.getElem?_eq_some_iff.1 hu
    have hadd : (⟨X, off, none⟩ : Addr).add j = ⟨X, off + j, none⟩ := by unfold Addr.add; split <;> simp_all
    rw [hadd]
    exact hc j hj
  obtain ⟨v', w', hr, h2, h3, _, h5⟩ := run_append_own_at W lo t t e i z sz bs ht hi hz hs hb hzs h0 v n xs hown ⟨X, off, none⟩ m c news hl hn h1 (by unfold maxLen; omega) hbb hlo
  exact ⟨v', w', fun ty => hr, h2, h3, h5⟩
theorem app_none (t e : TypeId) (i : TypeInfo) (ht : Try.prog.underlying t = some (.slice e)) (hi : Try.prog.info? e = some i) (W : World) (a : Option Addr) (n c c' : Nat) (hn : n ≤ c) (ty : TypeId) :
    (Builtin.append_ #[t, t] ty #[.slice a n c, .slice none 0 c']).run Try.prog W = .ok (.slice a n c) W := by
  cases a <;> simp [Builtin.append_, run_underlying ht, sizeOf, typeInfo, hi, Builtin.lenOf, Builtin.firstCells, loadCells, storeCells, hn]
theorem rw_cap {w : World} {base : Nat} {e : TypeId} {size : Nat} {a : Option Addr} {m n c : Nat} {xs : List Value} (h : w.ownsRow base e size (.slice a m c) n xs) : n ≤ c ∧ m = n := by
  rcases h.2 with ⟨h1, rfl⟩ | ⟨g', cap, cur, h1, _, _, h2, _⟩
  · injection h1 with _ h2 h3; omega
  · injection h1 with _ h3 h4; omega
theorem rw_form {w : World} {base : Nat} {e : TypeId} {size : Nat} {v : Value} {n : Nat} {xs : List Value} (h : w.ownsRow base e size v n xs) : ∃ a c, v = .slice a n c := by
  rcases h.2 with ⟨rfl, rfl⟩ | ⟨g', cap, cur, rfl, _⟩
  · exact ⟨_, _, rfl⟩
  · exact ⟨_, _, rfl⟩
theorem below_of_grown {lo : Nat} {w w' : World} {row : Option Nat} (g : w.grownBy w' row) (hlo : lo ≤ w.heap.size) (hr : ∀ k, row = some k → lo ≤ k) : Below lo w w' :=
  ⟨g.os, g.tape, g.output, g.size, fun k hk => g.block k (by omega) (fun e => by have := hr k e.symm; omega)⟩
theorem rw_keep {w w' : World} {base : Nat} {e : TypeId} {size : Nat} {v : Value} {n : Nat} {xs : List Value} (h : w.ownsRow base e size v n xs) (hb : ∀ k, v.ownBlock = some k → w'.heap[k]? = w.heap[k]?) : w'.ownsRow base e size v n xs := by
  obtain ⟨hl, h | ⟨g, cap, cur, rfl, h1, hg, h2, h3, h4, h5⟩⟩ := h
  · exact ⟨hl, Or.inl h⟩
  · exact ⟨hl, Or.inr ⟨g, cap, cur, rfl, h1, (hb g rfl).trans hg, h2, h3, h4, h5⟩⟩
theorem rw_below {w w' : World} {base : Nat} {e : TypeId} {size : Nat} {v : Value} {n : Nat} {xs : List Value} (h : w.ownsRow base e size v n xs) (g : Below w.heap.size w w') : w'.ownsRow base e size v n xs :=
  rw_keep h (fun k hk => g.block k (h.lt k hk).2)
theorem rw_mono {w : World} {base base' : Nat} {e : TypeId} {size : Nat} {v : Value} {n : Nat} {xs : List Value} (h : w.ownsRow base e size v n xs) (hb : base' ≤ base) : w.ownsRow base' e size v n xs := by
  obtain ⟨hl, h | ⟨g, cap, cur, rfl, h1, hg, h2, h3, h4, h5⟩⟩ := h
  · exact ⟨hl, Or.inl h⟩
  · exact ⟨hl, Or.inr ⟨g, cap, cur, rfl, by omega, hg, h2, h3, h4, h5⟩⟩
theorem app_int (W : World) (lo : Nat) (v : Value) (n : Nat) (xs : List Value) (hown : W.ownsRow lo 3 1 v n xs) (a : Option Addr) (c : Nat) (l : List Int) (hI : Is W.heap.size a l W) (hm : n + l.length ≤ 10000) (hlo : lo ≤ W.heap.size) :
    ∃ v' w', (∀ ty, (Builtin.append_ #[22, 22] ty #[v, .slice a l.length c]).run Try.prog W = .ok v' w') ∧ w'.ownsRow lo 3 1 v' (n + l.length) (xs ++ ivals l) ∧ W.grownBy w' v.ownBlock ∧ (v'.ownBlock = v.ownBlock ∨ v'.ownBlock = some W.heap.size) := by
  obtain ⟨i0, hi, hz0, hz1, hz2⟩ := info_parts infoI
  by_cases h0 : 0 < l.length
  · obtain ⟨b, off, rfl, hb, hc⟩ := hI.cell h0
    exact app_any 22 3 i0 _ 1 8 Try.underlying22 hi hz0 hz1 hz2 rfl (by decide) W lo v n xs hown b off l.length c (ivals l) (by simp [ivals]) (fun j hj => by
      have hj' : j < l.length := by simpa [ivals] using hj
      rw [hc j hj']; simp [ivals]) (fun u hu => by
      obtain ⟨x, _, rfl⟩ := List.mem_map.1 hu
      rfl) hm (by decide) hlo
  · obtain rfl : l = [] := List.eq_nil_of_length_eq_zero (by omega)
    obtain ⟨a', c', rfl⟩ := rw_form hown
    have hcap := (rw_cap hown).1
    cases a with
    | none => exact ⟨_, W, fun ty => app_none 22 3 i0 Try.underlying22 hi W a' n c' c hcap ty, by simpa [ivals] using hown, ⟨rfl, rfl, rfl, Nat.le_refl _, fun _ _ _ => rfl⟩, Or.inl rfl⟩
    | some ad =>
      obtain ⟨v', w', hr, h2, h3, _, h5⟩ := run_append_own_at W lo 22 22 3 i0 _ 1 8 Try.underlying22 hi hz0 hz1 hz2 rfl (by decide) _ n xs hown ad 0 c [] rfl (fun j u h => by cases h) (fun u h => by cases h) (by unfold maxLen; simp at hm; omega) (by simp at hm ⊢; omega) hlo
      exact ⟨v', w', fun ty => hr, by simpa [ivals] using h2, h3, h5⟩
theorem iwide (l : List Int) (i : Nat) (hi : i < (l.map icell).length) : (l.map icell)[i].length = 1 := by rw [List.getElem_map]; rfl
theorem own_irow {w : World} {B : Nat} {v : Value} {l : List Int} (h : w.ownsRow B 3 1 v l.length (ivals l)) (h0 : 0 < l.length) : ∃ R c, v = .slice (some ⟨R, 0, none⟩) l.length c ∧ B ≤ R ∧ IRow R l w ∧ l.length ≤ c := by
  have hv : v ≠ .slice none 0 0 := by
    intro e
    rcases h.2 with ⟨_, h1⟩ | ⟨g, cap, cur, e2, _⟩
    · omega
    · rw [e] at e2; cases e2
  have h9 := h
  rw [← ivals_flat] at h
  obtain ⟨R, cap, e, hR, hrow⟩ := GRow.ofOwns (rows := l.map icell) (iwide l) h (by simp) hv
  rw [e] at h9
  exact ⟨R, cap, e, hR, hrow, (rw_cap h9).1⟩
theorem own_ints {w : World} {B : Nat} {v : Value} {l : List Int} (h : w.ownsRow B 3 1 v l.length (ivals l)) : ∃ b c, v = .slice b l.length c ∧ OwnI B w.heap.size b l w := by
  by_cases h0 : 0 < l.length
  · obtain ⟨R, c, e, hR, hrow, -⟩ := own_irow h h0
    exact ⟨_, c, e, Or.inr ⟨R, hR, hrow.lt, rfl, hrow⟩⟩
  · obtain rfl : l = [] := List.eq_nil_of_length_eq_zero (by omega)
    obtain ⟨a, c, e⟩ := rw_form h
    exact ⟨a, c, e, Or.inl rfl⟩
theorem wpList_append_run {P : Program} {ops : Array Oper} {rest : List Oper} {o : Oper} {a : Act} {w : World} {Q : Exit → Act → World → Prop}
    (hg : o.guard = none) (s x : Operand) (t : TypeId) (hop : o.op = Op.call { callee := Callee.builtin Builtin.append, args := #[s, x], argTypes := #[t, t] })
    (v y : Value) (hs : a.eval s = v) (hx : a.eval x = y) (v' : Value) (w' : World) (hrun : ∀ ty, (Builtin.append_ #[t, t] ty #[v, y]).run P w = .ok v' w') (h : wpList P ops Q rest (a.put o.dst v') w') :
    wpList P ops Q (o :: rest) a w :=
  wpList_plain hg fun _ hK => by
    unfold Oper.wp
    simp [execOp, hop, resolve, invoke, builtin, hs, hx, hrun, Result.andThen]
    exact hK _ _ h
theorem ivals_snoc (l : List Int) (n : Int) : ivals (l ++ [n]) = ivals l ++ [.int .i64 n] := by simp [ivals]
theorem ivals_app (l m : List Int) : ivals (l ++ m) = ivals l ++ ivals m := by simp [ivals]
theorem ivals_len (l : List Int) : (ivals l).length = l.length := by simp [ivals]
/-- one number in a box of its own, read as a list -/
theorem irow_one (w : World) (n : Int) : Is (w.alloc (.cells #[.int .i64 n] 3)).heap.size (some ⟨w.heap.size, 0, none⟩) [n] (w.alloc (.cells #[.int .i64 n] 3)) := by
  refine ⟨fun _ => ⟨w.heap.size, 0, rfl, by simp, fun i hi j hj => ?_⟩⟩
  have hi' : i = 0 := by simpa using hi
  subst hi'
  obtain rfl : j = 0 := by omega
  rw [box_cell (heap_last _ _)]
  rfl
/-- a list of one's own that may grow -/
def AL (lo : Nat) (v : Value) (l : List Int) (w : World) : Prop := w.ownsRow lo 3 1 v l.length (ivals l)
theorem AL.nil (lo : Nat) (w : World) : AL lo (.slice none 0 0) [] w := World.ownsRow_nil _ _ _ _
theorem AL.below {lo : Nat} {v : Value} {l : List Int} {w w' : World} (h : AL lo v l w) (g : Below w.heap.size w w') : AL lo v l w' := rw_below h g
theorem AL.mono {lo lo' : Nat} {v : Value} {l : List Int} {w : World} (h : AL lo v l w) (g : lo' ≤ lo) : AL lo' v l w := rw_mono h g
theorem AL.own {lo : Nat} {v : Value} {l : List Int} {w : World} (h : AL lo v l w) : ∃ b c, v = .slice b l.length c ∧ OwnI lo w.heap.size b l w ∧ l.length ≤ c := by
  obtain ⟨b, c, e, ho⟩ := own_ints h
  subst e
  exact ⟨b, c, rfl, ho, (rw_cap h).1⟩
theorem AL.form {lo : Nat} {v : Value} {l : List Int} {w : World} (h : AL lo v l w) : (v = .slice none 0 0 ∧ l = []) ∨ ∃ R c, v = .slice (some ⟨R, 0, none⟩) l.length c ∧ l.length ≤ c ∧ lo ≤ R := by
  have h9 : w.ownsRow lo 3 1 v l.length (ivals l) := h
  rcases h9.2 with ⟨e, h0⟩ | ⟨g, cap, cur, e, h1, _, h2, _⟩
  · exact Or.inl ⟨e, List.eq_nil_of_length_eq_zero h0⟩
  · subst e
    exact Or.inr ⟨g, cap, rfl, (rw_cap h9).1, h1⟩
/-- other numbers are appended -/
theorem AL.app {lo : Nat} {v : Value} {l : List Int} {w : World} (h : AL lo v l w) (hlo : lo ≤ w.heap.size) (a : Option Addr) (c : Nat) (m : List Int) (hI : Is w.heap.size a m w) (hm : l.length + m.length ≤ 10000) :
    ∃ v' w', (∀ ty, (Builtin.append_ #[22, 22] ty #[v, .slice a m.length c]).run Try.prog w = .ok v' w') ∧ AL lo v' (l ++ m) w' ∧ Below lo w w' ∧ w.grownBy w' v.ownBlock ∧ (v'.ownBlock = v.ownBlock ∨ v'.ownBlock = some w.heap.size) := by
  obtain ⟨v', w', h1, h2, h3, h4⟩ := app_int w lo v l.length (ivals l) h a c m hI hm hlo
  refine ⟨v', w', h1, ?_, below_of_grown h3 hlo (fun k hk => (World.ownsRow.lt h k hk).1), h3, h4⟩
  unfold AL
  rw [List.length_append, ivals_app]
  exact h2
/-- one number is appended -/
theorem AL.push {lo : Nat} {v : Value} {l : List Int} {w : World} (h : AL lo v l w) (hlo : lo ≤ w.heap.size) (n : Int) (hm : l.length + 1 ≤ 10000) :
    ∃ v' w', (∀ ty, (Builtin.append_ #[22, 22] ty #[v, .slice (some ⟨w.heap.size, 0, none⟩) 1 1]).run Try.prog (w.alloc (.cells #[.int .i64 n] 3)) = .ok v' w') ∧ AL lo v' (l ++ [n]) w' ∧ Below lo w w' ∧ w.heap.size < w'.heap.size ∧ (w.alloc (.cells #[.int .i64 n] 3)).grownBy w' v.ownBlock ∧ (v'.ownBlock = v.ownBlock ∨ v'.ownBlock = some (w.heap.size + 1)) := by
  have hb := boxB w (.cells #[.int .i64 n] 3)
  obtain ⟨v', w', h1, h2, h3, h4, h5⟩ := (h.below hb).app (Nat.le_trans hlo hb.size) (some ⟨w.heap.size, 0, none⟩) 1 [n] (irow_one w n) hm
  refine ⟨v', w', h1, h2, (hb.mono hlo).trans h3, ?_, h4, ?_⟩
  · have := h3.size; rw [heap_size] at this; omega
  · rw [heap_size] at h5; exact h5
/-- a list and a truth value, in memory of one's own -/
def LOut (V : List Int) (ok : Bool) (w : World) (e : Ending) (w' : World) : Prop := ∃ b c, e = .returned (.tuple #[.slice b V.length c, .bool ok]) ∧ OwnI w.heap.size w'.heap.size b V w' ∧ Below w.heap.size w w'
theorem LOut.no {w w' : World} (g : Below w.heap.size w w') : LOut [] false w (.returned (.tuple #[.slice none 0 0, .bool false])) w' := ⟨none, 0, rfl, Or.inl rfl, g⟩
theorem LOut.yes {V : List Int} {w w' : World} {v : Value} (h : AL w.heap.size v V w') (g : Below w.heap.size w w') : LOut V true w (.returned (.tuple #[v, .bool true])) w' := by
  obtain ⟨b, c, rfl, ho, _⟩ := h.own
  exact ⟨b, c, rfl, ho, g⟩
/-- a list written out with nothing in it -/
theorem AL.lit (w : World) : AL w.heap.size (.slice (some ⟨w.heap.size, 0, none⟩) 0 0) [] (w.alloc (.cells #[] 3)) := by
  have := World.ownsRow_made w (base := w.heap.size) (e := 3) (size := 1) #[] 0 (Nat.le_refl _) (by unfold maxLen; omega) rfl
  exact this
theorem is_take {B : Nat} {a : Option Addr} {l : List Int} {w : World} (h : Is B a l w) (k : Nat) : Is B a (l.take k) w := by
  refine ⟨fun h0 => ?_⟩
  have h0' : 0 < l.length := by simp at h0; omega
  obtain ⟨b, off, e, hb, hc⟩ := GSl.cell h (by simpa using h0')
  refine ⟨b, off, e, hb, fun i hi j hj => ?_⟩
  have hi' : i < l.length := by simp at hi; omega
  rw [hc i (by simpa using hi') j hj]
  simp
theorem is_drop {B b off : Nat} {l : List Int} {w : World} (h : Is B (some ⟨b, off, none⟩) l w) (k : Nat) : Is B (some ⟨b, off + k, none⟩) (l.drop k) w := by
  refine ⟨fun h0 => ?_⟩
  have h0' : 0 < l.length := by simp at h0; omega
  obtain ⟨b', off', e, hb, hc⟩ := GSl.cell h (by simpa using h0')
  injection e with e; injection e with e1 e2 _
  subst e1; subst e2
  refine ⟨b, off + k, rfl, hb, fun i hi j hj => ?_⟩
  have hi' : k + i < l.length := by simp at hi; omega
  obtain rfl : j = 0 := by omega
  have := hc (k + i) (by simpa using hi') 0 (by omega)
  rw [show off + k + i * 1 + 0 = off + (k + i) * 1 + 0 from by omega, this]
  simp
theorem is_nil (B : Nat) (a : Option Addr) (w : World) : Is B a [] w := ⟨fun h => absurd h (by simp)⟩
set_option maxHeartbeats 1000000 in
theorem to_capI (a : Option Addr) (cap : Nat) (l : List Int) (w : World) (hn : l.length ≤ 1048576) (hI : Is w.heap.size a l w) :
    Calls Try.prog 14 #[.slice a l.length cap] w fun e w' => ∃ b c, e = .returned (.slice b l.length c) ∧ OwnI w.heap.size w'.heap.size b l w' ∧ Below w.heap.size w w' ∧ l.length ≤ c := by
  have HI : Hid (Is w.heap.size a l w) := hI
  clear hI
  have hmk := make_ints l.length hn
  have hr0 := IRow.made w l.length
  generalize madeCells (Value.int .i64 0).cells l.length = M at *
  have HR : Hid (IRow w.heap.size (List.replicate l.length 0) (w.alloc (.cells M 3))) := hr0
  clear hr0
  go_enter Try.func14, Try.ntmps14
  go_wp2
  go_loopw [4] (fun i wr => ∃ (k : Nat) (ys : List Int), k ≤ l.length ∧ i = .int .i64 k ∧ ys.length = l.length ∧ ys.take k = l.take k ∧ IRow w.heap.size ys wr ∧ Below w.heap.size w wr) (fun i _ => l.length - (intOf i).toNat)
  case atStart => exact ⟨0, List.replicate l.length 0, Nat.zero_le _, rfl, by simp, rfl, HR.out, (Below.refl _ _).alloc (Nat.le_refl _) _⟩
  case round =>
    obtain ⟨k, ys, hk, rfl, hy, htk, hrow, hbel⟩ := hrel
    have HROW : Hid (IRow w.heap.size ys wr) := hrow
    have HBEL : Hid (Below w.heap.size w wr) := hbel
    have HTK : Hid (ys.take k = l.take k) := htk
    by_cases hlt : k < l.length
    · obtain ⟨b, off, rfl, hb, hc⟩ := HI.out.cell (by omega)
      have x0 := (hbel.cell (p := ⟨b, off + k, none⟩) hb).trans (hc k hlt)
      have y0 := hrow.cell k (by omega)
      have f0 := hrow.free k (by omega)
      clear hrow hbel htk hc
      go_wp2
      go_roundw
      case rel =>
        refine ⟨k + 1, ys.set k l[k], by omega, by go_num, by simpa using hy, ?_, HROW.out.set k (by omega) _, HBEL.out.setCell (Nat.le_refl _) _⟩
        have hky : k < ys.length := by omega
        rw [take_snoc _ k (by simpa using hky), take_snoc l k hlt, List.take_set_of_le (Nat.le_refl _), HTK.out, List.getElem_set_self]
      case measure => simp [intOf]; omega
    · obtain rfl : k = l.length := by omega
      rw [List.take_length, List.take_of_length_le (by omega)] at htk
      subst htk
      clear hrow hbel
      go_wp2
      go_ret
      have hO : OwnI w.heap.size wr.heap.size (some ⟨w.heap.size, 0, none⟩) ys wr := Or.inr ⟨_, Nat.le_refl _, HROW.out.lt, rfl, HROW.out⟩
      first
        | exact ⟨_, _, rfl, hO, HBEL.out, Nat.le_refl _⟩
        | exact ⟨_, _, ⟨rfl, rfl⟩, hO, HBEL.out, Nat.le_refl _⟩
        | exact ⟨_, _, ⟨⟨rfl, rfl⟩, rfl⟩, hO, HBEL.out, Nat.le_refl _⟩
end Go.Proofs.Ytgompioaknfjgab
