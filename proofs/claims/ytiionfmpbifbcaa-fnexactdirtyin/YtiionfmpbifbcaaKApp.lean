/- Rows of one's own of texts, numbers and layers: appended to, read. -/
import Derived.Test.YtiionfmpbifbcaaKMarks
import Derived.Test.YtiionfmpbifbcaaOwn
import Derived.Laws.AppendOwn
import Derived.Maps.AppendAt
namespace Go.Proofs.Ytiionfmpbifbcaa
set_option maxRecDepth 100000
open Go Go.ChangeShapes Go.WideShapes Go.ChangeAt Go.RowKit
def svals (l : List ByteArray) : List Value := l.map fun s => .string s
theorem svals_flat (l : List ByteArray) : (l.map scell).flatten = svals l := by
  unfold svals
  induction l with
  | nil => rfl
  | cons x l ih => rw [List.map_cons, List.flatten_cons, ih]; rfl
def ivals (l : List Int) : List Value := l.map fun n => .int .i64 n
theorem ivals_flat (l : List Int) : (l.map icell).flatten = ivals l := by
  unfold ivals
  induction l with
  | nil => rfl
  | cons x l ih => rw [List.map_cons, List.flatten_cons, ih]; rfl
theorem app_any (t e : TypeId) (i : TypeInfo) (z : Value) (sz bs : Nat) (ht : Try.prog.underlying t = some (.slice e)) (hi : Try.prog.info? e = some i) (hz : i.zero = some z) (hs : i.size = sz) (hb : i.bytes = bs) (hzs : z.cells.size = sz) (h0 : 0 < sz)
    (W : World) (lo : Nat) (v : Value) (n : Nat) (xs : List Value) (hown : W.ownsRow lo e sz v n xs) (X off m c : Nat) (news : List Value) (hl : news.length = m * sz) (hc : ∀ j (h : j < news.length), W.cell? ⟨X, off + j, none⟩ = some news[j]) (h1 : ∀ u ∈ news, u.oneCell' = true)
    (hm : n + m ≤ 10000) (hbs : bs ≤ 64) (hlo : lo ≤ W.heap.size) :
    ∃ v' w', (∀ ty, (Builtin.append_ #[t, t] ty #[v, .slice (some ⟨X, off, none⟩) m c]).run Try.prog W = .ok v' w') ∧ w'.ownsRow lo e sz v' (n + m) (xs ++ news) ∧ W.grownBy w' v.ownBlock ∧ (v'.ownBlock = v.ownBlock ∨ v'.ownBlock = some W.heap.size) := by
  have hbb : (n + m) * bs ≤ 140737488355328 := Nat.le_trans (Nat.mul_le_mul hm hbs) (by decide)
  have hn : ∀ j u, news[j]? = some u → W.cell? ((⟨X, off, none⟩ : Addr).add j) = some u := fun j u hu => by
    obtain ⟨hj, rfl⟩ := List.getElem?_eq_some_iff.1 hu
    have hadd : (⟨X, off, none⟩ : Addr).add j = ⟨X, off + j, none⟩ := by unfold Addr.add; split <;> simp_all
    rw [hadd]
    exact hc j hj
  obtain ⟨v', w', hr, h2, h3, _, h5⟩ := run_append_own_at W lo t t e i z sz bs ht hi hz hs hb hzs h0 v n xs hown ⟨X, off, none⟩ m c news hl hn h1 (by unfold maxLen; omega) hbb hlo
  exact ⟨v', w', fun ty => hr, h2, h3, h5⟩
theorem app_none (t e : TypeId) (i : TypeInfo) (ht : Try.prog.underlying t = some (.slice e)) (hi : Try.prog.info? e = some i) (W : World) (a : Option Addr) (n c c' : Nat) (hn : n ≤ c) (ty : TypeId) :
    (Builtin.append_ #[t, t] ty #[.slice a n c, .slice none 0 c']).run Try.prog W = .ok (.slice a n c) W := by
  cases a <;> simp [Builtin.append_, run_underlying ht, sizeOf, typeInfo, hi, Builtin.lenOf, Builtin.firstCells, loadCells, storeCells, hn]
theorem rw_cap {w : World} {base : Nat} {e : TypeId} {size : Nat} {a : Option Addr} {m n c : Nat} {xs : List Value} (h : w.ownsRow base e size (.slice a m c) n xs) : n ≤ c ∧ m = n := by
  rcases h.2 with ⟨h1, rfl⟩ | ⟨g', cap, cur, h1, _, _, h2, _⟩
  · injection h1 with _ h2 h3; omega
  · injection h1 with _ h3 h4; omega
theorem rw_form {w : World} {base : Nat} {e : TypeId} {size : Nat} {v : Value} {n : Nat} {xs : List Value} (h : w.ownsRow base e size v n xs) : ∃ a c, v = .slice a n c := by
  rcases h.2 with ⟨rfl, rfl⟩ | ⟨g', cap, cur, rfl, _⟩
  · exact ⟨_, _, rfl⟩
  · exact ⟨_, _, rfl⟩
theorem below_of_grown {lo : Nat} {w w' : World} {row : Option Nat} (g : w.grownBy w' row) (hlo : lo ≤ w.heap.size) (hr : ∀ k, row = some k → lo ≤ k) : Below lo w w' :=
  ⟨g.os, g.tape, g.output, g.size, fun k hk => g.block k (by omega) (fun e => by have := hr k e.symm; omega)⟩
/-- a row of one's own stands where its block stands -/
theorem rw_keep {w w' : World} {base : Nat} {e : TypeId} {size : Nat} {v : Value} {n : Nat} {xs : List Value} (h : w.ownsRow base e size v n xs) (hb : ∀ k, v.ownBlock = some k → w'.heap[k]? = w.heap[k]?) : w'.ownsRow base e size v n xs := by
  obtain ⟨hl, h | ⟨g, cap, cur, rfl, h1, hg, h2, h3, h4, h5⟩⟩ := h
  · exact ⟨hl, Or.inl h⟩
  · exact ⟨hl, Or.inr ⟨g, cap, cur, rfl, h1, (hb g rfl).trans hg, h2, h3, h4, h5⟩⟩
theorem rw_below {w w' : World} {base : Nat} {e : TypeId} {size : Nat} {v : Value} {n : Nat} {xs : List Value} (h : w.ownsRow base e size v n xs) (g : Below w.heap.size w w') : w'.ownsRow base e size v n xs :=
  rw_keep h (fun k hk => g.block k (h.lt k hk).2)
theorem rw_mono {w : World} {base base' : Nat} {e : TypeId} {size : Nat} {v : Value} {n : Nat} {xs : List Value} (h : w.ownsRow base e size v n xs) (hb : base' ≤ base) : w.ownsRow base' e size v n xs := by
  obtain ⟨hl, h | ⟨g, cap, cur, rfl, h1, hg, h2, h3, h4, h5⟩⟩ := h
  · exact ⟨hl, Or.inl h⟩
  · exact ⟨hl, Or.inr ⟨g, cap, cur, rfl, by omega, hg, h2, h3, h4, h5⟩⟩
theorem swide (l : List ByteArray) (i : Nat) (hi : i < (l.map scell).length) : (l.map scell)[i].length = 1 := by rw [List.getElem_map]; rfl
theorem own_srow {w : World} {B : Nat} {v : Value} {l : List ByteArray} (h : w.ownsRow B 9 1 v l.length (svals l)) (h0 : 0 < l.length) : ∃ R c, v = .slice (some ⟨R, 0, none⟩) l.length c ∧ B ≤ R ∧ SRow R l w ∧ l.length ≤ c := by
  have hv : v ≠ .slice none 0 0 := by
    intro e
    rcases h.2 with ⟨_, h1⟩ | ⟨g, cap, cur, e2, _⟩
    · omega
    · rw [e] at e2; cases e2
  have h9 := h
  rw [← svals_flat] at h
  obtain ⟨R, cap, e, hR, hrow⟩ := GRow.ofOwns (rows := l.map scell) (swide l) h (by simp) hv
  rw [e] at h9
  exact ⟨R, cap, e, hR, hrow, (rw_cap h9).1⟩
theorem own_strs {w : World} {B : Nat} {v : Value} {l : List ByteArray} (h : w.ownsRow B 9 1 v l.length (svals l)) : ∃ b c, v = .slice b l.length c ∧ OwnS B w.heap.size b l w := by
  by_cases h0 : 0 < l.length
  · obtain ⟨R, c, e, hR, hrow, -⟩ := own_srow h h0
    exact ⟨_, c, e, Or.inr ⟨R, hR, hrow.lt, rfl, hrow⟩⟩
  · obtain rfl : l = [] := List.eq_nil_of_length_eq_zero (by omega)
    obtain ⟨a, c, e⟩ := rw_form h
    exact ⟨a, c, e, Or.inl rfl⟩
/-- texts appended to an own row -/
theorem app_str (W : World) (lo : Nat) (v : Value) (n : Nat) (xs : List Value) (hown : W.ownsRow lo 9 1 v n xs) (a : Option Addr) (c : Nat) (l : List ByteArray) (hI : Ss W.heap.size a l W) (hm : n + l.length ≤ 10000) (hlo : lo ≤ W.heap.size) :
    ∃ v' w', (∀ ty, (Builtin.append_ #[42, 42] ty #[v, .slice a l.length c]).run Try.prog W = .ok v' w') ∧ w'.ownsRow lo 9 1 v' (n + l.length) (xs ++ svals l) ∧ W.grownBy w' v.ownBlock ∧ (v'.ownBlock = v.ownBlock ∨ v'.ownBlock = some W.heap.size) := by
  obtain ⟨i0, hi, hz0, hz1, hz2⟩ := info_parts infoStrV
  by_cases h0 : 0 < l.length
  · obtain ⟨b, off, rfl, hb, hc⟩ := hI.cell h0
    exact app_any 42 9 i0 _ 1 16 Try.underlying42 hi hz0 hz1 hz2 rfl (by decide) W lo v n xs hown b off l.length c (svals l) (by simp [svals]) (fun j hj => by
      have hj' : j < l.length := by simpa [svals] using hj
      rw [hc j hj']; simp [svals]) (fun u hu => by
      obtain ⟨x, _, rfl⟩ := List.mem_map.1 hu
      rfl) hm (by decide) hlo
  · obtain rfl : l = [] := List.eq_nil_of_length_eq_zero (by omega)
    obtain ⟨a', c', rfl⟩ := rw_form hown
    have hcap := (rw_cap hown).1
    cases a with
    | none => exact ⟨_, W, fun ty => app_none 42 9 i0 Try.underlying42 hi W a' n c' c hcap ty, by simpa [svals] using hown, ⟨rfl, rfl, rfl, Nat.le_refl _, fun _ _ _ => rfl⟩, Or.inl rfl⟩
    | some ad =>
      obtain ⟨v', w', hr, h2, h3, _, h5⟩ := run_append_own_at W lo 42 42 9 i0 _ 1 16 Try.underlying42 hi hz0 hz1 hz2 rfl (by decide) _ n xs hown ad 0 c [] rfl (fun j u h => by cases h) (fun u h => by cases h) (by unfold maxLen; simp at hm; omega) (by simp at hm ⊢; omega) hlo
      exact ⟨v', w', fun ty => hr, by simpa [svals] using h2, h3, h5⟩
/-- numbers appended to an own row -/
theorem app_int (W : World) (lo : Nat) (v : Value) (n : Nat) (xs : List Value) (hown : W.ownsRow lo 3 1 v n xs) (a : Option Addr) (c : Nat) (l : List Int) (hI : Is W.heap.size a l W) (hm : n + l.length ≤ 10000) (hlo : lo ≤ W.heap.size) :
    ∃ v' w', (∀ ty, (Builtin.append_ #[34, 34] ty #[v, .slice a l.length c]).run Try.prog W = .ok v' w') ∧ w'.ownsRow lo 3 1 v' (n + l.length) (xs ++ ivals l) ∧ W.grownBy w' v.ownBlock ∧ (v'.ownBlock = v.ownBlock ∨ v'.ownBlock = some W.heap.size) := by
  obtain ⟨i0, hi, hz0, hz1, hz2⟩ := info_parts infoI
  by_cases h0 : 0 < l.length
  · obtain ⟨b, off, rfl, hb, hc⟩ := hI.cell h0
    exact app_any 34 3 i0 _ 1 8 Try.underlying34 hi hz0 hz1 hz2 rfl (by decide) W lo v n xs hown b off l.length c (ivals l) (by simp [ivals]) (fun j hj => by
      have hj' : j < l.length := by simpa [ivals] using hj
      rw [hc j hj']; simp [ivals]) (fun u hu => by
      obtain ⟨x, _, rfl⟩ := List.mem_map.1 hu
      rfl) hm (by decide) hlo
  · obtain rfl : l = [] := List.eq_nil_of_length_eq_zero (by omega)
    obtain ⟨a', c', rfl⟩ := rw_form hown
    have hcap := (rw_cap hown).1
    cases a with
    | none => exact ⟨_, W, fun ty => app_none 34 3 i0 Try.underlying34 hi W a' n c' c hcap ty, by simpa [ivals] using hown, ⟨rfl, rfl, rfl, Nat.le_refl _, fun _ _ _ => rfl⟩, Or.inl rfl⟩
    | some ad =>
      obtain ⟨v', w', hr, h2, h3, _, h5⟩ := run_append_own_at W lo 34 34 3 i0 _ 1 8 Try.underlying34 hi hz0 hz1 hz2 rfl (by decide) _ n xs hown ad 0 c [] rfl (fun j u h => by cases h) (fun u h => by cases h) (by unfold maxLen; simp at hm; omega) (by simp at hm ⊢; omega) hlo
      exact ⟨v', w', fun ty => hr, by simpa [ivals] using h2, h3, h5⟩
theorem iwide (l : List Int) (i : Nat) (hi : i < (l.map icell).length) : (l.map icell)[i].length = 1 := by rw [List.getElem_map]; rfl
theorem own_irow {w : World} {B : Nat} {v : Value} {l : List Int} (h : w.ownsRow B 3 1 v l.length (ivals l)) (h0 : 0 < l.length) : ∃ R c, v = .slice (some ⟨R, 0, none⟩) l.length c ∧ B ≤ R ∧ IRow R l w ∧ l.length ≤ c := by
  have hv : v ≠ .slice none 0 0 := by
    intro e
    rcases h.2 with ⟨_, h1⟩ | ⟨g, cap, cur, e2, _⟩
    · omega
    · rw [e] at e2; cases e2
  have h9 := h
  rw [← ivals_flat] at h
  obtain ⟨R, cap, e, hR, hrow⟩ := GRow.ofOwns (rows := l.map icell) (iwide l) h (by simp) hv
  rw [e] at h9
  exact ⟨R, cap, e, hR, hrow, (rw_cap h9).1⟩
theorem own_ints {w : World} {B : Nat} {v : Value} {l : List Int} (h : w.ownsRow B 3 1 v l.length (ivals l)) : ∃ b c, v = .slice b l.length c ∧ OwnI B w.heap.size b l w := by
  by_cases h0 : 0 < l.length
  · obtain ⟨R, c, e, hR, hrow, -⟩ := own_irow h h0
    exact ⟨_, c, e, Or.inr ⟨R, hR, hrow.lt, rfl, hrow⟩⟩
  · obtain rfl : l = [] := List.eq_nil_of_length_eq_zero (by omega)
    obtain ⟨a, c, e⟩ := rw_form h
    exact ⟨a, c, e, Or.inl rfl⟩
/-- an append whose run is known -/
theorem wpList_append_run {P : Program} {ops : Array Oper} {rest : List Oper} {o : Oper} {a : Act} {w : World} {Q : Exit → Act → World → Prop}
    (hg : o.guard = none) (s x : Operand) (t : TypeId) (hop : o.op = Op.call { callee := Callee.builtin Builtin.append, args := #[s, x], argTypes := #[t, t] })
    (v y : Value) (hs : a.eval s = v) (hx : a.eval x = y) (v' : Value) (w' : World) (hrun : ∀ ty, (Builtin.append_ #[t, t] ty #[v, y]).run P w = .ok v' w') (h : wpList P ops Q rest (a.put o.dst v') w') :
    wpList P ops Q (o :: rest) a w :=
  wpList_plain hg fun _ hK => by
    unfold Oper.wp
    simp [execOp, hop, resolve, invoke, builtin, hs, hx, hrun, Result.andThen]
    exact hK _ _ h
theorem svals_snoc (l : List ByteArray) (s : ByteArray) : svals (l ++ [s]) = svals l ++ [.string s] := by simp [svals]
/-- one layer appended to an own row -/
theorem app_ly (W : World) (lo : Nat) (v : Value) (n : Nat) (xs : List Value) (hown : W.ownsRow lo 79 3 v n xs) (X c : Nat) (m : Int) (p : Option Addr) (k1 c1 : Nat) (q : Option Addr) (k2 c2 : Nat) (hX : W.heap[X]? = some (.cells #[.int .i64 m, .slice p k1 c1, .slice q k2 c2] 79)) (hm : n + 1 ≤ 10000) (hlo : lo ≤ W.heap.size) :
    ∃ v' w', (∀ ty, (Builtin.append_ #[28, 28] ty #[v, .slice (some ⟨X, 0, none⟩) 1 c]).run Try.prog W = .ok v' w') ∧ w'.ownsRow lo 79 3 v' (n + 1) (xs ++ [.int .i64 m, .slice p k1 c1, .slice q k2 c2]) ∧ W.grownBy w' v.ownBlock ∧ (v'.ownBlock = v.ownBlock ∨ v'.ownBlock = some W.heap.size) := by
  obtain ⟨i0, hi, hz0, hz1, hz2⟩ := info_parts infoLy
  exact app_any 28 79 i0 _ 3 56 Try.underlying28 hi hz0 hz1 hz2 rfl (by decide) W lo v n xs hown X 0 1 c [.int .i64 m, .slice p k1 c1, .slice q k2 c2] rfl (fun j hj => by
    rw [Nat.zero_add, box_cell hX]
    have hj' : j < 3 := hj
    rcases (show j = 0 ∨ j = 1 ∨ j = 2 by omega) with rfl | rfl | rfl <;> rfl) (fun u hu => by
    simp only [List.mem_cons, List.not_mem_nil, or_false] at hu
    rcases hu with rfl | rfl | rfl <;> rfl) hm (by decide) hlo
end Go.Proofs.Ytiionfmpbifbcaa
