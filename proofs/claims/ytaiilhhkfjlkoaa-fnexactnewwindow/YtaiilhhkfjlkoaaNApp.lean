/- Rows of one's own of texts, truth values and frames: appended to, read; the program's copyTexts. -/
import Derived.Test.YtaiilhhkfjlkoaaNWin
import Derived.Test.YtaiilhhkfjlkoaaOwn
import Derived.Test.YtaiilhhkfjlkoaaIJoin
import Derived.Laws.AppendOwn
import Derived.Maps.AppendAt
import Derived.Deep.RegionHeldLaw
namespace Go.Proofs.Ytaiilhhkfjlkoaa
set_option maxRecDepth 100000
open Go Go.ChangeShapes Go.WideShapes Go.ChangeAt Go.RowKit
def svals (l : List ByteArray) : List Value := l.map fun s => .string s
theorem svals_flat (l : List ByteArray) : (l.map scell).flatten = svals l := by
  unfold svals
  induction l with
  | nil => rfl
  | cons x l ih => rw [List.map_cons, List.flatten_cons, ih]; rfl
theorem app_any (t e : TypeId) (i : TypeInfo) (z : Value) (sz bs : Nat) (ht : Try.prog.underlying t = some (.slice e)) (hi : Try.prog.info? e = some i) (hz : i.zero = some z) (hs : i.size = sz) (hb : i.bytes = bs) (hzs : z.cells.size = sz) (h0 : 0 < sz)
    (W : World) (lo : Nat) (v : Value) (n : Nat) (xs : List Value) (hown : W.ownsRow lo e sz v n xs) (X off m c : Nat) (news : List Value) (hl : news.length = m * sz) (hc : ∀ j (h : j < news.length), W.cell? ⟨X, off + j, none⟩ = some news[j]) (h1 : ∀ u ∈ news, u.oneCell' = true)
    (hm : n + m ≤ 10000) (hbs : bs ≤ 64) (hlo : lo ≤ W.heap.size) :
    ∃ v' w', (∀ ty, (Builtin.append_ #[t, t] ty #[v, .slice (some ⟨X, off, none⟩) m c]).run Try.prog W = .ok v' w') ∧ w'.ownsRow lo e sz v' (n + m) (xs ++ news) ∧ W.grownBy w' v.ownBlock ∧ (v'.ownBlock = v.ownBlock ∨ v'.ownBlock = some W.heap.size) := by
  have hbb : (n + m) * bs ≤ 140737488355328 := Nat.le_trans (Nat.mul_le_mul hm hbs) (by decide)
  have hn : ∀ j u, news[j]? = some u → W.cell? ((⟨X, off, none⟩ : Addr).add j) = some u := fun j u hu => by
    obtain ⟨hj, rfl⟩ := List.getElem?_eq_some_iff.1 hu
    have hadd : (⟨X, off, none⟩ : Addr).add j = ⟨X, off + j, none⟩ := by unfold Addr.add; split <;> simp_all
    rw [hadd]
    exact hc j hj
  obtain ⟨v', w', hr, h2, h3, _, h5⟩ := run_append_own_at W lo t t e i z sz bs ht hi hz hs hb hzs h0 v n xs hown ⟨X, off, none⟩ m c news hl hn h1 (by unfold maxLen; omega) hbb hlo
  exact ⟨v', w', fun ty => hr, h2, h3, h5⟩
theorem app_none (t e : TypeId) (i : TypeInfo) (ht : Try.prog.underlying t = some (.slice e)) (hi : Try.prog.info? e = some i) (W : World) (a : Option Addr) (n c c' : Nat) (hn : n ≤ c) (ty : TypeId) :
    (Builtin.append_ #[t, t] ty #[.slice a n c, .slice none 0 c']).run Try.prog W = .ok (.slice a n c) W := by
  cases a <;> simp [Builtin.append_, run_underlying ht, sizeOf, typeInfo, hi, Builtin.lenOf, Builtin.firstCells, loadCells, storeCells, hn]
theorem rw_cap {w : World} {base : Nat} {e : TypeId} {size : Nat} {a : Option Addr} {m n c : Nat} {xs : List Value} (h : w.ownsRow base e size (.slice a m c) n xs) : n ≤ c ∧ m = n := by
  rcases h.2 with ⟨h1, rfl⟩ | ⟨g', cap, cur, h1, _, _, h2, _⟩
  · injection h1 with _ h2 h3; omega
  · injection h1 with _ h3 h4; omega
theorem rw_form {w : World} {base : Nat} {e : TypeId} {size : Nat} {v : Value} {n : Nat} {xs : List Value} (h : w.ownsRow base e size v n xs) : ∃ a c, v = .slice a n c := by
  rcases h.2 with ⟨rfl, rfl⟩ | ⟨g', cap, cur, rfl, _⟩
  · exact ⟨_, _, rfl⟩
  · exact ⟨_, _, rfl⟩
theorem below_of_grown {lo : Nat} {w w' : World} {row : Option Nat} (g : w.grownBy w' row) (hlo : lo ≤ w.heap.size) (hr : ∀ k, row = some k → lo ≤ k) : Below lo w w' :=
  ⟨g.os, g.tape, g.output, g.size, fun k hk => g.block k (by omega) (fun e => by have := hr k e.symm; omega)⟩
/-- a row of one's own stands where its block stands -/
theorem rw_keep {w w' : World} {base : Nat} {e : TypeId} {size : Nat} {v : Value} {n : Nat} {xs : List Value} (h : w.ownsRow base e size v n xs) (hb : ∀ k, v.ownBlock = some k → w'.heap[k]? = w.heap[k]?) : w'.ownsRow base e size v n xs := by
  obtain ⟨hl, h | ⟨g, cap, cur, rfl, h1, hg, h2, h3, h4, h5⟩⟩ := h
  · exact ⟨hl, Or.inl h⟩
  · exact ⟨hl, Or.inr ⟨g, cap, cur, rfl, h1, (hb g rfl).trans hg, h2, h3, h4, h5⟩⟩
theorem rw_below {w w' : World} {base : Nat} {e : TypeId} {size : Nat} {v : Value} {n : Nat} {xs : List Value} (h : w.ownsRow base e size v n xs) (g : Below w.heap.size w w') : w'.ownsRow base e size v n xs :=
  rw_keep h (fun k hk => g.block k (h.lt k hk).2)
theorem rw_mono {w : World} {base base' : Nat} {e : TypeId} {size : Nat} {v : Value} {n : Nat} {xs : List Value} (h : w.ownsRow base e size v n xs) (hb : base' ≤ base) : w.ownsRow base' e size v n xs := by
  obtain ⟨hl, h | ⟨g, cap, cur, rfl, h1, hg, h2, h3, h4, h5⟩⟩ := h
  · exact ⟨hl, Or.inl h⟩
  · exact ⟨hl, Or.inr ⟨g, cap, cur, rfl, by omega, hg, h2, h3, h4, h5⟩⟩
theorem swide (l : List ByteArray) (i : Nat) (hi : i < (l.map scell).length) : (l.map scell)[i].length = 1 := by rw [List.getElem_map]; rfl
theorem own_srow {w : World} {B : Nat} {v : Value} {l : List ByteArray} (h : w.ownsRow B 9 1 v l.length (svals l)) (h0 : 0 < l.length) : ∃ R c, v = .slice (some ⟨R, 0, none⟩) l.length c ∧ B ≤ R ∧ SRow R l w ∧ l.length ≤ c := by
  have hv : v ≠ .slice none 0 0 := by
    intro e
    rcases h.2 with ⟨_, h1⟩ | ⟨g, cap, cur, e2, _⟩
    · omega
    · rw [e] at e2; cases e2
  have h9 := h
  rw [← svals_flat] at h
  obtain ⟨R, cap, e, hR, hrow⟩ := GRow.ofOwns (rows := l.map scell) (swide l) h (by simp) hv
  rw [e] at h9
  exact ⟨R, cap, e, hR, hrow, (rw_cap h9).1⟩
theorem own_strs {w : World} {B : Nat} {v : Value} {l : List ByteArray} (h : w.ownsRow B 9 1 v l.length (svals l)) : ∃ b c, v = .slice b l.length c ∧ OwnS B w.heap.size b l w := by
  by_cases h0 : 0 < l.length
  · obtain ⟨R, c, e, hR, hrow, -⟩ := own_srow h h0
    exact ⟨_, c, e, Or.inr ⟨R, hR, hrow.lt, rfl, hrow⟩⟩
  · obtain rfl : l = [] := List.eq_nil_of_length_eq_zero (by omega)
    obtain ⟨a, c, e⟩ := rw_form h
    exact ⟨a, c, e, Or.inl rfl⟩
/-- texts appended to an own row -/
theorem app_str (W : World) (lo : Nat) (v : Value) (n : Nat) (xs : List Value) (hown : W.ownsRow lo 9 1 v n xs) (a : Option Addr) (c : Nat) (l : List ByteArray) (hI : Ss W.heap.size a l W) (hm : n + l.length ≤ 10000) (hlo : lo ≤ W.heap.size) :
    ∃ v' w', (∀ ty, (Builtin.append_ #[22, 22] ty #[v, .slice a l.length c]).run Try.prog W = .ok v' w') ∧ w'.ownsRow lo 9 1 v' (n + l.length) (xs ++ svals l) ∧ W.grownBy w' v.ownBlock ∧ (v'.ownBlock = v.ownBlock ∨ v'.ownBlock = some W.heap.size) := by
  obtain ⟨i0, hi, hz0, hz1, hz2⟩ := info_parts infoStrV
  by_cases h0 : 0 < l.length
  · obtain ⟨b, off, rfl, hb, hc⟩ := hI.cell h0
    exact app_any 22 9 i0 _ 1 16 Try.underlying22 hi hz0 hz1 hz2 rfl (by decide) W lo v n xs hown b off l.length c (svals l) (by simp [svals]) (fun j hj => by
      have hj' : j < l.length := by simpa [svals] using hj
      rw [hc j hj']; simp [svals]) (fun u hu => by
      obtain ⟨x, _, rfl⟩ := List.mem_map.1 hu
      rfl) hm (by decide) hlo
  · obtain rfl : l = [] := List.eq_nil_of_length_eq_zero (by omega)
    obtain ⟨a', c', rfl⟩ := rw_form hown
    have hcap := (rw_cap hown).1
    cases a with
    | none => exact ⟨_, W, fun ty => app_none 22 9 i0 Try.underlying22 hi W a' n c' c hcap ty, by simpa [svals] using hown, ⟨rfl, rfl, rfl, Nat.le_refl _, fun _ _ _ => rfl⟩, Or.inl rfl⟩
    | some ad =>
      obtain ⟨v', w', hr, h2, h3, _, h5⟩ := run_append_own_at W lo 22 22 9 i0 _ 1 16 Try.underlying22 hi hz0 hz1 hz2 rfl (by decide) _ n xs hown ad 0 c [] rfl (fun j u h => by cases h) (fun u h => by cases h) (by unfold maxLen; simp at hm; omega) (by simp at hm ⊢; omega) hlo
      exact ⟨v', w', fun ty => hr, by simpa [svals] using h2, h3, h5⟩
def tvals (l : List Bool) : List Value := l.map fun n => .bool n
theorem tvals_flat (l : List Bool) : (l.map bcell).flatten = tvals l := by
  unfold tvals
  induction l with
  | nil => rfl
  | cons x l ih => rw [List.map_cons, List.flatten_cons, ih]; rfl
/-- truth values appended to an own row -/
theorem app_bool (W : World) (lo : Nat) (v : Value) (n : Nat) (xs : List Value) (hown : W.ownsRow lo 4 1 v n xs) (a : Option Addr) (c : Nat) (l : List Bool) (hI : Bs W.heap.size a l W) (hm : n + l.length ≤ 10000) (hlo : lo ≤ W.heap.size) :
    ∃ v' w', (∀ ty, (Builtin.append_ #[24, 24] ty #[v, .slice a l.length c]).run Try.prog W = .ok v' w') ∧ w'.ownsRow lo 4 1 v' (n + l.length) (xs ++ tvals l) ∧ W.grownBy w' v.ownBlock ∧ (v'.ownBlock = v.ownBlock ∨ v'.ownBlock = some W.heap.size) := by
  obtain ⟨i0, hi, hz0, hz1, hz2⟩ := info_parts infoB
  by_cases h0 : 0 < l.length
  · obtain ⟨b, off, rfl, hb, hc⟩ := hI.cell h0
    exact app_any 24 4 i0 _ 1 1 Try.underlying24 hi hz0 hz1 hz2 rfl (by decide) W lo v n xs hown b off l.length c (tvals l) (by simp [tvals]) (fun j hj => by
      have hj' : j < l.length := by simpa [tvals] using hj
      rw [hc j hj']; simp [tvals]) (fun u hu => by
      obtain ⟨x, _, rfl⟩ := List.mem_map.1 hu
      rfl) hm (by decide) hlo
  · obtain rfl : l = [] := List.eq_nil_of_length_eq_zero (by omega)
    obtain ⟨a', c', rfl⟩ := rw_form hown
    have hcap := (rw_cap hown).1
    cases a with
    | none => exact ⟨_, W, fun ty => app_none 24 4 i0 Try.underlying24 hi W a' n c' c hcap ty, by simpa [tvals] using hown, ⟨rfl, rfl, rfl, Nat.le_refl _, fun _ _ _ => rfl⟩, Or.inl rfl⟩
    | some ad =>
      obtain ⟨v', w', hr, h2, h3, _, h5⟩ := run_append_own_at W lo 24 24 4 i0 _ 1 1 Try.underlying24 hi hz0 hz1 hz2 rfl (by decide) _ n xs hown ad 0 c [] rfl (fun j u h => by cases h) (fun u h => by cases h) (by unfold maxLen; simp at hm; omega) (by simp at hm ⊢; omega) hlo
      exact ⟨v', w', fun ty => hr, by simpa [tvals] using h2, h3, h5⟩
theorem bwide (l : List Bool) (i : Nat) (hi : i < (l.map bcell).length) : (l.map bcell)[i].length = 1 := by rw [List.getElem_map]; rfl
theorem own_brow {w : World} {B : Nat} {v : Value} {l : List Bool} (h : w.ownsRow B 4 1 v l.length (tvals l)) (h0 : 0 < l.length) : ∃ R c, v = .slice (some ⟨R, 0, none⟩) l.length c ∧ B ≤ R ∧ BRow R l w ∧ l.length ≤ c := by
  have hv : v ≠ .slice none 0 0 := by
    intro e
    rcases h.2 with ⟨_, h1⟩ | ⟨g, cap, cur, e2, _⟩
    · omega
    · rw [e] at e2; cases e2
  have h9 := h
  rw [← tvals_flat] at h
  obtain ⟨R, cap, e, hR, hrow⟩ := GRow.ofOwns (rows := l.map bcell) (bwide l) h (by simp) hv
  rw [e] at h9
  exact ⟨R, cap, e, hR, hrow, (rw_cap h9).1⟩
theorem own_bools {w : World} {B : Nat} {v : Value} {l : List Bool} (h : w.ownsRow B 4 1 v l.length (tvals l)) : ∃ b c, v = .slice b l.length c ∧ OwnB B w.heap.size b l w := by
  by_cases h0 : 0 < l.length
  · obtain ⟨R, c, e, hR, hrow, -⟩ := own_brow h h0
    exact ⟨_, c, e, Or.inr ⟨R, hR, hrow.lt, rfl, hrow⟩⟩
  · obtain rfl : l = [] := List.eq_nil_of_length_eq_zero (by omega)
    obtain ⟨a, c, e⟩ := rw_form h
    exact ⟨a, c, e, Or.inl rfl⟩
/-- an append whose run is known -/
theorem wpList_append_run {P : Program} {ops : Array Oper} {rest : List Oper} {o : Oper} {a : Act} {w : World} {Q : Exit → Act → World → Prop}
    (hg : o.guard = none) (s x : Operand) (t : TypeId) (hop : o.op = Op.call { callee := Callee.builtin Builtin.append, args := #[s, x], argTypes := #[t, t] })
    (v y : Value) (hs : a.eval s = v) (hx : a.eval x = y) (v' : Value) (w' : World) (hrun : ∀ ty, (Builtin.append_ #[t, t] ty #[v, y]).run P w = .ok v' w') (h : wpList P ops Q rest (a.put o.dst v') w') :
    wpList P ops Q (o :: rest) a w :=
  wpList_plain hg fun _ hK => by
    unfold Oper.wp
    simp [execOp, hop, resolve, invoke, builtin, hs, hx, hrun, Result.andThen]
    exact hK _ _ h
theorem svals_snoc (l : List ByteArray) (s : ByteArray) : svals (l ++ [s]) = svals l ++ [.string s] := by simp [svals]
def fvals (l : List Fr) : List Value := (l.map fcells).flatten
theorem fvals_len (l : List Fr) : (fvals l).length = l.length * 3 := by
  unfold fvals
  rw [flat_len 3 (l.map fcells) (fun i hi => by rw [List.getElem_map]; rfl), List.length_map]
theorem fwide (l : List Fr) (i : Nat) (hi : i < (l.map fcells).length) : (l.map fcells)[i].length = 3 := by rw [List.getElem_map]; rfl
theorem own_frow {w : World} {B : Nat} {v : Value} {l : List Fr} (h : w.ownsRow B 72 3 v l.length (fvals l)) (h0 : 0 < l.length) : ∃ R c, v = .slice (some ⟨R, 0, none⟩) l.length c ∧ B ≤ R ∧ FRow R l w ∧ l.length ≤ c := by
  have hv : v ≠ .slice none 0 0 := by
    intro e
    rcases h.2 with ⟨_, h1⟩ | ⟨g, cap, cur, e2, _⟩
    · omega
    · rw [e] at e2; cases e2
  have h9 := h
  unfold fvals at h
  obtain ⟨R, cap, e, hR, hrow⟩ := GRow.ofOwns (rows := l.map fcells) (fwide l) h (by simp) hv
  rw [e] at h9
  exact ⟨R, cap, e, hR, hrow, (rw_cap h9).1⟩
theorem own_frs {w : World} {B : Nat} {v : Value} {l : List Fr} (h : w.ownsRow B 72 3 v l.length (fvals l)) : ∃ b c, v = .slice b l.length c ∧ OwnF B w.heap.size b l w := by
  by_cases h0 : 0 < l.length
  · obtain ⟨R, c, e, hR, hrow, -⟩ := own_frow h h0
    exact ⟨_, c, e, Or.inr ⟨R, hR, hrow.lt, rfl, hrow⟩⟩
  · obtain rfl : l = [] := List.eq_nil_of_length_eq_zero (by omega)
    obtain ⟨a, c, e⟩ := rw_form h
    exact ⟨a, c, e, Or.inl rfl⟩
theorem fvals_at (l : List Fr) (j : Nat) (h : j < l.length * 3) (hr : j < (fvals l).length) (W : World) (b off : Nat) (hc : ∀ i (hi : i < l.length), W.cell? ⟨b, off + i * 3, none⟩ = some (.bool l[i].back) ∧ W.cell? ⟨b, off + i * 3 + 1, none⟩ = some (.int .i64 l[i].no) ∧ W.cell? ⟨b, off + i * 3 + 2, none⟩ = some (.string l[i].tx)) :
    W.cell? ⟨b, off + j, none⟩ = some (fvals l)[j] := by
  have hi : j / 3 < l.length := by omega
  have hf := flat_at 3 (l.map fcells) (fun i hi => by rw [List.getElem_map]; rfl) (j / 3) (by rw [List.length_map]; exact hi) (j % 3) (by omega)
  have e : j / 3 * 3 + j % 3 = j := by omega
  rw [e, List.getElem_map] at hf
  have hg : (fvals l)[j]? = (fcells l[j / 3])[j % 3]? := hf
  rw [List.getElem?_eq_getElem hr] at hg
  rw [hg]
  obtain ⟨c0, c1, c2⟩ := hc (j / 3) hi
  rcases (show j % 3 = 0 ∨ j % 3 = 1 ∨ j % 3 = 2 by omega) with h | h | h
  · rw [h, show off + j = off + j / 3 * 3 by omega, c0]; rfl
  · rw [h, show off + j = off + j / 3 * 3 + 1 by omega, c1]; rfl
  · rw [h, show off + j = off + j / 3 * 3 + 2 by omega, c2]; rfl
theorem fvals_one (l : List Fr) (u : Value) (h : u ∈ fvals l) : u.oneCell' = true := by
  unfold fvals at h
  rw [List.mem_flatten] at h
  obtain ⟨r, hr, hu⟩ := h
  obtain ⟨x, _, rfl⟩ := List.mem_map.1 hr
  simp [fcells] at hu
  rcases hu with rfl | rfl | rfl <;> rfl
/-- frames appended to an own row -/
theorem app_fr (W : World) (lo : Nat) (v : Value) (n : Nat) (xs : List Value) (hown : W.ownsRow lo 72 3 v n xs) (a : Option Addr) (c : Nat) (l : List Fr) (hI : Fs W.heap.size a l W) (hm : n + l.length ≤ 10000) (hlo : lo ≤ W.heap.size) :
    ∃ v' w', (∀ ty, (Builtin.append_ #[25, 25] ty #[v, .slice a l.length c]).run Try.prog W = .ok v' w') ∧ w'.ownsRow lo 72 3 v' (n + l.length) (xs ++ fvals l) ∧ W.grownBy w' v.ownBlock ∧ (v'.ownBlock = v.ownBlock ∨ v'.ownBlock = some W.heap.size) := by
  obtain ⟨i0, hi, hz0, hz1, hz2⟩ := info_parts infoFr
  by_cases h0 : 0 < l.length
  · obtain ⟨b, off, rfl, hb, hc⟩ := hI.cell h0
    exact app_any 25 72 i0 _ 3 32 Try.underlying25 hi hz0 hz1 hz2 rfl (by decide) W lo v n xs hown b off l.length c (fvals l) (fvals_len l) (fun j hj => fvals_at l j (by rw [fvals_len] at hj; exact hj) hj W b off hc) (fvals_one l) hm (by decide) hlo
  · obtain rfl : l = [] := List.eq_nil_of_length_eq_zero (by omega)
    obtain ⟨a', c', rfl⟩ := rw_form hown
    have hcap := (rw_cap hown).1
    cases a with
    | none => exact ⟨_, W, fun ty => app_none 25 72 i0 Try.underlying25 hi W a' n c' c hcap ty, by simpa [fvals] using hown, ⟨rfl, rfl, rfl, Nat.le_refl _, fun _ _ _ => rfl⟩, Or.inl rfl⟩
    | some ad =>
      obtain ⟨v', w', hr, h2, h3, _, h5⟩ := run_append_own_at W lo 25 25 72 i0 _ 3 32 Try.underlying25 hi hz0 hz1 hz2 rfl (by decide) _ n xs hown ad 0 c [] rfl (fun j u h => by cases h) (fun u h => by cases h) (by unfold maxLen; simp at hm; omega) (by simp at hm ⊢; omega) hlo
      exact ⟨v', w', fun ty => hr, by simpa [fvals] using h2, h3, h5⟩
theorem fvals_snoc (l : List Fr) (r : Fr) : fvals (l ++ [r]) = fvals l ++ fvals [r] := by simp [fvals]
theorem fvals_app (l m : List Fr) : fvals (l ++ m) = fvals l ++ fvals m := by simp [fvals]
theorem frow_one (w : World) (b : Bool) (n : Int) (D : ByteArray) : Fs (w.alloc (.cells #[.bool b, .int .i64 n, .string D] 72)).heap.size (some ⟨w.heap.size, 0, none⟩) [⟨b, n, D⟩] (w.alloc (.cells #[.bool b, .int .i64 n, .string D] 72)) := by
  refine ⟨fun _ => ⟨w.heap.size, 0, rfl, by simp, fun i hi j hj => ?_⟩⟩
  have hi' : i = 0 := by simpa using hi
  subst hi'
  rw [box_cell (heap_last _ _)]
  rcases (show j = 0 ∨ j = 1 ∨ j = 2 by omega) with rfl | rfl | rfl <;> rfl
theorem app_nil (D : ByteArray) : D ++ (⟨#[]⟩ : ByteArray) = D := by
  rw [← ba_app]; simp
theorem srow_one (w : World) (D : ByteArray) : Ss (w.alloc (.cells #[.string D] 9)).heap.size (some ⟨w.heap.size, 0, none⟩) [D] (w.alloc (.cells #[.string D] 9)) := by
  refine ⟨fun _ => ⟨w.heap.size, 0, rfl, by simp, fun i hi j hj => ?_⟩⟩
  have hi' : i = 0 := by simpa using hi
  subst hi'
  obtain rfl : j = 0 := by omega
  rw [box_cell (heap_last _ _)]
  rfl
set_option maxHeartbeats 2000000 in
theorem copyTexts_any (a : Option Addr) (cap : Nat) (l : List ByteArray) (w : World) (hn : l.length ≤ 9999) (hz : ∀ k (h : k < l.length), l[k].size ≤ 1048576) (hL : Ss w.heap.size a l w) :
    Calls Try.prog 43 #[.slice a l.length cap] w fun e w' => ∃ v, e = .returned v ∧ w'.ownsRow w.heap.size 9 1 v l.length (svals l) ∧ Below w.heap.size w w' := by
  have HL := hid hL
  have HZ := hid hz
  clear hL hz
  go_enter Try.func43, Try.ntmps43
  go_wp2_with fail
  go_loopw [3, 8] (fun o i wr => ∃ (k : Nat) (o1 : Value), k ≤ l.length ∧ i = .int .i64 k ∧ o = o1 ∧ wr.ownsRow w.heap.size 9 1 o1 k (svals (l.take k)) ∧ Below w.heap.size w wr) (fun _ i _ => l.length - (intOf i).toNat)
  case atStart => exact ⟨0, _, Nat.zero_le _, rfl, rfl, World.ownsRow_nil _ _ _ _, Below.refl _ _⟩
  case round =>
    obtain ⟨k, _, hk, rfl, rfl, hown, hbel⟩ := hrel
    have HOWN := hid hown
    have HBEL := hid hbel
    have hszr := hbel.size
    clear hown hbel
    by_cases hlt : k < l.length
    · obtain ⟨b, off, rfl, hb, hcells⟩ := HL.out.cell (by omega)
      have c0 := (HBEL.out.cell (p := ⟨b, off + k, none⟩) hb).trans (hcells k hlt)
      have HTK := hid (take_snoc l k hlt)
      have HJ : Hid (∀ v, Calls Try.prog 65 #[.string l[k], .string ⟨#[]⟩] v fun e w' => e = .returned (.string l[k]) ∧ Below v.heap.size v w') := fun v => by
        have := join_any l[k] ⟨#[]⟩ v (HZ.out k hlt) (by decide)
        rw [app_nil] at this
        exact this
      clear hcells
      generalize l[k] = D at *
      go_wp2_with fail
      refine (HJ.out _).mono ?_
      rintro e w9 ⟨rfl, b9⟩
      have HB9 : Hid (Below w.heap.size w w9) := HBEL.out.trans (b9.mono hszr)
      have HBA : Hid (Below w.heap.size w (w9.alloc (.cells #[.string D] 9))) := HB9.out.trans ((boxB _ _).mono HB9.out.size)
      have hown9 := (rw_below HOWN.out b9).alloc (.cells #[.string D] 9)
      obtain ⟨v', w', r1, o1, g1, -⟩ := app_str (w9.alloc (.cells #[.string D] 9)) w.heap.size u3 k (svals (l.take k)) hown9 (some ⟨w9.heap.size, 0, none⟩) 1 [D] (srow_one w9 D) (by show k + 1 ≤ 10000; omega) HBA.out.size
      have HO : Hid (w'.ownsRow w.heap.size 9 1 v' (k + 1) (svals (l.take (k + 1)))) := by
        show w'.ownsRow w.heap.size 9 1 v' (k + 1) (svals (l.take (k + 1)))
        rw [HTK.out, svals_snoc]
        exact o1
      have HB' : Hid (Below w.heap.size w w') := HBA.out.trans (below_of_grown g1 HBA.out.size (fun i hi => (HOWN.out.lt i hi).1))
      clear b9 hown9 o1 g1 HJ
      go_wp2_with (at_builtin; refine wpList_append_run rfl (.tmp 12) (.tmp 15) 22 rfl _ _ rfl rfl _ _ r1 ?_)
      go_roundw
      case rel => exact ⟨k + 1, _, by omega, by go_num, rfl, HO.out, HB'.out⟩
      case measure => simp [intOf]; omega
    · obtain rfl : k = l.length := by omega
      rw [List.take_length] at HOWN
      go_wp2
      go_ret
      exact ⟨u3, rfl, HOWN.out, HBEL.out⟩
/-- an append in a region that draws, whose run is known -/
theorem step_append_run {P : Program} {ops : Array Oper} {o : Oper} {a : Act} {w : World} {K : Act → World → Prop} {Q : Exit → Act → World → Prop} {E : Prop}
    (hg : o.guard = none) (s x : Operand) (t : TypeId) (hop : o.op = Op.call { callee := Callee.builtin Builtin.append, args := #[s, x], argTypes := #[t, t] })
    (v y : Value) (hs : a.eval s = v) (hx : a.eval x = y) (v' : Value) (w' : World) (hrun : ∀ ty, (Builtin.append_ #[t, t] ty #[v, y]).run P w = .ok v' w') (hK : K (a.put o.dst v') w') :
    if Region.wanted o (yielded ops a.tmps) = true then Oper.wp P o a w K Q else E := by
  have hw : Region.wanted o (yielded ops a.tmps) = true := by simp [Region.wanted, hg]
  rw [if_pos hw]
  unfold Oper.wp
  simp [execOp, hop, resolve, invoke, builtin, hs, hx, hrun, Result.andThen]
  exact hK
end Go.Proofs.Ytaiilhhkfjlkoaa
