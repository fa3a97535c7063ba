/- Lists of notes of one's own: appended to. -/
import Derived.Test.YtgompioaknfjgaaUwB
import Derived.Test.YtgompioaknfjgaaVBase
namespace Go.Proofs.Ytgompioaknfjgaa
set_option maxRecDepth 100000
open Go Go.ChangeShapes Go.WideShapes Go.ChangeAt Go.RowKit
def nvals (l : List Nt) : List Value := (l.map ntc).flatten
theorem ntc_wide (l : List Nt) (i : Nat) (hi : i < (l.map ntc).length) : (l.map ntc)[i].length = 5 := by rw [List.getElem_map]; rfl
theorem nvals_len (l : List Nt) : (nvals l).length = l.length * 5 := by
  unfold nvals
  rw [flat_len 5 _ (ntc_wide l), List.length_map]
theorem nvals_at (l : List Nt) (j : Nat) (h : j < (nvals l).length) (W : World) (b off : Nat) (hc : ∀ i (hi : i < (l.map ntc).length) r, r < 5 → W.cell? ⟨b, off + i * 5 + r, none⟩ = (l.map ntc)[i][r]?) : W.cell? ⟨b, off + j, none⟩ = some (nvals l)[j] := by
  have hl := nvals_len l
  have hi : j / 5 < (l.map ntc).length := by rw [List.length_map]; omega
  have hr : j % 5 < 5 := Nat.mod_lt _ (by decide)
  have e1 := hc (j / 5) hi (j % 5) hr
  have e2 := flat_at 5 (l.map ntc) (ntc_wide l) (j / 5) hi (j % 5) hr
  have ej : j / 5 * 5 + j % 5 = j := by omega
  have eo : off + j / 5 * 5 + j % 5 = off + j := by omega
  rw [eo, ← e2, ej] at e1
  rw [e1]
  exact List.getElem?_eq_getElem h
theorem nvals_one (l : List Nt) (u : Value) (h : u ∈ nvals l) : u.oneCell' = true := by
  obtain ⟨row, h1, h2⟩ := List.mem_flatten.1 h
  obtain ⟨n, _, rfl⟩ := List.mem_map.1 h1
  simp [ntc] at h2
  rcases h2 with rfl | rfl | rfl | rfl | rfl <;> rfl
theorem nvals_app (l m : List Nt) : nvals (l ++ m) = nvals l ++ nvals m := by simp [nvals]
theorem app_nt (W : World) (lo : Nat) (v : Value) (n : Nat) (xs : List Value) (hown : W.ownsRow lo 67 5 v n xs) (a : Option Addr) (c : Nat) (l : List Nt) (hI : Nts W.heap.size a l W) (hm : n + l.length ≤ 10000) (hlo : lo ≤ W.heap.size) :
    ∃ v' w', (∀ ty, (Builtin.append_ #[23, 23] ty #[v, .slice a l.length c]).run Try.prog W = .ok v' w') ∧ w'.ownsRow lo 67 5 v' (n + l.length) (xs ++ nvals l) ∧ W.grownBy w' v.ownBlock ∧ (v'.ownBlock = v.ownBlock ∨ v'.ownBlock = some W.heap.size) := by
  obtain ⟨i0, hi, hz0, hz1, hz2⟩ := info_parts infoNt
  by_cases h0 : 0 < l.length
  · obtain ⟨b, off, rfl, hb, hc⟩ := GSl.cell hI (by simpa using h0)
    exact app_any 23 67 i0 _ 5 40 Try.underlying23 hi hz0 hz1 hz2 rfl (by decide) W lo v n xs hown b off l.length c (nvals l) (nvals_len l) (fun j hj => nvals_at l j hj W b off hc) (nvals_one l) hm (by decide) hlo
  · obtain rfl : l = [] := List.eq_nil_of_length_eq_zero (by omega)
    obtain ⟨a', c', rfl⟩ := rw_form hown
    have hcap := (rw_cap hown).1
    cases a with
    | none => exact ⟨_, W, fun ty => app_none 23 67 i0 Try.underlying23 hi W a' n c' c hcap ty, by simpa [nvals] using hown, ⟨rfl, rfl, rfl, Nat.le_refl _, fun _ _ _ => rfl⟩, Or.inl rfl⟩
    | some ad =>
      obtain ⟨v', w', hr, h2, h3, _, h5⟩ := run_append_own_at W lo 23 23 67 i0 _ 5 40 Try.underlying23 hi hz0 hz1 hz2 rfl (by decide) _ n xs hown ad 0 c [] rfl (fun j u h => by cases h) (fun u h => by cases h) (by unfold maxLen; simp at hm; omega) (by simp at hm ⊢; omega) hlo
      exact ⟨v', w', fun ty => hr, by simpa [nvals] using h2, h3, h5⟩
/-- a list of notes of one's own that may grow -/
def AN (lo : Nat) (v : Value) (l : List Nt) (w : World) : Prop := w.ownsRow lo 67 5 v l.length (nvals l)
theorem AN.nil (lo : Nat) (w : World) : AN lo (.slice none 0 0) [] w := World.ownsRow_nil _ _ _ _
theorem AN.below {lo : Nat} {v : Value} {l : List Nt} {w w' : World} (h : AN lo v l w) (g : Below w.heap.size w w') : AN lo v l w' := rw_below h g
theorem AN.mono {lo lo' : Nat} {v : Value} {l : List Nt} {w : World} (h : AN lo v l w) (g : lo' ≤ lo) : AN lo' v l w := rw_mono h g
theorem AN.row {lo : Nat} {v : Value} {l : List Nt} {w : World} (h : AN lo v l w) (h0 : 0 < l.length) : ∃ R c, v = .slice (some ⟨R, 0, none⟩) l.length c ∧ lo ≤ R ∧ NtRow R l w ∧ l.length ≤ c := by
  have h9 : w.ownsRow lo 67 5 v l.length (nvals l) := h
  have hv : v ≠ .slice none 0 0 := by
    intro e
    rcases h9.2 with ⟨_, h1⟩ | ⟨g, cap, cur, e2, _⟩
    · omega
    · rw [e] at e2; cases e2
  have h8 := h9
  unfold nvals at h8
  obtain ⟨R, cap, e, hR, hrow⟩ := GRow.ofOwns (rows := l.map ntc) (ntc_wide l) h8 (by simp) hv
  rw [e] at h9
  exact ⟨R, cap, e, hR, hrow, (rw_cap h9).1⟩
theorem AN.own {lo : Nat} {v : Value} {l : List Nt} {w : World} (h : AN lo v l w) : ∃ b c, v = .slice b l.length c ∧ OwnNt lo w.heap.size b l w ∧ l.length ≤ c := by
  by_cases h0 : 0 < l.length
  · obtain ⟨R, c, e, hR, hrow, hc⟩ := h.row h0
    exact ⟨_, c, e, Or.inr ⟨R, hR, hrow.lt, rfl, hrow⟩, hc⟩
  · obtain rfl : l = [] := List.eq_nil_of_length_eq_zero (by omega)
    have h9 : w.ownsRow lo 67 5 v 0 (nvals []) := h
    obtain ⟨a, c, e⟩ := rw_form h9
    subst e
    exact ⟨a, c, rfl, Or.inl rfl, (rw_cap h9).1⟩
theorem AN.app {lo : Nat} {v : Value} {l : List Nt} {w : World} (h : AN lo v l w) (hlo : lo ≤ w.heap.size) (a : Option Addr) (c : Nat) (m : List Nt) (hI : Nts w.heap.size a m w) (hm : l.length + m.length ≤ 10000) :
    ∃ v' w', (∀ ty, (Builtin.append_ #[23, 23] ty #[v, .slice a m.length c]).run Try.prog w = .ok v' w') ∧ AN lo v' (l ++ m) w' ∧ Below lo w w' ∧ w.grownBy w' v.ownBlock ∧ (v'.ownBlock = v.ownBlock ∨ v'.ownBlock = some w.heap.size) := by
  obtain ⟨v', w', h1, h2, h3, h4⟩ := app_nt w lo v l.length (nvals l) h a c m hI hm hlo
  refine ⟨v', w', h1, ?_, below_of_grown h3 hlo (fun k hk => (World.ownsRow.lt h k hk).1), h3, h4⟩
  unfold AN
  rw [List.length_append, nvals_app]
  exact h2
theorem nts_one (w : World) (n : Nt) : Nts (w.alloc (.cells #[.int .i64 n.kd, .int .i64 n.wh, .int .i64 n.cl, .int .i64 n.ws, .int .i64 n.is] 67)).heap.size (some ⟨w.heap.size, 0, none⟩) [n] (w.alloc (.cells #[.int .i64 n.kd, .int .i64 n.wh, .int .i64 n.cl, .int .i64 n.ws, .int .i64 n.is] 67)) := by
  refine ⟨fun _ => ⟨w.heap.size, 0, rfl, by simp, fun i hi j hj => ?_⟩⟩
  have hi' : i = 0 := by simpa using hi
  subst hi'
  have hL := heap_last w (.cells #[.int .i64 n.kd, .int .i64 n.wh, .int .i64 n.cl, .int .i64 n.ws, .int .i64 n.is] 67)
  have : j = 0 ∨ j = 1 ∨ j = 2 ∨ j = 3 ∨ j = 4 := by omega
  rcases this with rfl | rfl | rfl | rfl | rfl <;> (rw [box_cell hL]; rfl)
/-- one note is appended -/
theorem AN.push {lo : Nat} {v : Value} {l : List Nt} {w : World} (h : AN lo v l w) (hlo : lo ≤ w.heap.size) (n : Nt) (hm : l.length + 1 ≤ 10000) :
    ∃ v' w', (∀ ty, (Builtin.append_ #[23, 23] ty #[v, .slice (some ⟨w.heap.size, 0, none⟩) 1 1]).run Try.prog (w.alloc (.cells #[.int .i64 n.kd, .int .i64 n.wh, .int .i64 n.cl, .int .i64 n.ws, .int .i64 n.is] 67)) = .ok v' w') ∧ AN lo v' (l ++ [n]) w' ∧ Below lo w w' ∧ (w.alloc (.cells #[.int .i64 n.kd, .int .i64 n.wh, .int .i64 n.cl, .int .i64 n.ws, .int .i64 n.is] 67)).grownBy w' v.ownBlock := by
  have hb := boxB w (.cells #[.int .i64 n.kd, .int .i64 n.wh, .int .i64 n.cl, .int .i64 n.ws, .int .i64 n.is] 67)
  obtain ⟨v', w', h1, h2, h3, h4, _⟩ := (h.below hb).app (Nat.le_trans hlo hb.size) _ 1 [n] (nts_one w n) hm
  exact ⟨v', w', h1, h2, (hb.mono hlo).trans h3, h4⟩
theorem AN.lit (w : World) : AN w.heap.size (.slice (some ⟨w.heap.size, 0, none⟩) 0 0) [] (w.alloc (.cells #[] 67)) := by
  have := World.ownsRow_made w (base := w.heap.size) (e := 67) (size := 5) #[] 0 (Nat.le_refl _) (by unfold maxLen; omega) rfl
  exact this
end Go.Proofs.Ytgompioaknfjgaa
