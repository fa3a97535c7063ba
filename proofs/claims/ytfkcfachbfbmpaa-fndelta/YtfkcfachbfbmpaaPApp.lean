/- Rows of one's own of whatever kind, appended to and read. -/
import Derived.Test.YtfkcfachbfbmpaaPSz
import Derived.Test.YtfkcfachbfbmpaaAApp
namespace Go.Proofs.Ytfkcfachbfbmpaa
set_option maxRecDepth 100000
open Go Go.ChangeShapes Go.WideShapes Go.ChangeAt Go.RowKit
/-- a kind of elements: the slices' type, their own, how many cells, which -/
structure Kd (α : Type) where
  t : TypeId
  e : TypeId
  sz : Nat
  cs : α → List Value
structure KdOk {α : Type} (K : Kd α) : Prop where
  wide : ∀ x, (K.cs x).length = K.sz
  one : ∀ x, ∀ u ∈ K.cs x, u.oneCell' = true
  pos : 0 < K.sz
  und : Try.prog.underlying K.t = some (.slice K.e)
  info : ∃ i z bs, Try.prog.info? K.e = some i ∧ i.zero = some z ∧ i.size = K.sz ∧ i.bytes = bs ∧ z.cells.size = K.sz ∧ bs ≤ 64
def gvals {α : Type} (K : Kd α) (l : List α) : List Value := (l.map K.cs).flatten
theorem gvals_app {α : Type} (K : Kd α) (l m : List α) : gvals K (l ++ m) = gvals K l ++ gvals K m := by simp [gvals]
theorem gvals_len {α : Type} {K : Kd α} (hK : KdOk K) (l : List α) : (gvals K l).length = l.length * K.sz := by
  unfold gvals
  induction l with
  | nil => simp
  | cons x l ih => rw [List.map_cons, List.flatten_cons, List.length_append, ih, hK.wide, List.length_cons, Nat.add_mul]; omega
/-- a list of one's own that may grow -/
def GL {α : Type} (K : Kd α) (lo : Nat) (v : Value) (l : List α) (w : World) : Prop := w.ownsRow lo K.e K.sz v l.length (gvals K l)
theorem GL.nil {α : Type} (K : Kd α) (lo : Nat) (w : World) : GL K lo (.slice none 0 0) [] w := World.ownsRow_nil _ _ _ _
theorem GL.below {α : Type} {K : Kd α} {lo : Nat} {v : Value} {l : List α} {w w' : World} (h : GL K lo v l w) (g : Below w.heap.size w w') : GL K lo v l w' := rw_below h g
theorem GL.mono {α : Type} {K : Kd α} {lo lo' : Nat} {v : Value} {l : List α} {w : World} (h : GL K lo v l w) (g : lo' ≤ lo) : GL K lo' v l w := rw_mono h g
theorem GL.keep {α : Type} {K : Kd α} {lo : Nat} {v : Value} {l : List α} {w w' : World} (h : GL K lo v l w) (g : ∀ k, v.ownBlock = some k → w'.heap[k]? = w.heap[k]?) : GL K lo v l w' := rw_keep h g
/-- what one owns, as it is read -/
theorem GL.own {α : Type} {K : Kd α} (hK : KdOk K) {lo : Nat} {v : Value} {l : List α} {w : World} (h : GL K lo v l w) :
    ∃ b c, v = .slice b l.length c ∧ (l = [] ∨ ∃ R, lo ≤ R ∧ R < w.heap.size ∧ b = some ⟨R, 0, none⟩ ∧ GRow R K.sz (l.map K.cs) w) ∧ l.length ≤ c := by
  have h9 : w.ownsRow lo K.e K.sz v l.length (gvals K l) := h
  by_cases h0 : 0 < l.length
  · have hv : v ≠ .slice none 0 0 := by
      intro e
      rcases h9.2 with ⟨_, h1⟩ | ⟨g, cap, cur, e2, _⟩
      · omega
      · rw [e] at e2; cases e2
    obtain ⟨R, cap, e, hR, hrow⟩ := GRow.ofOwns (rows := l.map K.cs) (fun i hi => by rw [List.getElem_map]; exact hK.wide _) h9 (by simp) hv
    rw [e] at h9
    exact ⟨_, cap, e, Or.inr ⟨R, hR, hrow.lt, rfl, hrow⟩, (rw_cap h9).1⟩
  · obtain rfl : l = [] := List.eq_nil_of_length_eq_zero (by omega)
    obtain ⟨a, c, e⟩ := rw_form h9
    exact ⟨a, c, e, Or.inl rfl, Nat.zero_le _⟩
/-- others are appended -/
theorem GL.app {α : Type} {K : Kd α} (hK : KdOk K) {lo : Nat} {v : Value} {l : List α} {w : World} (h : GL K lo v l w) (hlo : lo ≤ w.heap.size) (a : Option Addr) (c : Nat) (m : List α) (hI : GSl w.heap.size K.sz a (m.map K.cs) w) (hm : l.length + m.length ≤ 4194304) :
    ∃ v' w', (∀ ty, (Builtin.append_ #[K.t, K.t] ty #[v, .slice a m.length c]).run Try.prog w = .ok v' w') ∧ GL K lo v' (l ++ m) w' ∧ Below lo w w' ∧ w.grownBy w' v.ownBlock ∧ (v'.ownBlock = v.ownBlock ∨ v'.ownBlock = some w.heap.size) := by
  have h9 : w.ownsRow lo K.e K.sz v l.length (gvals K l) := h
  obtain ⟨i, z, bs, hi, hz, hs, hb, hzs, hbs⟩ := hK.info
  have hbb : (l.length + m.length) * bs ≤ 140737488355328 := Nat.le_trans (Nat.mul_le_mul hm hbs) (by decide)
  have key : ∀ (ad : Addr) (hn : ∀ j u, (gvals K m)[j]? = some u → w.cell? (ad.add j) = some u), ∃ v' w', (∀ ty, (Builtin.append_ #[K.t, K.t] ty #[v, .slice (some ad) m.length c]).run Try.prog w = .ok v' w') ∧ GL K lo v' (l ++ m) w' ∧ Below lo w w' ∧ w.grownBy w' v.ownBlock ∧ (v'.ownBlock = v.ownBlock ∨ v'.ownBlock = some w.heap.size) := by
    intro ad hn
    obtain ⟨v', w', hr, h2, h3, _, h5⟩ := run_append_own_at w lo K.t K.t K.e i z K.sz bs hK.und hi hz hs hb hzs hK.pos v l.length (gvals K l) h9 ad m.length c (gvals K m) (gvals_len hK m) hn (fun u hu => by
      unfold gvals at hu
      obtain ⟨y, hy, hu⟩ := List.mem_flatten.1 hu
      obtain ⟨x, _, rfl⟩ := List.mem_map.1 hy
      exact hK.one x u hu) (by unfold maxLen; omega) hbb hlo
    refine ⟨v', w', fun ty => hr, ?_, below_of_grown h3 hlo (fun k hk => (World.ownsRow.lt h9 k hk).1), h3, h5⟩
    unfold GL
    rw [List.length_append, gvals_app]
    exact h2
  by_cases h0 : 0 < m.length
  · obtain ⟨b, off, rfl, hb, hc⟩ := GSl.cell hI (by simpa using h0)
    refine key _ (fun j u hu => ?_)
    obtain ⟨hj, rfl⟩ := List.getElem?_eq_some_iff.1 hu
    have hj' : j < m.length * K.sz := by rw [gvals_len hK] at hj; exact hj
    have hp := hK.pos
    have hq : j / K.sz < m.length := (Nat.div_lt_iff_lt_mul hp).2 hj'
    have hr : j % K.sz < K.sz := Nat.mod_lt _ hp
    have hf := flat_at K.sz (m.map K.cs) (fun i hi => by rw [List.getElem_map]; exact hK.wide _) (j / K.sz) (by rw [List.length_map]; exact hq) (j % K.sz) hr
    have e : j / K.sz * K.sz + j % K.sz = j := by rw [Nat.mul_comm]; exact Nat.div_add_mod j K.sz
    rw [e] at hf
    have hadd : (⟨b, off, none⟩ : Addr).add j = ⟨b, off + j, none⟩ := by unfold Addr.add; split <;> simp_all
    have hcc := hc (j / K.sz) (by rw [List.length_map]; exact hq) (j % K.sz) hr
    rw [Nat.add_assoc, e] at hcc
    rw [hadd, hcc, ← hf]
    exact List.getElem?_eq_getElem (l := gvals K m) hj
  · obtain rfl : m = [] := List.eq_nil_of_length_eq_zero (by omega)
    cases a with
    | some ad => exact key ad (fun j u hu => by simp [gvals] at hu)
    | none =>
      obtain ⟨a', c', rfl⟩ := rw_form h9
      have hcap := (rw_cap h9).1
      exact ⟨_, w, fun ty => app_none K.t K.e i hK.und hi w a' l.length c' c hcap ty, by rw [List.append_nil]; exact h, Below.refl _ _, ⟨rfl, rfl, rfl, Nat.le_refl _, fun _ _ _ => rfl⟩, Or.inl rfl⟩
/-- one element in a box of its own, read as a list -/
theorem grow_one {α : Type} {K : Kd α} (hK : KdOk K) (w : World) (x : α) : GSl (w.alloc (.cells (K.cs x).toArray K.e)).heap.size K.sz (some ⟨w.heap.size, 0, none⟩) ([x].map K.cs) (w.alloc (.cells (K.cs x).toArray K.e)) := by
  refine ⟨fun _ => ⟨w.heap.size, 0, rfl, by simp, fun i hi j hj => ?_⟩⟩
  have hi' : i = 0 := by simpa using hi
  subst hi'
  rw [box_cell (heap_last _ _)]
  have hj' : j < (K.cs x).length := by rw [hK.wide]; exact hj
  simp [hj']
/-- one is appended -/
theorem GL.push {α : Type} {K : Kd α} (hK : KdOk K) {lo : Nat} {v : Value} {l : List α} {w : World} (h : GL K lo v l w) (hlo : lo ≤ w.heap.size) (x : α) (hm : l.length + 1 ≤ 4194304) :
    ∃ v' w', (∀ ty, (Builtin.append_ #[K.t, K.t] ty #[v, .slice (some ⟨w.heap.size, 0, none⟩) 1 1]).run Try.prog (w.alloc (.cells (K.cs x).toArray K.e)) = .ok v' w') ∧ GL K lo v' (l ++ [x]) w' ∧ Below lo w w' ∧ w.heap.size < w'.heap.size ∧ (w.alloc (.cells (K.cs x).toArray K.e)).grownBy w' v.ownBlock ∧ (v'.ownBlock = v.ownBlock ∨ v'.ownBlock = some (w.heap.size + 1)) := by
  have hb := boxB w (.cells (K.cs x).toArray K.e)
  obtain ⟨v', w', h1, h2, h3, h4, h5⟩ := (h.below hb).app hK (Nat.le_trans hlo hb.size) (some ⟨w.heap.size, 0, none⟩) 1 [x] (grow_one hK w x) hm
  refine ⟨v', w', h1, h2, (hb.mono hlo).trans h3, ?_, h4, ?_⟩
  · have := h3.size; rw [heap_size] at this; omega
  · rw [heap_size] at h5; exact h5
def KI : Kd Int := ⟨43, 3, 1, icell⟩
def KS : Kd ByteArray := ⟨78, 9, 1, scell⟩
theorem KI.ok : KdOk KI := ⟨fun _ => rfl, fun x u hu => by obtain rfl := List.mem_singleton.1 hu; rfl, by decide, Try.underlying43, by
  obtain ⟨i0, hi, hz0, hz1, hz2⟩ := info_parts infoI
  exact ⟨i0, _, _, hi, hz0, hz1, hz2, rfl, by decide⟩⟩
theorem KS.ok : KdOk KS := ⟨fun _ => rfl, fun x u hu => by obtain rfl := List.mem_singleton.1 hu; rfl, by decide, Try.underlying78, by
  obtain ⟨i0, hi, hz0, hz1, hz2⟩ := info_parts infoStrV
  exact ⟨i0, _, _, hi, hz0, hz1, hz2, rfl, by decide⟩⟩
theorem GL.ints {lo : Nat} {v : Value} {l : List Int} {w : World} (h : GL KI lo v l w) : ∃ b c, v = .slice b l.length c ∧ OwnI lo w.heap.size b l w ∧ l.length ≤ c := h.own KI.ok
theorem GL.strs {lo : Nat} {v : Value} {l : List ByteArray} {w : World} (h : GL KS lo v l w) : ∃ b c, v = .slice b l.length c ∧ OwnS lo w.heap.size b l w ∧ l.length ≤ c := h.own KS.ok -- 78
theorem GL.pushI {lo : Nat} {v : Value} {l : List Int} {w : World} (h : GL KI lo v l w) (hlo : lo ≤ w.heap.size) (x : Int) (hm : l.length + 1 ≤ 4194304) :
    ∃ v' w', (∀ ty, (Builtin.append_ #[43, 43] ty #[v, .slice (some ⟨w.heap.size, 0, none⟩) 1 1]).run Try.prog (w.alloc (.cells #[.int .i64 x] 3)) = .ok v' w') ∧ GL KI lo v' (l ++ [x]) w' ∧ Below lo w w' ∧ w.heap.size < w'.heap.size ∧ (w.alloc (.cells #[.int .i64 x] 3)).grownBy w' v.ownBlock ∧ (v'.ownBlock = v.ownBlock ∨ v'.ownBlock = some (w.heap.size + 1)) := h.push KI.ok hlo x hm
theorem GL.pushS {lo : Nat} {v : Value} {l : List ByteArray} {w : World} (h : GL KS lo v l w) (hlo : lo ≤ w.heap.size) (x : ByteArray) (hm : l.length + 1 ≤ 4194304) :
    ∃ v' w', (∀ ty, (Builtin.append_ #[78, 78] ty #[v, .slice (some ⟨w.heap.size, 0, none⟩) 1 1]).run Try.prog (w.alloc (.cells #[.string x] 9)) = .ok v' w') ∧ GL KS lo v' (l ++ [x]) w' ∧ Below lo w w' ∧ w.heap.size < w'.heap.size ∧ (w.alloc (.cells #[.string x] 9)).grownBy w' v.ownBlock ∧ (v'.ownBlock = v.ownBlock ∨ v'.ownBlock = some (w.heap.size + 1)) := h.push KS.ok hlo x hm
end Go.Proofs.Ytfkcfachbfbmpaa
