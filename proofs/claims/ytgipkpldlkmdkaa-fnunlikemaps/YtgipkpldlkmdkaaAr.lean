/- Arrays of sixteen numbers: in memory, and as values. -/
import Derived.Test.YtgipkpldlkmdkaaMPlain
import Derived.Test.YtgipkpldlkmdkaaGRow
import Derived.Test.YtgipkpldlkmdkaaBut
import Derived.Deep.WholeRow
import Derived.Laws.ResultCell
import Derived.Test.YtgipkpldlkmdkaaChecked
import Derived.ProofKit
namespace Go.Proofs.Ytgipkpldlkmdkaa
set_option maxRecDepth 100000
open Go Go.ChangeShapes Go.WideShapes Go.ChangeAt Go.RowKit G00541
def arr (f : Nat → Int) : Array Value := ((List.range 16).map fun b => Value.int .i64 (f b)).toArray
theorem arr_size (f : Nat → Int) : (arr f).size = 16 := by simp [arr]
theorem arr_at (f : Nat → Int) (i : Nat) (h : i < 16) : (arr f)[i]? = some (.int .i64 (f i)) := by simp [arr, h]
theorem arr_one (f : Nat → Int) : (arr f).all (·.oneCell') = true := by
  rw [Array.all_eq_true]
  intro i hi
  have h16 : i < 16 := by rw [arr_size] at hi; exact hi
  have := arr_at f i h16
  rw [Array.getElem?_eq_getElem hi] at this
  rw [Option.some.inj this]
  rfl
theorem arr_ext (f g : Nat → Int) (h : ∀ b, b < 16 → f b = g b) : arr f = arr g := by
  unfold arr
  congr 1
  apply List.map_congr_left
  intro b hb
  rw [h b (List.mem_range.1 hb)]
theorem arr_inj (f g : Nat → Int) (h : arr f = arr g) (b : Nat) (hb : b < 16) : f b = g b := by
  have h1 := arr_at f b hb
  rw [h, arr_at g b hb] at h1
  simpa using h1.symm
def upd (f : Nat → Int) (i : Nat) (v : Int) : Nat → Int := fun b => if b = i then v else f b
theorem upd_same (f : Nat → Int) (i : Nat) (v : Int) : upd f i v i = v := if_pos rfl
theorem upd_other (f : Nat → Int) (i : Nat) (v : Int) (b : Nat) (h : b ≠ i) : upd f i v b = f b := if_neg h
theorem arr_set (f : Nat → Int) (i : Nat) (v : Int) : (arr f).setIfInBounds i (.int .i64 v) = arr (upd f i v) := by
  apply Array.ext_getElem?
  intro j
  rw [Array.getElem?_setIfInBounds]
  by_cases hj : j < 16
  · by_cases e : i = j
    · subst e
      rw [if_pos rfl, if_pos (by rw [arr_size]; exact hj), arr_at _ _ hj, upd_same]
    · rw [if_neg e, arr_at _ _ hj, arr_at _ _ hj, upd_other _ _ _ _ (fun h => e h.symm)]
  · have h1 : (arr f)[j]? = none := Array.getElem?_eq_none (by rw [arr_size]; omega)
    have h2 : (arr (upd f i v))[j]? = none := Array.getElem?_eq_none (by rw [arr_size]; omega)
    rw [h1, h2]
    split
    · rw [if_neg (by rw [arr_size]; omega)]
    · rfl
/-- block B holds an array -/
def Ar (B : Nat) (f : Nat → Int) (w : World) : Prop := ∃ t, w.heap[B]? = some (.cells (arr f) t (0, 0))
theorem Ar.lt {B : Nat} {f : Nat → Int} {w : World} (h : Ar B f w) : B < w.heap.size := by
  obtain ⟨t, h⟩ := h
  rcases Nat.lt_or_ge B w.heap.size with h' | h'
  · exact h'
  · rw [Array.getElem?_eq_none h'] at h; cases h
theorem Ar.cell {B : Nat} {f : Nat → Int} {w : World} (h : Ar B f w) (i : Nat) (hi : i < 16) : w.cell? ⟨B, i, none⟩ = some (.int .i64 (f i)) := by
  obtain ⟨t, h⟩ := h
  unfold World.cell?
  rw [h]
  simpa using arr_at f i hi
theorem Ar.free {B : Nat} {f : Nat → Int} {w : World} (h : Ar B f w) (i : Nat) : w.frozen? ⟨B, i, none⟩ = false := by
  obtain ⟨t, h⟩ := h
  unfold World.frozen?
  rw [h]
  simp
theorem Ar.same {B : Nat} {f : Nat → Int} {w w' : World} (h : Ar B f w) (hb : w'.heap[B]? = w.heap[B]?) : Ar B f w' := by
  obtain ⟨t, h⟩ := h
  exact ⟨t, hb.trans h⟩
theorem Ar.below {B : Nat} {f : Nat → Int} {w w' : World} (h : Ar B f w) (g : Below w.heap.size w w') : Ar B f w' := h.same (g.block B h.lt)
theorem Ar.but {B R : Nat} {f : Nat → Int} {w w' : World} (h : Ar B f w) (g : But R w w') (hB : B ≠ R) : Ar B f w' := h.same (g.block B h.lt hB)
theorem Ar.drew {B : Nat} {f : Nat → Int} {w : World} (h : Ar B f w) : Ar B f w.drew := h
theorem Ar.alloc {B : Nat} {f : Nat → Int} {w : World} (h : Ar B f w) (o : Obj) : Ar B f (w.alloc o) := h.same (Below.heap_alloc _ _ _ h.lt)
theorem Ar.new (w : World) (f : Nat → Int) (t : TypeId) : Ar w.heap.size f (w.alloc (.cells (arr f) t)) := ⟨t, heap_last _ _⟩
theorem Ar.ext {B : Nat} {f g : Nat → Int} {w : World} (h : Ar B f w) (e : ∀ b, b < 16 → f b = g b) : Ar B g w := by
  unfold Ar at h ⊢
  rw [← arr_ext f g e]; exact h
theorem Ar.set {B : Nat} {f : Nat → Int} {w : World} (h : Ar B f w) (i : Nat) (v : Int) : Ar B (upd f i v) (w.setCell ⟨B, i, none⟩ (.int .i64 v)) := by
  obtain ⟨t, h⟩ := h
  refine ⟨t, ?_⟩
  unfold World.setCell
  simp only
  rw [Array.getElem?_modify, if_pos rfl, h]
  simp only [Option.map_some]
  rw [← arr_set]
  rfl
theorem Ar.setRow {B : Nat} {f : Nat → Int} {w : World} (h : Ar B f w) (g : Nat → Int) : Ar B g (w.setRow B (arr g)) := by
  obtain ⟨t, h⟩ := h
  exact ⟨t, setRow_heap w B _ _ t _ h⟩
theorem infoBP : (Try.prog.info? 61).map (fun i => (i.zero, i.size)) = some (some (.agg (arr fun _ => 0)), 16) := by kernel_rfl
theorem sizeBP : (Try.prog.info? 61).map (·.size) = some 16 := (zero_of_info infoBP).2
theorem load_ar {B : Nat} {f : Nat → Int} {w : World} (h : Ar B f w) : (Instr.loadAt 61 (.pointer (some ⟨B, 0, none⟩))).run Try.prog w = .ok (.agg (arr f)) w := by
  obtain ⟨t, h⟩ := h
  simp only [Instr.loadAt, Instr.sureAddr, Sem.run_bind, Sem.run_pure, Result.andThen]
  exact run_loadVar_row _ _ t 61 _ (0, 0) _ h Try.underlying61 rfl (by rw [arr_size]; exact sizeBP)
theorem loadv_ar {B : Nat} {f : Nat → Int} {w : World} (h : Ar B f w) : (loadVar 61 ⟨B, 0, none⟩).run Try.prog w = .ok (.agg (arr f)) w := by
  obtain ⟨t, h⟩ := h
  exact run_loadVar_row _ _ t 61 _ (0, 0) _ h Try.underlying61 rfl (by rw [arr_size]; exact sizeBP)
theorem store_ar {B : Nat} {f : Nat → Int} {w : World} (h : Ar B f w) (g : Nat → Int) : (Instr.storeAt 61 (.pointer (some ⟨B, 0, none⟩)) (.agg (arr g))).run Try.prog w = .ok () (w.setRow B (arr g)) := by
  obtain ⟨t, h⟩ := h
  simp only [Instr.storeAt, Instr.sureAddr, Sem.run_bind, Sem.run_pure, Result.andThen]
  exact run_storeVar_row _ _ t 61 _ (arr g) h (by rw [arr_size]; exact sizeBP) ((arr_size f).trans (arr_size g).symm) (arr_one g)
theorem wpList_load_ar {w : World} {ops : Array Oper} {rest : List Oper} {o : Oper} {a : Act} {Q : Exit → Act → World → Prop} {B : Nat} {f : Nat → Int} (hA : Ar B f w) (hgd : o.guard = none) (x : Operand)
    (ho : o.op = .load 61 x) (hx : a.eval x = .pointer (some ⟨B, 0, none⟩)) (h : wpList Try.prog ops Q rest (a.put o.dst (.agg (arr f))) w) : wpList Try.prog ops Q (o :: rest) a w := by
  refine wpList_plain hgd fun K hK => ?_
  have hrun := load_ar hA
  unfold Oper.wp
  have he : (execOp a.eval o).run Try.prog w = .ok (.value (.agg (arr f))) w := by
    unfold execOp
    rw [ho]
    simp only [hx]
    simp [hrun, Result.andThen]
  rw [he, Oper.upon_value]
  exact hK _ _ h
theorem wpList_store_ar {w : World} {ops : Array Oper} {rest : List Oper} {o : Oper} {a : Act} {Q : Exit → Act → World → Prop} {B : Nat} {f g : Nat → Int} (hA : Ar B f w) (hgd : o.guard = none) (x y : Operand)
    (ho : o.op = .store 61 x y) (hx : a.eval x = .pointer (some ⟨B, 0, none⟩)) (hy : a.eval y = .agg (arr g))
    (h : ∀ w', Hid (Ar B g w') → Hid (But B w w') → wpList Try.prog ops Q rest (a.put o.dst undef) w') : wpList Try.prog ops Q (o :: rest) a w := by
  refine wpList_plain hgd fun K hK => ?_
  have hrun := store_ar hA g
  unfold Oper.wp
  have he : (execOp a.eval o).run Try.prog w = .ok .skip (w.setRow B (arr g)) := by
    unfold execOp
    rw [ho]
    simp only [hx, hy]
    simp [hrun, Result.andThen]
  rw [he, Oper.upon_skip]
  exact hK _ _ (h _ (hA.setRow g) ⟨rfl, rfl, rfl, by simp [World.setRow], fun k _ hB => setRow_other w B k _ hB⟩)
theorem results_cell {fn : Func} {p : Tmp} {ty : TypeId} (h : fn.results = #[.cell p ty]) (tmps : Array Value) (P : Program) (w : World) :
    (results fn tmps).run P w = ((asAddr (tmps.getD p undef)).run P w).andThen fun a w₁ => (loadVar ty a).run P w₁ := by
  simp only [results, h]
  simp [Sem.run_bind, Result.andThen]
theorem slice_ar (B p n : Nat) (h : p + n ≤ 16) (h1 : 1 ≤ n) (q m : Int) (hq : q = p) (hm : m = (p : Int) + n) (W : World) :
    (Instr.sliceAt 61 (.pointer (some ⟨B, 0, none⟩)) (some (.int .i64 q)) (some (.int .i64 m)) (some (.int .i64 m))).run Try.prog W = .ok (.slice (some ⟨B, p, none⟩) n n) W := by
  subst hq hm
  have hl : Try.prog.arrayLen 61 = 16 := by kernel_rfl
  have he : (Try.prog.info? (Try.prog.elem 61)).map (·.size) = some 1 := by kernel_rfl
  rw [run_sliceAt_array_lhm W 61 ⟨B, 0, none⟩ (by kernel_rfl) .i64 .i64 .i64 (p : Int) ((p : Int) + n) ((p : Int) + n) (by omega) (by omega) (by omega) (by rw [hl]; omega)]
  cases hi : Try.prog.info? (Try.prog.elem 61) with
  | none => rw [hi] at he; cases he
  | some i =>
    rw [hi] at he
    have h1' : i.size = 1 := by simpa using he
    have e1 : ((p : Int) + n).toNat = p + n := by omega
    simp [sizeOf, typeInfo, hi, h1', Result.andThen, slicedAt, e1, Addr.add]
    rw [if_neg (by omega)]
    split
    · rename_i h0; rw [h0]
    · rfl
end Go.Proofs.Ytgipkpldlkmdkaa
