/- Devices behind a crash: what they are, and rows that are made over from the front on. -/
import Derived.Test.YteofdaecknlkdaaIntD
import Derived.Test.YteofdaecknlkdaaThere
import Derived.Laws.Strings2
namespace Go.Proofs.Yteofdaecknlkdaa
set_option maxRecDepth 100000
open Go.ChangeShapes Go.WideShapes Go.ChangeAt Go.RowKit
def mixl (V zs : List Zn) (k : Nat) : List Zn := V.take k ++ zs.drop k
theorem mixl_len (V zs : List Zn) (k : Nat) (h : V.length = zs.length) : (mixl V zs k).length = zs.length := by
  unfold mixl
  rw [List.length_append, List.length_take, List.length_drop]
  omega
theorem mixl_at (V zs : List Zn) (k : Nat) (hV : V.length = zs.length) (h : k < zs.length) (h' : k < (mixl V zs k).length) : (mixl V zs k)[k] = zs[k] := by
  have hl : (V.take k).length = k := by simp; omega
  apply Option.some.inj
  rw [← List.getElem?_eq_getElem h', ← List.getElem?_eq_getElem h]
  unfold mixl
  rw [List.getElem?_append_right (by omega), hl, Nat.sub_self, List.getElem?_drop, Nat.add_zero]
theorem mixl_set (V zs : List Zn) (k : Nat) (hV : V.length = zs.length) (h : k < zs.length) (h2 : k < V.length) : (mixl V zs k).set k V[k] = mixl V zs (k + 1) := by
  unfold mixl
  have hl : (V.take k).length = k := by simp; omega
  rw [List.set_append_right _ _ (by omega), hl, Nat.sub_self, List.drop_eq_getElem_cons h, List.set_cons_zero, List.take_succ_eq_append_getElem h2, List.append_assoc]
  rfl
theorem mixl_zero (V zs : List Zn) : mixl V zs 0 = zs := by simp [mixl]
theorem mixl_end (V zs : List Zn) (k : Nat) (hV : V.length = zs.length) (h : zs.length ≤ k) : mixl V zs k = V := by
  unfold mixl
  rw [List.take_of_length_le (by omega), List.drop_of_length_le h, List.append_nil]
def crashZ (z : Zn) (n : Int) : Zn := ⟨z.data.extract 0 n.toNat, n, z.full && (n == (z.data.size : Int))⟩
def okZ (z : Zn) (n : Int) : Bool := decide (z.sure ≤ n) && decide (n ≤ (z.data.size : Int))
def okAt (zs : List Zn) (ks : List Int) (i : Nat) : Bool := match zs[i]?, ks[i]? with | some z, some n => okZ z n | _, _ => false
def okL (zs : List Zn) (ks : List Int) : Bool := (List.range zs.length).all (okAt zs ks)
def crashAt (zs : List Zn) (ks : List Int) (i : Nat) : Zn := match zs[i]?, ks[i]? with | some z, some n => crashZ z n | _, _ => zeroZ
def crashV (zs : List Zn) (ks : List Int) : List Zn := (List.range zs.length).map (crashAt zs ks)
theorem crashV_len (zs : List Zn) (ks : List Int) : (crashV zs ks).length = zs.length := by simp [crashV]
theorem crashV_at (zs : List Zn) (ks : List Int) (i : Nat) (h : i < zs.length) (h2 : i < ks.length) (h3 : i < (crashV zs ks).length) : (crashV zs ks)[i] = crashZ zs[i] ks[i] := by
  simp [crashV, crashAt, h, h2]
theorem okAt_eq (zs : List Zn) (ks : List Int) (i : Nat) (h : i < zs.length) (h2 : i < ks.length) : okAt zs ks i = okZ zs[i] ks[i] := by
  simp [okAt, h, h2]
theorem okL_bad {zs : List Zn} {ks : List Int} {i : Nat} (h : i < zs.length) (h2 : i < ks.length) (hb : okZ zs[i] ks[i] = false) : okL zs ks = false := by
  unfold okL
  rw [List.all_eq_false]
  exact ⟨i, by simpa using h, by rw [okAt_eq zs ks i h h2, hb]; decide⟩
theorem okL_all {zs : List Zn} {ks : List Int} (h2 : ks.length = zs.length) (h : ∀ i (hi : i < zs.length) (hk : i < ks.length), okZ zs[i] ks[i] = true) : okL zs ks = true := by
  unfold okL
  rw [List.all_eq_true]
  intro i hi
  have hi' : i < zs.length := by simpa using hi
  rw [okAt_eq zs ks i hi' (by omega)]
  exact h i hi' (by omega)
theorem cut_to (s : ByteArray) (n : Int) (v : World) (h0 : 0 ≤ n) (h : n ≤ (s.size : Int)) : Sem.run Try.prog (Instr.slice 9 (.string s) none (some (.int .i64 n)) none) v = .ok (.string (s.extract 0 n.toNat)) v := by
  simp only [go_sem, Try.underlying9]
  simp [h0, h]
set_option maxHeartbeats 1000000 in
theorem tell_any (R c : Nat) (V : List Zn) (gd : Bool) (w : World) (hn : V.length ≤ 1048576) (hR : ZRow R V w) (hG : goodD V = gd) :
    Calls Try.prog 48 #[.agg #[.slice (some ⟨R, 0, none⟩) V.length c]] w fun e w' => (e = if gd = true then .returned (.tuple #[.agg #[.slice (some ⟨R, 0, none⟩) V.length c], .bool true]) else .returned (.tuple #[.agg #[.slice none 0 0], .bool false])) ∧ ZRow R V w' ∧ Below w.heap.size w w' := by
  have HC : Hid (∀ v, Below w.heap.size w v → Calls Try.prog 10 #[.agg #[.slice (some ⟨R, 0, none⟩) V.length c]] v fun e w' => e = .returned (.bool gd) ∧ Below v.heap.size v w') := fun v hv => by
    have := good_any (some ⟨R, 0, none⟩) c V v hn ((hR.below hv).sl (hR.below hv).lt)
    rw [hG] at this
    exact this
  have HR : Hid (ZRow R V w) := hR
  have hlt := hR.lt
  clear hR hG
  go_enter Try.func48, Try.ntmps48
  go_wp2_with fail
  refine (HC.out _ (((Below.refl _ _).alloc (Nat.le_refl _) _).alloc (by simp) _)).mono ?_
  rintro e w1 ⟨rfl, b1⟩
  have hbel1 : Below w.heap.size w w1 := (((Below.refl _ _).alloc (Nat.le_refl _) _).alloc (by simp) _).trans (b1.mono (by simp; omega))
  have hk2 : w1.heap[w.heap.size + 1]? = some (.cells #[.slice none 0 0] 25) := by
    rw [b1.block (w.heap.size + 1) (by simp)]; exact heap_last2 _ _ _
  have hd : w1.cell? ⟨w.heap.size, 0, none⟩ = some (.slice (some ⟨R, 0, none⟩) V.length c) := by
    rw [b1.cell (p := ⟨w.heap.size, 0, none⟩) (by simp; omega)]; go_simp
  have hq : w1.cell? ⟨w.heap.size + 1, 0, none⟩ = some (.slice none 0 0) := by unfold World.cell?; rw [hk2]; rfl
  have hf : w1.frozen? ⟨w.heap.size + 1, 0, none⟩ = false := by unfold World.frozen?; rw [hk2]; rfl
  have HR1 : Hid (ZRow R V w1) := HR.out.below hbel1
  have HB1 : Hid (Below w.heap.size w w1) := hbel1
  clear b1 hbel1 hk2 HR
  have hneR : R ≠ w.heap.size + 1 := by omega
  cases gd
  · go_wp2
    refine bodyPost_ret (v := .tuple #[.agg #[.slice none 0 0], .bool false]) (by simp [results, Try.results48, go_sem, hq]) rfl ⟨by first | rfl | simp, ?_, ?_⟩
    · exact HR1.out.same (by simp [World.setCell]) (Below.heap_setCell _ _ _ _ hneR)
    · exact HB1.out.setCell (by show w.heap.size ≤ w.heap.size + 1; omega) _
  · go_wp2
    refine bodyPost_ret (v := .tuple #[.agg #[.slice (some ⟨R, 0, none⟩) V.length c], .bool true]) (by simp [results, Try.results48, go_sem, hq]) rfl ⟨by first | rfl | simp, ?_, ?_⟩
    · exact HR1.out.same (by simp [World.setCell]) (Below.heap_setCell _ _ _ _ hneR)
    · exact HB1.out.setCell (by show w.heap.size ≤ w.heap.size + 1; omega) _
end Go.Proofs.Yteofdaecknlkdaa
