/- Walks of the model's l3Good, l3Segment, SegmentText. -/
import Derived.Test.YthoeffbefmhkjaaDoorText
import Derived.Test.YthoeffbefmhkjaaDoorGoodL
namespace Go.Proofs.YthoeffbefmhkjaaDoor
set_option maxRecDepth 100000
open Go.ChangeShapes Go.WideShapes Go.ChangeAt Go.RowKit G00541
/-- the text of records -/
def segL : List Rc → List UInt8
  | [] => []
  | r :: l => textL r ++ segL l
theorem segL_snoc (l : List Rc) (r : Rc) : segL (l ++ [r]) = segL l ++ textL r := by
  induction l with
  | nil => show textL r ++ [] = [] ++ textL r; simp
  | cons x l ih => show textL x ++ segL (l ++ [r]) = textL x ++ segL l ++ textL r; rw [ih, List.append_assoc]
theorem segL_len : ∀ (l : List Rc), goodL l = true → (segL l).length ≤ 14 * l.length
  | [], _ => Nat.le_refl _
  | r :: l, h => by
    have h' : goodR r = true ∧ goodL l = true := by
      unfold goodL at h ⊢
      rw [List.all_cons, Bool.and_eq_true] at h; exact h
    have h1 := segL_len l h'.2
    have h2 := (good_cases h'.1).2.2.2.2.2.1
    show (textL r ++ segL l).length ≤ _
    rw [List.length_append, textL_len, List.length_cons]; omega
theorem goodL_take {l : List Rc} (h : goodL l = true) (k : Nat) : goodL (l.take k) = true := by
  unfold goodL at h ⊢
  rw [List.all_eq_true] at h ⊢
  exact fun x hx => h x (List.mem_of_mem_take hx)
theorem str_app (a b : List UInt8) : str a ++ str b = str (a ++ b) := by
  apply ByteArray.ext
  simp [str, ByteArray.data_append]
set_option maxHeartbeats 1000000 in
theorem l3seg_any (a : Option Addr) (cap : Nat) (l : List Rc) (w : World) (hn : l.length ≤ 1048576) (hZ : Rs w.heap.size a l w) (hg : goodL l = true) :
    Calls Tryd.prog 34 #[.slice a l.length cap] w fun e w' => e = .returned (.string (str (segL l))) ∧ Below w.heap.size w w' := by
  have HZ : Hid (Rs w.heap.size a l w) := hZ
  have HG : Hid (goodL l = true) := hg
  clear hZ hg
  go_enter Tryd.func34, Tryd.ntmps34
  go_wp2
  go_loopw [3, 8] (fun t i wr => ∃ k : Nat, k ≤ l.length ∧ i = .int .i64 k ∧ t = .string (str (segL (l.take k))) ∧ Below w.heap.size w wr) (fun _ i _ => l.length - (intOf i).toNat)
  case atStart => exact ⟨0, Nat.zero_le _, rfl, rfl, Below.refl _ _⟩
  case round =>
    obtain ⟨k, hk, rfl, rfl, hbel⟩ := hrel
    have HBEL : Hid (Below w.heap.size w wr) := hbel
    clear hbel
    by_cases hlt : k < l.length
    · obtain ⟨b, off, rfl, hb, hcells⟩ := HZ.out.cell (by omega)
      obtain ⟨c0, c1, c2, c3⟩ := hcells k hlt
      have hb' : ∀ o, wr.cell? ⟨b, o, none⟩ = w.cell? ⟨b, o, none⟩ := fun o => HBEL.out.cell (p := ⟨b, o, none⟩) hb
      rw [← hb'] at c0 c1 c2 c3
      clear hcells hb'
      have hgk := good_at HG.out k hlt
      have hgb := good_bounds (D := str l[k].data) (by rw [str_list]; exact hgk)
      have HC : Hid (∀ v, Calls Tryd.prog 50 #[.agg #[.int .i64 l[k].kind, .int .i64 l[k].place, .int .i64 l[k].long, .string (str l[k].data)]] v fun e w' => e = .returned (.string (str (textL l[k]))) ∧ Below v.heap.size v w') := fun v => by
        obtain ⟨q1, q2, q3, q4, q5, q6, q7⟩ := hgb
        have := stext_any l[k].kind l[k].place l[k].long (str l[k].data) v q1 q2 q3 q4 q5 q6 (by omega)
        rw [textB_eq, str_list] at this
        exact this
      have HN : Hid (str (segL (l.take k)) ++ str (textL l[k]) = str (segL (l.take (k + 1)))) := by
        rw [str_app, take_snoc l k hlt, segL_snoc]; rfl
      have hs1 : (str (segL (l.take k))).size ≤ 14680064 := by
        have h1 := segL_len _ (goodL_take HG.out k)
        have h2 : (l.take k).length ≤ k := List.length_take_le _ _
        rw [str_size]; omega
      have hs2 : (str (textL l[k])).size ≤ 14 := by
        have h1 := (good_cases hgk).2.2.2.2.2.1
        rw [str_size, textL_len]; omega
      clear hgk hgb
      generalize str (textL l[k]) = X at *
      generalize str (segL (l.take k)) = Y at *
      generalize l[k].kind = rk at *
      generalize l[k].place = rp at *
      generalize l[k].long = rn at *
      generalize str l[k].data = rd at *
      go_wp2_with fail
      refine (HC.out _).mono ?_
      rintro e w1 ⟨rfl, b1⟩
      have HB1 : Hid (Below w.heap.size w w1) := (HBEL.out.alloc HBEL.out.size _).trans (b1.mono (by have := HBEL.out.size; simp; omega))
      clear b1
      go_wp2
      go_roundw
      case rel => exact ⟨k + 1, by omega, by go_num, by rw [HN.out], HB1.out⟩
      case measure => simp [intOf]; omega
    · obtain rfl : k = l.length := by omega
      go_wp2
      go_ret
      exact ⟨ret_str (by rw [List.take_length]), HBEL.out⟩
end Go.Proofs.YthoeffbefmhkjaaDoor
