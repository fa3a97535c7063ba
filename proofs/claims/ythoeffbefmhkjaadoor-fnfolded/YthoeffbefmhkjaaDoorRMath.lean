/- Records come back from their text: plain lists. -/
import Derived.Test.YthoeffbefmhkjaaDoorQA
namespace G00541
theorem ofNat_back {n : Int} (h0 : 0 ≤ n) (h1 : n ≤ 255) : ((UInt8.ofNat n.toNat).toNat : Int) = n := by
  rw [u8_of (by omega)]; omega
theorem piece_of {r : Rc} (h : goodR r = true) : pieceR (withL (bodyL r)) = r := by
  have hc := good_cases h
  obtain ⟨k, p, n, d⟩ := r
  simp only at hc
  have e : withL (bodyL ⟨k, p, n, d⟩) = UInt8.ofNat k.toNat :: UInt8.ofNat p.toNat :: UInt8.ofNat n.toNat :: (d ++ [UInt8.ofNat (sumZZ (bodyL ⟨k, p, n, d⟩) / 256), UInt8.ofNat (sumZZ (bodyL ⟨k, p, n, d⟩) % 256)]) := by
    simp [withL, bodyL, headL]
  rw [e]
  unfold pieceR
  simp only [List.getD_cons_zero, List.getD_cons_succ, List.drop_succ_cons, List.drop_zero, List.length_cons, List.length_append, List.length_nil]
  rw [ofNat_back (by omega) (by omega), ofNat_back (by omega) (by omega), ofNat_back (by omega) (by omega)]
  rw [show d.length + (0 + 1 + 1) + 1 + 1 + 1 - 5 = d.length by omega, List.take_left]
theorem sum_with (l : List UInt8) : sumOn 0 (withL l) = 0 := (withL_iff l _ _).1 rfl
theorem read_text (pre post : List UInt8) (r : Rc) (h : goodR r = true) : readR (pre ++ (textL r ++ post)) pre.length = some (r, pre.length + (textL r).length) := by
  have hc := good_cases h
  have hl : (withL (bodyL r)).length = 5 + r.data.length := by rw [withL_len, bodyL_len]; omega
  have hn : ((pre ++ (textL r ++ post)).getD pre.length 0).toNat = (withL (bodyL r)).length := by
    rw [List.getD_eq_getElem?_getD, List.getElem?_append_right (Nat.le_refl _), Nat.sub_self]
    show ((UInt8.ofNat (withL (bodyL r)).length :: withL (bodyL r) ++ post)[0]?.getD 0).toNat = _
    show (UInt8.ofNat (withL (bodyL r)).length).toNat = _
    exact u8_of (by omega)
  have ht : ((pre ++ (textL r ++ post)).drop (pre.length + 1)).take (withL (bodyL r)).length = withL (bodyL r) := by
    rw [List.drop_append, List.drop_of_length_le (by omega), List.nil_append, show pre.length + 1 - pre.length = 1 by omega]
    show ((UInt8.ofNat (withL (bodyL r)).length :: (withL (bodyL r) ++ post)).drop 1).take _ = _
    rw [List.drop_succ_cons, List.drop_zero, List.take_left]
  have hlt : (pre ++ (textL r ++ post)).length = pre.length + (6 + r.data.length) + post.length := by
    rw [List.length_append, List.length_append, textL_len]; omega
  unfold readR
  rw [if_pos (by omega)]
  simp only [hn, ht, piece_of h]
  rw [if_pos ⟨by omega, by omega, h, sum_with _⟩, textL_len]
  congr 2
  omega
theorem read_end (s : List UInt8) : readR s s.length = none := by
  unfold readR
  rw [if_neg (Nat.lt_irrefl _)]
/-- records' texts, one behind the other -/
def segT : List Rc → List UInt8
  | [] => []
  | r :: l => textL r ++ segT l
theorem reads_seg : ∀ (l : List Rc) (pre : List UInt8) (f : Nat), (∀ r ∈ l, goodR r = true) → l.length < f → readsR (pre ++ segT l) f pre.length = (l, pre.length + (segT l).length)
  | [], pre, f, _, _ => by
    have : readR (pre ++ segT []) pre.length = none := by
      show readR (pre ++ []) pre.length = none
      rw [List.append_nil]; exact read_end pre
    rw [readsR_none this]; rfl
  | r :: l, pre, f, hg, hf => by
    cases f with
    | zero => omega
    | succ f =>
      have h1 := read_text pre (segT l) r (hg r List.mem_cons_self)
      have e : pre ++ segT (r :: l) = pre ++ (textL r ++ segT l) := rfl
      rw [e, readsR_some h1]
      have h2 := reads_seg l (pre ++ textL r) f (fun x hx => hg x (List.mem_cons_of_mem _ hx)) (by simpa using hf)
      rw [List.append_assoc, List.length_append] at h2
      rw [h2]
      show (r :: l, pre.length + (textL r).length + (segT l).length) = (r :: l, pre.length + (textL r ++ segT l).length)
      rw [List.length_append, Nat.add_assoc]
theorem segT_len : ∀ (l : List Rc), l.length ≤ (segT l).length
  | [] => Nat.le_refl _
  | r :: l => by
    have := segT_len l
    show l.length + 1 ≤ (textL r ++ segT l).length
    rw [List.length_append, textL_len]; omega
theorem all_seg (l : List Rc) (hg : ∀ r ∈ l, goodR r = true) : allR (segT l) = (l, (segT l).length) := by
  have h := reads_seg l [] ((segT l).length + 1) hg (by have := segT_len l; omega)
  unfold allR
  simpa using h
theorem read_take {s : List UInt8} {k p : Nat} {r : Rc} {e : Nat} (h : readR (s.take k) p = some (r, e)) : readR s p = some (r, e) := by
  unfold readR at h
  split at h
  case isFalse => cases h
  rename_i hp
  have hlk : (s.take k).length ≤ k := List.length_take_le _ _
  have hls : (s.take k).length ≤ s.length := by rw [List.length_take]; omega
  have hg : (s.take k).getD p 0 = s.getD p 0 := by
    rw [List.getD_eq_getElem?_getD, List.getD_eq_getElem?_getD, List.getElem?_take, if_pos (by omega)]
  simp only [hg] at h
  split at h
  case isFalse => cases h
  rename_i hc
  obtain ⟨h1, h2, h3, h4⟩ := hc
  have ht : ((s.take k).drop (p + 1)).take (s.getD p 0).toNat = (s.drop (p + 1)).take (s.getD p 0).toNat := by
    rw [List.drop_take, List.take_take, Nat.min_eq_left (by omega)]
  rw [ht] at h h3 h4
  unfold readR
  rw [if_pos (by omega)]
  simp only
  rw [if_pos ⟨h1, by omega, h3, h4⟩]
  exact h
theorem reads_take (s : List UInt8) (k : Nat) : ∀ (f g p : Nat), f ≤ g → (readsR (s.take k) f p).1 <+: (readsR s g p).1
  | 0, _, _, _ => List.nil_prefix
  | f + 1, g, p, hfg => by
    cases g with
    | zero => omega
    | succ g =>
      cases h : readR (s.take k) p with
      | none => rw [readsR_none h]; exact List.nil_prefix
      | some x =>
        obtain ⟨r, e⟩ := x
        rw [readsR_some h, readsR_some (read_take h)]
        show r :: (readsR (s.take k) f e).1 <+: r :: (readsR s g e).1
        rw [List.cons_prefix_cons]
        exact ⟨rfl, reads_take s k f g e (by omega)⟩
theorem all_take (s : List UInt8) (k : Nat) : (allR (s.take k)).1 <+: (allR s).1 := by
  unfold allR
  exact reads_take s k _ _ 0 (by rw [List.length_take]; omega)
theorem read_back {s : List UInt8} {p : Nat} {r : Rc} {e : Nat} (h : readR s p = some (r, e)) : textL r = (s.drop p).take (e - p) := by
  unfold readR at h
  split at h
  case isFalse => cases h
  rename_i hp
  simp only at h
  split at h
  case isFalse => cases h
  rename_i hc
  obtain ⟨h1, h2, h3, h4⟩ := hc
  rw [Option.some.injEq, Prod.mk.injEq] at h
  obtain ⟨rfl, rfl⟩ := h
  have hl : ((s.drop (p + 1)).take (s.getD p 0).toNat).length = (s.getD p 0).toNat := by
    rw [List.length_take, List.length_drop]; omega
  have hb : (s.getD p 0).toNat < 256 := (s.getD p 0).toNat_lt
  have ht := (piece_text1 ((s.drop (p + 1)).take (s.getD p 0).toNat) (by omega) (by omega) (s.getD p 0) (by omega)).2 h4
  rw [ht]
  rw [show p + 1 + (s.getD p 0).toNat - p = (s.getD p 0).toNat + 1 by omega, List.drop_eq_getElem_cons hp, List.take_succ_cons, List.getD_eq_getElem?_getD, List.getElem?_eq_getElem hp]
  rfl
end G00541
