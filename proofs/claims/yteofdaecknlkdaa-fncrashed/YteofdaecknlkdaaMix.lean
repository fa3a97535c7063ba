/- Rows that are made over from the front on. -/
import Derived.Test.YteofdaecknlkdaaZ
namespace Go.Proofs.Yteofdaecknlkdaa
def mixm (f : Zn → Zn) (zs : List Zn) (k : Nat) : List Zn := (zs.take k).map f ++ zs.drop k
theorem mixm_len (f : Zn → Zn) (zs : List Zn) (k : Nat) : (mixm f zs k).length = zs.length := by
  unfold mixm
  rw [List.length_append, List.length_map, List.length_take, List.length_drop]
  omega
theorem mixm_at (f : Zn → Zn) (zs : List Zn) (k : Nat) (h : k < zs.length) (h' : k < (mixm f zs k).length) : (mixm f zs k)[k] = zs[k] := by
  have hl : ((zs.take k).map f).length = k := by simp; omega
  apply Option.some.inj
  rw [← List.getElem?_eq_getElem h', ← List.getElem?_eq_getElem h]
  unfold mixm
  rw [List.getElem?_append_right (by omega), hl, Nat.sub_self, List.getElem?_drop, Nat.add_zero]
theorem mixm_set (f : Zn → Zn) (zs : List Zn) (k : Nat) (h : k < zs.length) : (mixm f zs k).set k (f zs[k]) = mixm f zs (k + 1) := by
  unfold mixm
  have hl : ((zs.take k).map f).length = k := by simp; omega
  rw [List.set_append_right _ _ (by omega), hl, Nat.sub_self, List.drop_eq_getElem_cons h, List.set_cons_zero, List.take_succ_eq_append_getElem h, List.map_append]
  simp
theorem mixm_zero (f : Zn → Zn) (zs : List Zn) : mixm f zs 0 = zs := by simp [mixm]
theorem mixm_end (f : Zn → Zn) (zs : List Zn) (k : Nat) (h : zs.length ≤ k) : mixm f zs k = zs.map f := by
  unfold mixm
  rw [List.take_of_length_le h, List.drop_of_length_le h, List.append_nil]
end Go.Proofs.Yteofdaecknlkdaa
