/- Sums that roll along, in plain lists. -/
import Derived.Test.YtfkcfachbfbmpaaCut
namespace Go.Proofs.Ytfkcfachbfbmpaa
set_option maxRecDepth 100000
open Go Go.RowKit
def sumA : List Nat → Nat
  | [] => 0
  | x :: l => x + sumA l
def sumB : List Nat → Nat
  | [] => 0
  | x :: l => (l.length + 1) * x + sumB l
theorem sumA_snoc (l : List Nat) (x : Nat) : sumA (l ++ [x]) = sumA l + x := by
  induction l with
  | nil => simp [sumA]
  | cons y l ih => simp only [List.cons_append, sumA, ih]; omega
theorem sumB_snoc (l : List Nat) (x : Nat) : sumB (l ++ [x]) = sumB l + sumA l + x := by
  induction l with
  | nil => simp [sumA, sumB]
  | cons y l ih =>
    simp only [List.cons_append, sumB, sumA, ih, List.length_append, List.length_cons, List.length_nil, Nat.zero_add]
    rw [Nat.add_mul (l.length + 1) 1 y, Nat.one_mul]
    omega
theorem sumA_le (l : List Nat) (h : ∀ x ∈ l, x < 256) : sumA l ≤ 255 * l.length := by
  induction l with
  | nil => simp [sumA]
  | cons y l ih =>
    have h1 := ih (fun x hx => h x (List.mem_cons_of_mem _ hx))
    have h2 := h y (List.mem_cons_self ..)
    simp only [sumA, List.length_cons]
    omega
theorem sumB_le (l : List Nat) (h : ∀ x ∈ l, x < 256) : sumB l ≤ 255 * (l.length * l.length) := by
  induction l with
  | nil => simp [sumB]
  | cons y l ih =>
    have h1 := ih (fun x hx => h x (List.mem_cons_of_mem _ hx))
    have h2 := h y (List.mem_cons_self ..)
    have h3 : (l.length + 1) * y ≤ (l.length + 1) * 255 := Nat.mul_le_mul_left _ (by omega)
    have h4 : (l.length + 1) * (l.length + 1) = l.length * l.length + 2 * l.length + 1 := by
      rw [Nat.add_mul, Nat.mul_add, Nat.mul_add]; omega
    simp only [sumB, List.length_cons]
    rw [h4]
    generalize l.length * l.length = q at *
    omega
/-- a text's bytes -/
def byN (s : ByteArray) : List Nat := s.data.toList.map fun c => c.toNat
theorem byN_len (s : ByteArray) : (byN s).length = s.size := by simp [byN]
theorem byN_lt (s : ByteArray) : ∀ x ∈ byN s, x < 256 := fun x hx => by
  obtain ⟨c, _, rfl⟩ := List.mem_map.1 hx
  exact c.toNat_lt
theorem byN_drop (s : ByteArray) (k : Nat) (h : k < s.size) : (byN s).drop k = s[k].toNat :: (byN s).drop (k + 1) := by
  have hk : k < (byN s).length := by rw [byN_len]; exact h
  rw [List.drop_eq_getElem_cons hk]
  congr 1
  simp [byN]
  rfl
theorem byN_take (s : ByteArray) (k : Nat) (h : k < s.size) : (byN s).take (k + 1) = (byN s).take k ++ [s[k].toNat] := by
  have hk : k < (byN s).length := by rw [byN_len]; exact h
  rw [List.take_succ_eq_append_getElem hk]
  congr 2
  simp [byN]
  rfl
theorem byN_ext (s : ByteArray) (i j : Nat) : byN (s.extract i j) = ((byN s).drop i).take (j - i) := by
  unfold byN
  rw [ext_list, List.map_take, List.map_drop]
/-- the sum of some bytes -/
def rollN (l : List Nat) : Nat := 256 * (sumB l % 251) + sumA l % 251
def rollT (s : ByteArray) : Nat := rollN (byN s)
theorem rollN_lt (l : List Nat) : rollN l < 65536 := by unfold rollN; omega
theorem sumA_step (l : List Nat) (x : Nat) : (sumA l % 251 + x) % 251 = sumA (l ++ [x]) % 251 := by rw [sumA_snoc]; omega
theorem sumB_step (l : List Nat) (x : Nat) : (sumB l % 251 + sumA (l ++ [x]) % 251) % 251 = sumB (l ++ [x]) % 251 := by rw [sumB_snoc, sumA_snoc]; omega
/-- a sum that goes on by a byte: both parts of it -/
def onA (a out inn : Nat) : Nat := (a + 502 - out + inn) % 251
def onB (a b out inn long : Nat) : Nat := (b + 64256 - long * out % 251 + onA a out inn) % 251
def onN (sum out inn long : Nat) : Nat := 256 * onB (sum % 256) (sum / 256) out inn long + onA (sum % 256) out inn
theorem onA_roll (l : List Nat) (x y : Nat) (hx : x < 256) : onA (sumA (x :: l) % 251) x y = sumA (l ++ [y]) % 251 := by
  unfold onA
  rw [sumA_snoc]
  simp only [sumA]
  omega
theorem onB_roll (l : List Nat) (x y : Nat) (hx : x < 256) : onB (sumA (x :: l) % 251) (sumB (x :: l) % 251) x y (l.length + 1) = sumB (l ++ [y]) % 251 := by
  unfold onB
  rw [onA_roll l x y hx, sumB_snoc, sumA_snoc]
  simp only [sumB]
  generalize (l.length + 1) * x = p
  omega
theorem onN_roll (l : List Nat) (x y : Nat) (hx : x < 256) : onN (rollN (x :: l)) x y (l.length + 1) = rollN (l ++ [y]) := by
  have e1 : rollN (x :: l) % 256 = sumA (x :: l) % 251 := by unfold rollN; omega
  have e2 : rollN (x :: l) / 256 = sumB (x :: l) % 251 := by unfold rollN; omega
  unfold onN
  rw [e1, e2, onA_roll l x y hx, onB_roll l x y hx]
  rfl
theorem onA_lt (a out inn : Nat) : onA a out inn < 251 := by unfold onA; omega
theorem onB_lt (a b out inn long : Nat) : onB a b out inn long < 251 := by unfold onB; omega
end Go.Proofs.Ytfkcfachbfbmpaa
