/- The library's strings.Join, laid at this seat's own numbers; texts one behind the other. -/
import Derived.Test.YtbipbihjaeobkaaVBase
import Derived.Shelf.Strings.OnBuilder
import Derived.Test.YtbipbihjaeobkaaProg
namespace Go.Proofs.Ytbipbihjaeobkaa
set_option maxRecDepth 100000
open Go Go.Shelf Go.RowKit
def jren : Go.Shelf.Ren := ⟨fun | 156 => 64 | 165 => 77 | 166 => 78 | 169 => 79 | 240 => 84 | 241 => 85 | 276 => 86 | 277 => 87 | n => n, fun | 31 => 22 | 9 => 9 | 3 => 3 | 4 => 4 | 0 => 0 | 20 => 20 | 72 => 101 | 76 => 105 | 70 => 99 | 37 => 98 | 75 => 104 | 127 => 114 | 164 => 122 | 5 => 5 | 80 => 107 | n => n, fun | n => n⟩
theorem jlays : Go.Proofs.Lays.n156 Try.prog jren := {
  mixed := by kernel_rfl
  f156 := Try.func64.trans (congrArg some (by kernel_rfl))
  f165 := Try.func77.trans (congrArg some (by kernel_rfl))
  f166 := Try.func78.trans (congrArg some (by kernel_rfl))
  f169 := Try.func79.trans (congrArg some (by kernel_rfl))
  f240 := Try.func84.trans (congrArg some (by kernel_rfl))
  f241 := Try.func85.trans (congrArg some (by kernel_rfl))
  f276 := Try.func86.trans (congrArg some (by kernel_rfl))
  f277 := Try.func87.trans (congrArg some (by kernel_rfl))
  t0 := Try.underlying0
  a0 := Try.isAgg0
  z0 := Try.sizeOf0
  v0 := Try.zeroValue0
  t3 := Try.underlying3
  a3 := Try.isAgg3
  z3 := Try.sizeOf3
  v3 := Try.zeroValue3
  t4 := Try.underlying4
  a4 := Try.isAgg4
  z4 := Try.sizeOf4
  v4 := Try.zeroValue4
  t9 := Try.underlying9
  a9 := Try.isAgg9
  z9 := Try.sizeOf9
  v9 := Try.zeroValue9
  t20 := Try.underlying20
  a20 := Try.isAgg20
  z20 := Try.sizeOf20
  v20 := Try.zeroValue20
  t31 := Try.underlying22
  a31 := Try.isAgg22
  z31 := Try.sizeOf22
  v31 := Try.zeroValue22
  t37 := Try.underlying98
  a37 := Try.isAgg98
  z37 := Try.sizeOf98
  v37 := Try.zeroValue98
  t70 := Try.underlying99
  a70 := Try.isAgg99
  z70 := Try.sizeOf99
  v70 := Try.zeroValue99
  t72 := Try.underlying101
  a72 := Try.isAgg101
  z72 := Try.sizeOf101
  v72 := Try.zeroValue101
  t75 := Try.underlying104
  a75 := Try.isAgg104
  z75 := Try.sizeOf104
  v75 := Try.zeroValue104
  t76 := Try.underlying105
  a76 := Try.isAgg105
  z76 := Try.sizeOf105
  v76 := Try.zeroValue105
  t127 := Try.underlying114
  a127 := Try.isAgg114
  z127 := Try.sizeOf114
  v127 := Try.zeroValue114
  t164 := Try.underlying122
  a164 := Try.isAgg122
  z164 := Try.sizeOf122
  v164 := Try.zeroValue122
}
theorem jextra : Go.Proofs.Builder.Extra Try.prog jren := {
  sizeBuilder := by kernel_rfl
  liesBuilder := by kernel_rfl
  t5 := Try.underlying5
  a5 := Try.isAgg5
  z5 := Try.sizeOf5
  v5 := Try.zeroValue5
  infoByte := by kernel_rfl
  cellsByte := by kernel_rfl
  sizeByte := by kernel_rfl
  neB5 := by decide
}
/-- texts, one behind the other -/
def catT (xs : List ByteArray) : ByteArray := ⟨((xs.map (·.data.toList)).flatten).toArray⟩
theorem catT_snoc (xs : List ByteArray) (x : ByteArray) : catT (xs ++ [x]) = catT xs ++ x := by
  unfold catT
  apply ByteArray.ext
  rw [ByteArray.data_append]
  simp
theorem join_flat : ∀ (xs : List (List UInt8)), Go.Lib.join xs [] = xs.flatten
  | [] => rfl
  | [x] => by rw [Go.Lib.join_one]; simp
  | x :: y :: r => by
    have h := join_flat (y :: r)
    unfold Go.Lib.join at h ⊢
    rw [List.flatten_cons, ← h]
    simp [List.intercalate, List.intersperse]
theorem joinS_any (R o c : Nat) (xs : List ByteArray) (w : World) (hcells : ∀ (j : Nat) x, xs[j]? = some x → w.cell? ⟨R, o + j, none⟩ = some (.string x)) (hR : R < w.heap.size) (hN : xs.length ≤ 4) (hcap : xs.length ≤ c) (hs : ∀ x ∈ xs, x.size ≤ 8) :
    Calls Try.prog 64 #[.slice (some ⟨R, o, none⟩) xs.length c, .string ⟨#[]⟩] w fun e w' => e = .returned (.string (catT xs)) ∧ Below w.heap.size w w' := by
  have hl : (Go.Lib.join (xs.map (·.data.toList)) (⟨#[]⟩ : ByteArray).data.toList).length ≤ 140737488355328 := by
    show (Go.Lib.join (xs.map (·.data.toList)) []).length ≤ 140737488355328
    rw [join_flat]
    have : ∀ (l : List ByteArray), (∀ x ∈ l, x.size ≤ 8) → ((l.map (·.data.toList)).flatten).length ≤ 8 * l.length := by
      intro l
      induction l with
      | nil => intro _; simp
      | cons a l ih =>
        intro h
        have h1 := ih (fun x hx => h x (List.mem_cons_of_mem _ hx))
        have h2 := h a (List.mem_cons_self)
        rw [List.map_cons, List.flatten_cons, List.length_append, List.length_cons]
        have h3 : a.data.toList.length = a.size := Array.length_toList
        omega
    have := this xs hs
    omega
  have h := Any.strings_Join jlays jextra R o c xs ⟨#[]⟩ w hcells hR (by omega) hcap hl
  have e : Go.Lib.join (xs.map (·.data.toList)) (⟨#[]⟩ : ByteArray).data.toList = (xs.map (·.data.toList)).flatten := join_flat _
  rw [e] at h
  exact h
end Go.Proofs.Ytbipbihjaeobkaa
