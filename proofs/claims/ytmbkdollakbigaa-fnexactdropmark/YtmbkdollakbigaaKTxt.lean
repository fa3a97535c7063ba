/- Walk of the program's copyTexts. -/
import Derived.Test.YtmbkdollakbigaaHA
import Derived.Test.YtmbkdollakbigaaIJoin
namespace Go.Proofs.Ytmbkdollakbigaa
set_option maxRecDepth 100000
open Go Go.ChangeShapes Go.WideShapes Go.ChangeAt Go.RowKit
theorem app_nil (D : ByteArray) : D ++ (⟨#[]⟩ : ByteArray) = D := by
  rw [← ba_app]; simp
theorem srow_one (w : World) (D : ByteArray) : Ss (w.alloc (.cells #[.string D] 9)).heap.size (some ⟨w.heap.size, 0, none⟩) [D] (w.alloc (.cells #[.string D] 9)) := by
  refine ⟨fun _ => ⟨w.heap.size, 0, rfl, by simp, fun i hi j hj => ?_⟩⟩
  have hi' : i = 0 := by simpa using hi
  subst hi'
  obtain rfl : j = 0 := by omega
  rw [box_cell (heap_last _ _)]
  rfl
set_option maxHeartbeats 2000000 in
theorem copyTexts_any (a : Option Addr) (cap : Nat) (l : List ByteArray) (w : World) (hn : l.length ≤ 9999) (hz : ∀ k (h : k < l.length), l[k].size ≤ 1048576) (hL : Ss w.heap.size a l w) :
    Calls Try.prog 55 #[.slice a l.length cap] w fun e w' => ∃ v, e = .returned v ∧ w'.ownsRow w.heap.size 9 1 v l.length (svals l) ∧ Below w.heap.size w w' := by
  have HL := hid hL
  have HZ := hid hz
  clear hL hz
  go_enter Try.func55, Try.ntmps55
  go_wp2_with fail
  go_loopw [3, 8] (fun o i wr => ∃ (k : Nat) (o1 : Value), k ≤ l.length ∧ i = .int .i64 k ∧ o = o1 ∧ wr.ownsRow w.heap.size 9 1 o1 k (svals (l.take k)) ∧ Below w.heap.size w wr) (fun _ i _ => l.length - (intOf i).toNat)
  case atStart => exact ⟨0, _, Nat.zero_le _, rfl, rfl, World.ownsRow_nil _ _ _ _, Below.refl _ _⟩
  case round =>
    obtain ⟨k, _, hk, rfl, rfl, hown, hbel⟩ := hrel
    have HOWN := hid hown
    have HBEL := hid hbel
    have hszr := hbel.size
    clear hown hbel
    by_cases hlt : k < l.length
    · obtain ⟨b, off, rfl, hb, hcells⟩ := HL.out.cell (by omega)
      have c0 := (HBEL.out.cell (p := ⟨b, off + k, none⟩) hb).trans (hcells k hlt)
      have HTK := hid (take_snoc l k hlt)
      have HJ : Hid (∀ v, Calls Try.prog 56 #[.string l[k], .string ⟨#[]⟩] v fun e w' => e = .returned (.string l[k]) ∧ Below v.heap.size v w') := fun v => by
        have := join_any l[k] ⟨#[]⟩ v (HZ.out k hlt) (by decide)
        rw [app_nil] at this
        exact this
      clear hcells
      generalize l[k] = D at *
      go_wp2_with fail
      refine (HJ.out _).mono ?_
      rintro e w9 ⟨rfl, b9⟩
      have HB9 : Hid (Below w.heap.size w w9) := HBEL.out.trans (b9.mono hszr)
      have HBA : Hid (Below w.heap.size w (w9.alloc (.cells #[.string D] 9))) := HB9.out.trans ((boxB _ _).mono HB9.out.size)
      have hown9 := (rw_below HOWN.out b9).alloc (.cells #[.string D] 9)
      obtain ⟨v', w', r1, o1, g1, -⟩ := app_str (w9.alloc (.cells #[.string D] 9)) w.heap.size u3 k (svals (l.take k)) hown9 (some ⟨w9.heap.size, 0, none⟩) 1 [D] (srow_one w9 D) (by show k + 1 ≤ 10000; omega) HBA.out.size
      have HO : Hid (w'.ownsRow w.heap.size 9 1 v' (k + 1) (svals (l.take (k + 1)))) := by
        show w'.ownsRow w.heap.size 9 1 v' (k + 1) (svals (l.take (k + 1)))
        rw [HTK.out, svals_snoc]
        exact o1
      have HB' : Hid (Below w.heap.size w w') := HBA.out.trans (below_of_grown g1 HBA.out.size (fun i hi => (HOWN.out.lt i hi).1))
      clear b9 hown9 o1 g1 HJ
      go_wp2_with (at_builtin; refine wpList_append_run rfl (.tmp 12) (.tmp 15) 62 rfl _ _ rfl rfl _ _ r1 ?_)
      go_roundw
      case rel => exact ⟨k + 1, _, by omega, by go_num, rfl, HO.out, HB'.out⟩
      case measure => simp [intOf]; omega
    · obtain rfl : k = l.length := by omega
      rw [List.take_length] at HOWN
      go_wp2
      go_ret
      exact ⟨u3, rfl, HOWN.out, HBEL.out⟩
/-- an append in a region that draws, whose run is known -/
theorem step_append_run {P : Program} {ops : Array Oper} {o : Oper} {a : Act} {w : World} {K : Act → World → Prop} {Q : Exit → Act → World → Prop} {E : Prop}
    (hg : o.guard = none) (s x : Operand) (t : TypeId) (hop : o.op = Op.call { callee := Callee.builtin Builtin.append, args := #[s, x], argTypes := #[t, t] })
    (v y : Value) (hs : a.eval s = v) (hx : a.eval x = y) (v' : Value) (w' : World) (hrun : ∀ ty, (Builtin.append_ #[t, t] ty #[v, y]).run P w = .ok v' w') (hK : K (a.put o.dst v') w') :
    if Region.wanted o (yielded ops a.tmps) = true then Oper.wp P o a w K Q else E := by
  have hw : Region.wanted o (yielded ops a.tmps) = true := by simp [Region.wanted, hg]
  rw [if_pos hw]
  unfold Oper.wp
  simp [execOp, hop, resolve, invoke, builtin, hs, hx, hrun, Result.andThen]
  exact hK
end Go.Proofs.Ytmbkdollakbigaa
