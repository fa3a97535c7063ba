/- The model's LastBlocks. -/
import Derived.Test.YtlifhakgboekfaaSyIa
import Derived.Test.YtlifhakgboekfaaHA
import Derived.Test.YtlifhakgboekfaaKTxt
import Derived.Test.YtlifhakgboekfaaKSet
namespace Go.Proofs.Ytlifhakgboekfaa
set_option maxRecDepth 100000
open Go Go.ChangeShapes Go.WideShapes Go.ChangeAt Go.RowKit
/-- texts of one's own -/
def SL (lo : Nat) (v : Value) (l : List ByteArray) (w : World) : Prop := w.ownsRow lo 9 1 v l.length (svals l)
theorem SL.nil (lo : Nat) (w : World) : SL lo (.slice none 0 0) [] w := World.ownsRow_nil _ _ _ _
theorem SL.below {lo : Nat} {v : Value} {l : List ByteArray} {w w' : World} (h : SL lo v l w) (g : Below w.heap.size w w') : SL lo v l w' := rw_below h g
theorem SL.mono {lo lo' : Nat} {v : Value} {l : List ByteArray} {w : World} (h : SL lo v l w) (g : lo' ≤ lo) : SL lo' v l w := rw_mono h g
theorem SL.push {lo : Nat} {v : Value} {l : List ByteArray} {w : World} (h : SL lo v l w) (hlo : lo ≤ w.heap.size) (x : ByteArray) (hm : l.length + 1 ≤ 10000) :
    ∃ v' w', (∀ ty, (Builtin.append_ #[42, 42] ty #[v, .slice (some ⟨w.heap.size, 0, none⟩) 1 1]).run Try.prog (w.alloc (.cells #[.string x] 9)) = .ok v' w') ∧ SL lo v' (l ++ [x]) w' ∧ Below lo w w' ∧ (w.alloc (.cells #[.string x] 9)).grownBy w' v.ownBlock := by
  have hb := boxB w (.cells #[.string x] 9)
  obtain ⟨v', w', h1, h2, h3, h4⟩ := app_str (w.alloc (.cells #[.string x] 9)) lo v l.length (svals l) (rw_below h hb) (some ⟨w.heap.size, 0, none⟩) 1 [x] (srow_one w x) hm (Nat.le_trans hlo hb.size)
  refine ⟨v', w', h1, ?_, (hb.mono hlo).trans (below_of_grown h3 (Nat.le_trans hlo hb.size) (fun k hk => (World.ownsRow.lt h k hk).1)), h3⟩
  unfold SL
  rw [List.length_append, svals_snoc]
  exact h2
/-- texts and a truth value, in memory of one's own -/
def TOut (V : List ByteArray) (ok : Bool) (w : World) (e : Ending) (w' : World) : Prop := ∃ b c, e = .returned (.tuple #[.slice b V.length c, .bool ok]) ∧ OwnS w.heap.size w'.heap.size b V w' ∧ Below w.heap.size w w'
theorem TOut.no {w w' : World} (g : Below w.heap.size w w') : TOut [] false w (.returned (.tuple #[.slice none 0 0, .bool false])) w' := ⟨none, 0, rfl, Or.inl rfl, g⟩
theorem TOut.yes {V : List ByteArray} {w w' : World} {v : Value} (h : SL w.heap.size v V w') (g : Below w.heap.size w w') : TOut V true w (.returned (.tuple #[v, .bool true])) w' := by
  obtain ⟨b, c, rfl, ho⟩ := own_strs h
  exact ⟨b, c, rfl, ho, g⟩
/-- all blocks at the last layer -/
def lastT (A : List Ly) : List ByteArray := (List.range 16).map fun k : Nat => atL A (k : Int) A.length
theorem lastT_take (A : List Ly) (k : Nat) (_h : k < 16) : ((List.range (k + 1)).map fun j : Nat => atL A (j : Int) A.length) = ((List.range k).map fun j : Nat => atL A (j : Int) A.length) ++ [atL A (k : Int) A.length] := by
  rw [List.range_succ, List.map_append]
  rfl
def lastV (A : List Ly) : List ByteArray := if GoodK A then lastT A else []
theorem lastV_len (A : List Ly) : (lastV A).length ≤ 1048576 := by
  unfold lastV lastT
  split <;> simp
set_option maxHeartbeats 4000000 in
theorem l15Last_any (a : Option Addr) (c : Nat) (A : List Ly) (w : World) (hA : Mr a c A w) (hg : GoodK A) :
    Calls Try.prog 49 #[.agg #[.slice a A.length c]] w fun e w' => ∃ v, e = .returned v ∧ SL w.heap.size v (lastT A) w' ∧ Below w.heap.size w w' := by
  have b0 := boxB w (.cells #[.slice a A.length c] 30)
  have k0 := heap_last w (.cells #[.slice a A.length c] 30)
  generalize hW : w.alloc (.cells #[.slice a A.length c] 30) = W at *
  have HX : Hid (∀ v, Below W.heap.size W v → v.cell? ⟨w.heap.size, 0, none⟩ = some (.slice a A.length c)) := fun v g => box_cell ((g.block _ (kboxS k0)).trans k0) 0
  have HU : Hid (∀ v, Below W.heap.size W v → Below w.heap.size w v) := fun v g => b0.trans (g.mono b0.size)
  have HA : Hid (∀ v, Below W.heap.size W v → Mr a c A v) := fun v g => hA.on (HU.out v g)
  have B0 : Hid (Below W.heap.size W W) := Below.refl _ _
  obtain ⟨n, hn⟩ : ∃ n, A.length = n + 1 := ⟨A.length - 1, by have := hg.1; omega⟩
  have hn8 : n ≤ 7 := by have := hg.2.1; omega
  have HT1 : Hid (∀ (k : Nat) v, Below W.heap.size W v → Calls Try.prog 59 #[.agg #[.slice a A.length c], .int .i64 (n : Nat), .int .i64 (k : Int)] v fun e w' => e = .returned (.string (atL A (k : Int) A.length)) ∧ Below v.heap.size v w') := fun k v g => by
    have := (HA.out v g).at hg n (by omega) (k : Int)
    rwa [← hn] at this
  have HTK := hid (lastT_take A)
  have HTE : Hid (lastT A = (List.range 16).map fun j : Nat => atL A (j : Int) A.length) := rfl
  rw [HTE.out]
  have hpw := pred_wrap n (by omega)
  have x0 := HX.out _ B0.out
  clear hA k0 b0 HA hg HTE
  generalize hfn : (fun j : Nat => atL A (j : Int) A.length) = T at *
  have HTT : Hid (∀ k : Nat, atL A (k : Int) A.length = T k) := fun k => by rw [← hfn]
  have HT2 : Hid (∀ (k : Nat) v, Below W.heap.size W v → Calls Try.prog 59 #[.agg #[.slice a A.length c], .int .i64 (n : Nat), .int .i64 (k : Int)] v fun e w' => e = .returned (.string (T k)) ∧ Below v.heap.size v w') := fun k v g => by rw [← HTT.out k]; exact HT1.out k v g
  have HTK2 : Hid (∀ k : Nat, k < 16 → (List.range (k + 1)).map T = (List.range k).map T ++ [T k]) := fun k h => by rw [HTK.out k h, HTT.out k]
  clear hfn HTT HT1 HTK
  rw [hn] at x0 HX HT2 hW ⊢
  go_enter Try.func49, Try.ntmps49
  go_wp2_with fail
  clear hW x0
  go_loopw [3, 4] (fun s i wr => ∃ (k : Nat) (v : Value), k ≤ 16 ∧ i = .int .i64 k ∧ s = v ∧ SL W.heap.size v ((List.range k).map T) wr ∧ Below W.heap.size W wr) (fun _ i _ => 16 - (intOf i).toNat)
  case atStart => exact ⟨0, _, by omega, rfl, rfl, SL.nil _ _, B0.out⟩
  case round =>
    obtain ⟨k, v, hk, rfl, rfl, hsl, hbel⟩ := hrel
    have HSL := hid hsl
    have HBR := hid hbel
    have x0 := HX.out _ hbel
    by_cases hlt : k < 16
    · have HC := hid (HT2.out k _ hbel)
      have HK := hid (HTK2.out k hlt)
      clear hsl hbel
      go_wp2_with fail
      refine HC.out.mono ?_
      rintro e w5 ⟨rfl, g5⟩
      have HB5 := hid (HBR.out.trans (g5.mono HBR.out.size))
      obtain ⟨v', w6, r6, o6, g6, -⟩ := (HSL.out.below g5).push HB5.out.size (T k) (by simp; omega)
      have HO := hid o6
      have HB6 := hid (HB5.out.trans g6)
      clear g5 o6 g6 HC x0
      go_wp2_with (at_builtin; refine wpList_append_run rfl _ _ 42 rfl _ _ rfl rfl _ _ r6 ?_)
      go_roundw
      case rel => exact ⟨k + 1, v', by omega, by go_num, rfl, by rw [HK.out]; exact HO.out, HB6.out⟩
      case measure => simp [intOf]; omega
    · obtain rfl : k = 16 := by omega
      have HO := hid (hsl.mono (HU.out _ B0.out).size)
      clear hsl hbel
      go_wp2_with fail
      go_ret
      exact ⟨_, rfl, HO.out, HU.out _ HBR.out⟩
set_option maxHeartbeats 4000000 in
theorem slast_any (a : Option Addr) (c : Nat) (A : List Ly) (w : World) (hA : Mr a c A w) :
    Calls Try.prog 23 #[.agg #[.slice a A.length c]] w (TOut (lastV A) (goodK A) w) := by
  have b0 := boxB w (.cells #[.slice a A.length c] 30)
  have k0 := heap_last w (.cells #[.slice a A.length c] 30)
  generalize hW : w.alloc (.cells #[.slice a A.length c] 30) = W at *
  have HX : Hid (∀ v, Below W.heap.size W v → v.cell? ⟨w.heap.size, 0, none⟩ = some (.slice a A.length c)) := fun v g => box_cell ((g.block _ (kboxS k0)).trans k0) 0
  have HU : Hid (∀ v, Below W.heap.size W v → Below w.heap.size w v) := fun v g => b0.trans (g.mono b0.size)
  have HA : Hid (∀ v, Below W.heap.size W v → Mr a c A v) := fun v g => hA.on (HU.out v g)
  have B0 : Hid (Below W.heap.size W W) := Below.refl _ _
  have HG1 : Hid (∀ v, Below W.heap.size W v → Calls Try.prog 48 #[.agg #[.slice a A.length c]] v fun e w' => e = .returned (.bool (goodK A)) ∧ Below v.heap.size v w') := fun v g => (HA.out v g).sgood
  have HL : Hid (GoodK A → ∀ v, Below W.heap.size W v → Calls Try.prog 49 #[.agg #[.slice a A.length c]] v fun e w' => ∃ u, e = .returned u ∧ SL v.heap.size u (lastT A) w' ∧ Below v.heap.size v w') := fun h v g => l15Last_any a c A v (HA.out v g) h
  have x0 := HX.out _ B0.out
  clear hA k0 b0 HA
  go_enter Try.func23, Try.ntmps23
  go_wp2_with fail
  clear hW
  refine (HG1.out _ B0.out).mono ?_
  rintro e w1 ⟨rfl, g1⟩
  have B1 : Hid (Below W.heap.size W w1) := B0.out.trans (g1.mono B0.out.size)
  clear g1 x0
  have x0 := HX.out _ B1.out
  by_cases hg : GoodK A
  case neg =>
    have e1 : Hid (lastV A = [] ∧ goodK A = false) := ⟨if_neg hg, goodK_no hg⟩
    rw [goodK_no hg]
    clear hg HL
    go_wp2_with fail
    go_ret2
    rw [e1.out.1, e1.out.2]
    exact TOut.no (HU.out _ B1.out)
  have e1 : Hid (lastV A = lastT A ∧ goodK A = true) := ⟨if_pos hg, goodK_iff.2 hg⟩
  have HL1 := hid (HL.out hg _ B1.out)
  rw [goodK_iff.2 hg]
  clear hg HL
  go_wp2_with fail
  refine HL1.out.mono ?_
  rintro e w3 ⟨u, rfl, o3, g3⟩
  have O3 := hid (SL.mono o3 (HU.out _ B1.out).size)
  have B3 : Hid (Below W.heap.size W w3) := B1.out.trans (g3.mono B1.out.size)
  clear g3 o3 x0 HL1
  go_wp2_with fail
  go_ret2
  rw [e1.out.1, e1.out.2]
  exact TOut.yes O3.out (HU.out _ B3.out)
end Go.Proofs.Ytlifhakgboekfaa
