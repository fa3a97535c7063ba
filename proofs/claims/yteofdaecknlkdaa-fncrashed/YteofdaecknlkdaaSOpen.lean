/- Walks of the model's OpenZones. -/
import Derived.Test.YteofdaecknlkdaaThere
import Derived.Laws.AppendOwn
namespace Go.Proofs.Yteofdaecknlkdaa
set_option maxRecDepth 100000
open Go.ChangeShapes Go.WideShapes Go.ChangeAt Go.RowKit
def toI (n : Nat) : Int := n
def openAt (zs : List Zn) (i : Nat) : Bool := match zs[i]? with | some z => openZ z | none => false
/-- the numbers of the open ones among the first k -/
def opens (zs : List Zn) (k : Nat) : List Int := ((List.range k).filter (openAt zs)).map toI
theorem opens_step (zs : List Zn) (k : Nat) (h : k < zs.length) : opens zs (k + 1) = opens zs k ++ (if openZ zs[k] = true then [(k : Int)] else []) := by
  unfold opens
  have e : openAt zs k = openZ zs[k] := by unfold openAt; rw [List.getElem?_eq_getElem h]
  rw [List.range_succ, List.filter_append, List.map_append, List.filter_cons, List.filter_nil, e]
  cases openZ zs[k] <;> rfl
theorem opens_len (zs : List Zn) (k : Nat) : (opens zs k).length ≤ k := by
  unfold opens
  rw [List.length_map]
  have := List.length_filter_le (openAt zs) (List.range k)
  simpa using this
def ivals (l : List Int) : List Value := l.map fun n => .int .i64 n
theorem infoInt : (Try.prog.info? 3).map (fun i => (i.zero, i.size, i.bytes)) = some (some (.int .i64 0), 1, 8) := by kernel_rfl
set_option maxHeartbeats 1000000 in
theorem open_no (a : Option Addr) (cap : Nat) (zs : List Zn) (w : World) (hn : zs.length ≤ 1048576) (hZ : Zs w.heap.size a zs w) (h : goodD zs = false) :
    Calls Try.prog 18 #[.agg #[.slice a zs.length cap]] w fun e w' => e = .returned (.tuple #[.slice none 0 0, .bool false]) ∧ Below w.heap.size w w' := by
  have HZ : Hid (∀ w', Below w.heap.size w w' → Zs w'.heap.size a zs w') := fun w' g => (hZ.below g).mono g.size
  have HT : Hid (goodD zs = false) := h
  clear hZ h
  go_enter Try.func18, Try.ntmps18
  go_wp2_with fail
  refine (good_any a cap zs _ hn (HZ.out _ ((Below.refl _ _).alloc (Nat.le_refl _) _))).mono ?_
  rintro e w1 ⟨rfl, b1⟩
  rw [HT.out]
  have HB2 : Hid (Below w.heap.size w w1) := ((Below.refl _ _).alloc (Nat.le_refl _) _).trans (b1.mono (by simp))
  clear b1
  go_wp2
  refine bodyPost_ret (v := .tuple #[.slice none 0 0, .bool false]) (by simp [results, Try.results18, go_sem]) rfl ⟨rfl, HB2.out⟩
set_option maxHeartbeats 1000000 in
theorem open_yes (a : Option Addr) (cap : Nat) (zs : List Zn) (w : World) (hZ : Zs w.heap.size a zs w) (h : goodD zs = true) :
    Calls Try.prog 18 #[.agg #[.slice a zs.length cap]] w fun e w' => ∃ v, e = .returned (.tuple #[v, .bool true]) ∧
      w'.ownsRow w.heap.size 3 1 v (opens zs zs.length).length (ivals (opens zs zs.length)) ∧ Below w.heap.size w w' := by
  obtain ⟨i0, hi, hz0, hz1, hz2⟩ := info_parts infoInt
  have hl := goodD_len h
  have hn : zs.length ≤ 1048576 := by omega
  have HZ : Hid (∀ w', Below w.heap.size w w' → Zs w'.heap.size a zs w') := fun w' g => (hZ.below g).mono g.size
  have HT : Hid (goodD zs = true) := h
  clear hZ h
  go_enter Try.func18, Try.ntmps18
  go_wp2_with fail
  refine (good_any a cap zs _ hn (HZ.out _ ((Below.refl _ _).alloc (Nat.le_refl _) _))).mono ?_
  rintro e w1 ⟨rfl, b1⟩
  rw [HT.out]
  have hbel1 : Below w.heap.size w w1 := ((Below.refl _ _).alloc (Nat.le_refl _) _).trans (b1.mono (by simp))
  have hd : w1.cell? ⟨w.heap.size, 0, none⟩ = some (.slice a zs.length cap) := by
    rw [b1.cell (p := ⟨w.heap.size, 0, none⟩) (by simp)]; go_simp
  have HB1 : Hid (Below w.heap.size w w1) := hbel1
  clear b1 hbel1
  go_wp2
  go_loopw [4, 13] (fun o i wr => ∃ (k : Nat) (o1 : Value), k ≤ zs.length ∧ i = .int .i64 k ∧ o = o1 ∧ wr.ownsRow w.heap.size 3 1 o1 (opens zs k).length (ivals (opens zs k)) ∧ Below w.heap.size w wr) (fun _ i _ => zs.length - (intOf i).toNat)
  case atStart => exact ⟨0, _, Nat.zero_le _, rfl, rfl, World.ownsRow_nil _ _ _ _, HB1.out⟩
  case round =>
    obtain ⟨k, _, hk, rfl, rfl, hown, hbel⟩ := hrel
    have HOWN : Hid (wr.ownsRow w.heap.size 3 1 u4 (opens zs k).length (ivals (opens zs k))) := hown
    have HBEL : Hid (Below w.heap.size w wr) := hbel
    have hol := opens_len zs k
    by_cases hlt : k < zs.length
    · obtain ⟨b, off, rfl, hb, hcells⟩ := (HZ.out w (Below.refl _ _)).cell (by omega)
      obtain ⟨c0, c1, c2⟩ := hcells k hlt
      have hb' : ∀ o, wr.cell? ⟨b, o, none⟩ = w.cell? ⟨b, o, none⟩ := fun o => hbel.cell (p := ⟨b, o, none⟩) hb
      rw [← hb'] at c0 c1 c2
      have HSTEP : Hid (opens zs (k + 1) = opens zs k ++ (if openZ zs[k] = true then [(k : Int)] else [])) := opens_step zs k hlt
      have HGZ : Hid (goodZ ⟨zs[k].data, zs[k].sure, zs[k].full⟩ = true) := goodD_at HT.out k hlt
      have hszr := hbel.size
      clear hcells hb' hown hbel
      go_wp2_with fail
      refine (open_any _ _ _ _).mono ?_
      rintro e w8 ⟨rfl, b8⟩
      rw [show (⟨zs[k].data, zs[k].sure, zs[k].full⟩ : Zn) = zs[k] from rfl]
      have HB8 : Hid (Below w.heap.size w w8) := (HBEL.out.alloc hszr _).trans (b8.mono (by simp; omega))
      have HG8 : Hid (wr.grownBy w8 none) := ⟨b8.os, b8.tape, b8.output, by have := b8.size; simp at this; omega, fun j hj _ => (b8.block j (by simp; omega)).trans (Below.heap_alloc _ _ _ hj)⟩
      have HOWN8 : Hid (w8.ownsRow w.heap.size 3 1 u4 (opens zs k).length (ivals (opens zs k))) := HOWN.out.kept HG8.out (by cases u4.ownBlock <;> simp)
      have hs8 := HB8.out.size
      clear b8
      cases ho : openZ zs[k]
      · rw [ho] at HSTEP
        have HST : Hid (opens zs (k + 1) = opens zs k) := (show opens zs (k + 1) = opens zs k from by have := HSTEP.out; simpa using this)
        clear HSTEP ho
        go_wp2
        go_roundw
        case rel => exact ⟨k + 1, _, by omega, by go_num, rfl, by rw [HST.out]; exact HOWN8.out, HB8.out⟩
        case measure => simp [intOf]; omega
      · rw [ho] at HSTEP
        have HST : Hid (opens zs (k + 1) = opens zs k ++ [(k : Int)]) := (show opens zs (k + 1) = opens zs k ++ [(k : Int)] from by have := HSTEP.out; simpa using this)
        clear HSTEP ho
        go_wp2_with (at_builtin; refine wpList_append_own _ rfl (.tmp 20) (.tmp 22) 34 rfl w.heap.size 3 i0 _ 1 8 Try.underlying34 hi hz0 hz1 hz2 rfl (by decide) u4 (opens zs k).length (ivals (opens zs k)) rfl ?own ⟨w8.heap.size, 0, none⟩ 1 1 [.int .i64 (k : Int)] rfl rfl ?news ?one ?c3 ?c4 ?c5 ?_)
        case own => exact HOWN8.out.alloc _
        case news =>
          intro j u hj
          match j, hj with
          | 0, hj => simp at hj; subst hj; go_simp
        case one => intro u hu; simp at hu; subst hu; rfl
        case c3 => unfold maxLen; omega
        case c4 => omega
        case c5 => simp; omega
        intro v' w9 hown9 hgrow hnil
        have HOWN9 : Hid (w9.ownsRow w.heap.size 3 1 v' (opens zs (k + 1)).length (ivals (opens zs (k + 1)))) := by
          show w9.ownsRow w.heap.size 3 1 v' (opens zs (k + 1)).length (ivals (opens zs (k + 1)))
          rw [HST.out, List.length_append]
          have e : ivals (opens zs k ++ [(k : Int)]) = ivals (opens zs k) ++ [.int .i64 (k : Int)] := by simp [ivals]
          rw [e]
          exact hown9
        have HB9 : Hid (Below w.heap.size w w9) := (HB8.out.alloc hs8 _).grown hgrow (by simp; omega) (fun j hj => (HOWN8.out.lt j hj).1)
        clear hown9 hgrow hnil
        go_wp2
        go_roundw
        case rel => exact ⟨k + 1, _, by omega, by go_num, rfl, HOWN9.out, HB9.out⟩
        case measure => simp [intOf]; omega
    · obtain rfl : k = zs.length := by omega
      clear hown hbel
      go_wp2
      refine bodyPost_ret (v := .tuple #[u4, .bool true]) (by simp [results, Try.results18, go_sem]) rfl ⟨u4, rfl, HOWN.out, HBEL.out⟩
end Go.Proofs.Yteofdaecknlkdaa
