/- Walks of the model's l3All, ReadSegment. -/
import Derived.Test.YthoeffbefmhkjaaDoorReadR
import Derived.Test.YthoeffbefmhkjaaDoorOwn
import Derived.Test.YthoeffbefmhkjaaDoorHRecS
import Derived.Laws.AppendOwn
namespace Go.Proofs.YthoeffbefmhkjaaDoor
set_option maxRecDepth 100000
open Go.ChangeShapes Go.WideShapes Go.ChangeAt Go.RowKit G00541
def rflat (l : List Rc) : List Value := (l.map rcells).flatten
theorem rflat_snoc (l : List Rc) (r : Rc) : rflat (l ++ [r]) = rflat l ++ rcells r := by
  unfold rflat
  rw [List.map_append, List.flatten_append]
  simp
theorem rwide (l : List Rc) (i : Nat) (hi : i < (l.map rcells).length) : (l.map rcells)[i].length = 4 := by rw [List.getElem_map]; rfl
theorem own_recs {w w' : World} {B : Nat} {v : Value} {l : List Rc} (h : w'.ownsRow B 36 4 v l.length (rflat l)) (hB : B = w.heap.size) : ∃ b c, v = .slice b l.length c ∧ OwnR w.heap.size w'.heap.size b l w' := by
  subst hB
  by_cases hv : v = .slice none 0 0
  · have h0 : l.length = 0 := by
      rcases h.2 with ⟨_, h0⟩ | ⟨g, cap, cur, e, _⟩
      · exact h0
      · rw [hv] at e; cases e
    exact ⟨none, 0, by rw [hv, h0], Or.inl (List.eq_nil_of_length_eq_zero h0)⟩
  · obtain ⟨R, cap, e, hR, hrow⟩ := GRow.ofOwns (rows := l.map rcells) (rwide l) h (by simp) hv
    exact ⟨some ⟨R, 0, none⟩, cap, e, Or.inr ⟨R, hR, GRow.lt hrow, rfl, hrow⟩⟩
theorem rcells_one (r : Rc) : ∀ u ∈ rcells r, u.oneCell' = true := by
  intro u hu
  simp [rcells] at hu
  rcases hu with rfl | rfl | rfl | rfl <;> rfl
theorem grown_below {wr w8 : World} (b8 : Below wr.heap.size wr w8) : wr.grownBy w8 none :=
  ⟨b8.os, b8.tape, b8.output, b8.size, fun j hj _ => b8.block j hj⟩
set_option maxHeartbeats 1000000 in
theorem l3all_any (s : ByteArray) (w : World) (hs : s.size ≤ 300) :
    Calls Tryd.prog 37 #[.string s] w fun e w' => ∃ v, e = .returned (.tuple #[v, .int .i64 ((allR s.data.toList).2 : Int)]) ∧ w'.ownsRow w.heap.size 36 4 v (allR s.data.toList).1.length (rflat (allR s.data.toList).1) ∧ Below w.heap.size w w' := by
  obtain ⟨i0, hi, hz0, hz1, hz2⟩ := info_parts infoRec
  have hsz := bytes_size s
  go_enter Tryd.func37, Tryd.ntmps37
  go_wp2
  go_loopw [4, 5] (fun o i wr => ∃ (p : Nat) (l : List Rc) (o1 : Value), i = .int .i64 p ∧ o = o1 ∧ G00541.Read s.data.toList l p ∧ wr.ownsRow w.heap.size 36 4 o1 l.length (rflat l) ∧ Below w.heap.size w wr) (fun _ i _ => s.size + 1 - (intOf i).toNat)
  case atStart => exact ⟨0, [], _, rfl, rfl, G00541.Read.start _, World.ownsRow_nil _ _ _ _, Below.refl _ _⟩
  case round =>
    obtain ⟨p, l, _, rfl, rfl, hread, hown, hbel⟩ := hrel
    have HREAD : Hid (G00541.Read s.data.toList l p) := hread
    have HOWN : Hid (wr.ownsRow w.heap.size 36 4 u4 l.length (rflat l)) := hown
    have HBEL : Hid (Below w.heap.size w wr) := hbel
    have hp := hread.1
    have hl := hread.2.1
    have hszr := hbel.size
    clear hread hown hbel
    cases hr : readR s.data.toList p with
    | none =>
      have HD : Hid (allR s.data.toList = (l, p)) := HREAD.out.done hr
      have HC : Hid (∀ v, Calls Tryd.prog 41 #[.string s, .int .i64 p] v fun e w' => e = .returned (.tuple #[.agg #[.int .i64 0, .int .i64 0, .int .i64 0, .string ⟨#[]⟩], .int .i64 (-1)]) ∧ Below v.heap.size v w') := fun v => sl3_none s p v hs hr
      clear hr
      go_wp2_with fail
      refine (HC.out _).mono ?_
      rintro e w1 ⟨rfl, b1⟩
      have HB1 : Hid (Below w.heap.size w (w1.alloc (.cells #[.int .i64 0, .int .i64 0, .int .i64 0, .string ⟨#[]⟩] 36))) := (HBEL.out.trans (b1.mono hszr)).alloc (HBEL.out.trans (b1.mono hszr)).size _
      have HO1 : Hid ((w1.alloc (.cells #[.int .i64 0, .int .i64 0, .int .i64 0, .string ⟨#[]⟩] 36)).ownsRow w.heap.size 36 4 u4 l.length (rflat l)) := (HOWN.out.kept (grown_below b1) (by cases u4.ownBlock <;> simp)).alloc _
      clear b1
      go_wp2
      go_ret2
      exact ⟨u4, by rw [HD.out]; rfl, by rw [HD.out]; exact HO1.out, HB1.out⟩
    | some x =>
      obtain ⟨r, q⟩ := x
      have HS : Hid (G00541.Read s.data.toList (l ++ [r]) q) := HREAD.out.step hr
      have hq := readR_some hr
      have HC : Hid (∀ v, Calls Tryd.prog 41 #[.string s, .int .i64 p] v fun e w' => e = .returned (.tuple #[.agg #[.int .i64 r.kind, .int .i64 r.place, .int .i64 r.long, .string (str r.data)], .int .i64 (q : Int)]) ∧ Below v.heap.size v w') := fun v => sl3_some s p v hs r q hr
      have hq1 := hq.1
      have hq2 := hq.2.1
      have hdq : decide ((q : Int) < 0) = false := by simp
      have hone := rcells_one r
      have HF : Hid (rflat (l ++ [r]) = rflat l ++ rcells r) := rflat_snoc l r
      have hcs : rcells r = [.int .i64 r.kind, .int .i64 r.place, .int .i64 r.long, .string (str r.data)] := rfl
      clear hr hq
      generalize hrc : rcells r = cs at *
      have HRC : Hid (cs = [.int .i64 r.kind, .int .i64 r.place, .int .i64 r.long, .string (str r.data)]) := hcs
      clear hcs hrc
      go_wp2_with fail
      refine (HC.out _).mono ?_
      rintro e w1 ⟨rfl, b1⟩
      have HB1 : Hid (Below w.heap.size w w1) := HBEL.out.trans (b1.mono hszr)
      have HO1 : Hid (w1.ownsRow w.heap.size 36 4 u4 l.length (rflat l)) := HOWN.out.kept (grown_below b1) (by cases u4.ownBlock <;> simp)
      have hs1 := HB1.out.size
      clear b1
      go_wp2_with (at_builtin; refine wpList_append_own _ rfl (.tmp 18) (.tmp 20) 23 rfl w.heap.size 36 i0 _ 4 40 Tryd.underlying23 hi hz0 hz1 hz2 rfl (by decide) u4 l.length (rflat l) rfl ?own ⟨w1.heap.size + 1, 0, none⟩ 1 1 cs rfl ?len ?news hone ?c3 ?c4 ?c5 ?_)
      case own => exact (HO1.out.alloc _).alloc _
      case len => rw [HRC.out]; rfl
      case news =>
        rw [HRC.out]
        intro j u hj
        match j, hj with
        | 0, hj => simp at hj; subst hj; go_simp
        | 1, hj => simp at hj; subst hj; go_simp
        | 2, hj => simp at hj; subst hj; go_simp
        | 3, hj => simp at hj; subst hj; go_simp
      case c3 => unfold maxLen; omega
      case c4 => omega
      case c5 => simp; omega
      intro v' w9 hown9 hgrow hnil
      have HOWN9 : Hid (w9.ownsRow w.heap.size 36 4 v' (l ++ [r]).length (rflat (l ++ [r]))) := by
        show w9.ownsRow w.heap.size 36 4 v' (l ++ [r]).length (rflat (l ++ [r]))
        rw [HF.out, List.length_append]
        exact hown9
      have HB9 : Hid (Below w.heap.size w w9) := ((HB1.out.alloc hs1 _).alloc (by simp; omega) _).grown hgrow (by simp; omega) (fun j hj => (HO1.out.lt j hj).1)
      clear hown9 hgrow hnil
      go_wp2
      go_roundw
      case rel => exact ⟨q, l ++ [r], _, rfl, rfl, HS.out, HOWN9.out, HB9.out⟩
      case measure => simp [intOf]; omega
end Go.Proofs.YthoeffbefmhkjaaDoor
