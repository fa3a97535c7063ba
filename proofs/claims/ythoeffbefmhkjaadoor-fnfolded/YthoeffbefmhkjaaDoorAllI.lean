/- Walk of the program's ReadSegment, which goes by goto. -/
import Derived.Test.YthoeffbefmhkjaaDoorAllS
import Derived.ScopeJumps
import Derived.WalkMore
namespace Go.Proofs.YthoeffbefmhkjaaDoor
set_option maxRecDepth 100000
open Go.ChangeShapes Go.WideShapes Go.ChangeAt Go.RowKit G00541
set_option maxHeartbeats 1000000 in
theorem iall_any (s : ByteArray) (w : World) (hT : Tab w) (hs : s.size ≤ 300) :
    Calls Tryd.prog 8 #[.string s] w fun e w' => ∃ v, e = .returned (.tuple #[v, .int .i64 ((allR s.data.toList).2 : Int), .bool true]) ∧ w'.ownsRow w.heap.size 36 4 v (allR s.data.toList).1.length (rflat (allR s.data.toList).1) ∧ Below w.heap.size w w' := by
  obtain ⟨i0, hi, hz0, hz1, hz2⟩ := info_parts infoRec
  have hsz := bytes_size s
  have hd : decide ((300 : Int) < (s.size : Int)) = false := by simp; omega
  have HT : Hid (∀ v, Below w.heap.size w v → Tab v) := fun v g => hT.below g
  clear hT
  go_enter Tryd.func8, Tryd.ntmps8
  go_wp2_with fail
  refine wp_scope_jumps 0 (fun a' w' => ∃ (p : Nat) (l : List Rc) (o1 u1 u2 u3 u4 u7 u8 u9 u10 u11 u12 u13 u14 u15 u16 u17 u18 u19 u20 u21 u22 u23 u24 u25 u26 u27 : Value), a' = { tmps := #[.string s, u1, u2, u3, u4, o1, .int .i64 p, u7, u8, u9, u10, u11, u12, u13, u14, u15, u16, u17, u18, u19, u20, u21, u22, u23, u24, u25, u26, u27], defers := [] } ∧ G00541.Read s.data.toList l p ∧ w'.ownsRow w.heap.size 36 4 o1 l.length (rflat l) ∧ Below w.heap.size w w') (fun a' _ => s.size + 1 - (intOf (a'.tmps.getD 6 undef)).toNat) rfl ?_ ?_
  · have HREAD : Hid (G00541.Read s.data.toList [] 0) := G00541.Read.start _
    have HOWN : Hid (w.ownsRow w.heap.size 36 4 (.slice none 0 0) 0 (rflat [])) := World.ownsRow_nil _ _ _ _
    have HBEL : Hid (Below w.heap.size w w) := Below.refl _ _
    have hszr : w.heap.size ≤ w.heap.size := Nat.le_refl _
    go_wp2_with fail
    go_step3
    cases hr : readR s.data.toList 0 with
    | none =>
      have HD : Hid (allR s.data.toList = ([], 0)) := HREAD.out.done hr
      have HC : Hid (∀ v, Below w.heap.size w v → Calls Tryd.prog 17 #[.string s, .int .i64 0] v fun e w' => e = .returned (.tuple #[.agg #[.int .i64 0, .int .i64 0, .int .i64 0, .string ⟨#[]⟩], .int .i64 0, .bool false]) ∧ Below v.heap.size v w') := fun v g => iread_none s 0 v hs (HT.out v g) hr
      clear hr
      go_wp2_with fail
      refine (HC.out _ HBEL.out).mono ?_
      rintro e w1 ⟨rfl, b1⟩
      have HB1 : Hid (Below w.heap.size w (w1.alloc (.cells #[.int .i64 0, .int .i64 0, .int .i64 0, .string ⟨#[]⟩] 36))) := (HBEL.out.trans (b1.mono hszr)).alloc (HBEL.out.trans (b1.mono hszr)).size _
      have HO1 : Hid ((w1.alloc (.cells #[.int .i64 0, .int .i64 0, .int .i64 0, .string ⟨#[]⟩] 36)).ownsRow w.heap.size 36 4 (.slice none 0 0) 0 (rflat [])) := (HOWN.out.kept (grown_below b1) (by cases (Value.slice none 0 0).ownBlock <;> simp)).alloc _
      clear b1
      go_wp2
      simp only [Exit.jump]
      refine bodyPost_ret (v := .tuple #[(.slice none 0 0), .int .i64 (0 : Nat), .bool true]) (by simp [results, Tryd.results8, go_sem]) rfl ⟨(.slice none 0 0), by rw [HD.out], by rw [HD.out]; exact HO1.out, HB1.out⟩
    | some x =>
      obtain ⟨r, q⟩ := x
      have HS : Hid (G00541.Read s.data.toList ([] ++ [r]) q) := HREAD.out.step hr
      have hq := readR_some hr
      have HC : Hid (∀ v, Below w.heap.size w v → Calls Tryd.prog 17 #[.string s, .int .i64 0] v fun e w' => e = .returned (.tuple #[.agg #[.int .i64 r.kind, .int .i64 r.place, .int .i64 r.long, .string (str r.data)], .int .i64 (q : Int), .bool true]) ∧ Below v.heap.size v w') := fun v g => iread_some s 0 v hs (HT.out v g) r q hr
      have hq1 := hq.1
      have hq2 := hq.2.1
      have hone := rcells_one r
      have HF : Hid (rflat ([] ++ [r]) = rflat [] ++ rcells r) := rflat_snoc [] r
      have hcs : rcells r = [.int .i64 r.kind, .int .i64 r.place, .int .i64 r.long, .string (str r.data)] := rfl
      clear hr hq
      generalize hrc : rcells r = cs at *
      have HRC : Hid (cs = [.int .i64 r.kind, .int .i64 r.place, .int .i64 r.long, .string (str r.data)]) := hcs
      clear hcs hrc
      go_wp2_with fail
      refine (HC.out _ HBEL.out).mono ?_
      rintro e w1 ⟨rfl, b1⟩
      have HB1 : Hid (Below w.heap.size w w1) := HBEL.out.trans (b1.mono hszr)
      have HO1 : Hid (w1.ownsRow w.heap.size 36 4 (.slice none 0 0) 0 (rflat [])) := HOWN.out.kept (grown_below b1) (by cases (Value.slice none 0 0).ownBlock <;> simp)
      have hs1 := HB1.out.size
      clear b1
      go_wp2_with (at_builtin; refine wpList_append_own _ rfl (.tmp 21) (.tmp 23) 23 rfl w.heap.size 36 i0 _ 4 40 Tryd.underlying23 hi hz0 hz1 hz2 rfl (by decide) (.slice none 0 0) 0 (rflat []) rfl ?own ⟨w1.heap.size + 1, 0, none⟩ 1 1 cs rfl ?len ?news hone ?c3 ?c4 ?c5 ?_)
      case own => exact (HO1.out.alloc _).alloc _
      case len => rw [HRC.out]; rfl
      case news =>
        rw [HRC.out]
        intro j u hj
        match j, hj with
        | 0, hj => simp at hj; subst hj; go_simp
        | 1, hj => simp at hj; subst hj; go_simp
        | 2, hj => simp at hj; subst hj; go_simp
        | 3, hj => simp at hj; subst hj; go_simp
      case c3 => unfold maxLen; omega
      case c4 => omega
      case c5 => simp; omega
      intro v' w9 hown9 hgrow hnil
      have HOWN9 : Hid (w9.ownsRow w.heap.size 36 4 v' ([] ++ [r]).length (rflat ([] ++ [r]))) := by
        show w9.ownsRow w.heap.size 36 4 v' ([] ++ [r]).length (rflat ([] ++ [r]))
        rw [HF.out, List.length_append]
        exact hown9
      have HB9 : Hid (Below w.heap.size w w9) := ((HB1.out.alloc hs1 _).alloc (by simp; omega) _).grown hgrow (by simp; omega) (fun j hj => (HO1.out.lt j hj).1)
      clear hown9 hgrow hnil
      go_wp2
      go_step3
      exact ⟨rfl, q, [] ++ [r], _, _, _, _, _, _, _, _, _, _, _, _, _, _, _, _, _, _, _, _, _, _, _, _, _, _, rfl, HS.out, HOWN9.out, HB9.out⟩
  · rintro a' wr ⟨p, l, o1, u1, u2, u3, u4, u7, u8, u9, u10, u11, u12, u13, u14, u15, u16, u17, u18, u19, u20, u21, u22, u23, u24, u25, u26, u27, rfl, hread, hown, hbel⟩
    have HREAD : Hid (G00541.Read s.data.toList l p) := hread
    have HOWN : Hid (wr.ownsRow w.heap.size 36 4 o1 l.length (rflat l)) := hown
    have HBEL : Hid (Below w.heap.size w wr) := hbel
    have hp := hread.1
    have hl := hread.2.1
    have hszr := hbel.size
    clear hread hown hbel
    cases hr : readR s.data.toList p with
    | none =>
      have HD : Hid (allR s.data.toList = (l, p)) := HREAD.out.done hr
      have HC : Hid (∀ v, Below w.heap.size w v → Calls Tryd.prog 17 #[.string s, .int .i64 p] v fun e w' => e = .returned (.tuple #[.agg #[.int .i64 0, .int .i64 0, .int .i64 0, .string ⟨#[]⟩], .int .i64 0, .bool false]) ∧ Below v.heap.size v w') := fun v g => iread_none s p v hs (HT.out v g) hr
      clear hr
      go_wp2_with fail
      refine (HC.out _ HBEL.out).mono ?_
      rintro e w1 ⟨rfl, b1⟩
      have HB1 : Hid (Below w.heap.size w (w1.alloc (.cells #[.int .i64 0, .int .i64 0, .int .i64 0, .string ⟨#[]⟩] 36))) := (HBEL.out.trans (b1.mono hszr)).alloc (HBEL.out.trans (b1.mono hszr)).size _
      have HO1 : Hid ((w1.alloc (.cells #[.int .i64 0, .int .i64 0, .int .i64 0, .string ⟨#[]⟩] 36)).ownsRow w.heap.size 36 4 o1 l.length (rflat l)) := (HOWN.out.kept (grown_below b1) (by cases o1.ownBlock <;> simp)).alloc _
      clear b1
      go_wp2
      simp only [Exit.jump]
      refine bodyPost_ret (v := .tuple #[o1, .int .i64 (p : Nat), .bool true]) (by simp [results, Tryd.results8, go_sem]) rfl ⟨o1, by rw [HD.out], by rw [HD.out]; exact HO1.out, HB1.out⟩
    | some x =>
      obtain ⟨r, q⟩ := x
      have HS : Hid (G00541.Read s.data.toList (l ++ [r]) q) := HREAD.out.step hr
      have hq := readR_some hr
      have HC : Hid (∀ v, Below w.heap.size w v → Calls Tryd.prog 17 #[.string s, .int .i64 p] v fun e w' => e = .returned (.tuple #[.agg #[.int .i64 r.kind, .int .i64 r.place, .int .i64 r.long, .string (str r.data)], .int .i64 (q : Int), .bool true]) ∧ Below v.heap.size v w') := fun v g => iread_some s p v hs (HT.out v g) r q hr
      have hq1 := hq.1
      have hq2 := hq.2.1
      have hone := rcells_one r
      have HF : Hid (rflat (l ++ [r]) = rflat l ++ rcells r) := rflat_snoc l r
      have hcs : rcells r = [.int .i64 r.kind, .int .i64 r.place, .int .i64 r.long, .string (str r.data)] := rfl
      clear hr hq
      generalize hrc : rcells r = cs at *
      have HRC : Hid (cs = [.int .i64 r.kind, .int .i64 r.place, .int .i64 r.long, .string (str r.data)]) := hcs
      clear hcs hrc
      go_wp2_with fail
      refine (HC.out _ HBEL.out).mono ?_
      rintro e w1 ⟨rfl, b1⟩
      have HB1 : Hid (Below w.heap.size w w1) := HBEL.out.trans (b1.mono hszr)
      have HO1 : Hid (w1.ownsRow w.heap.size 36 4 o1 l.length (rflat l)) := HOWN.out.kept (grown_below b1) (by cases o1.ownBlock <;> simp)
      have hs1 := HB1.out.size
      clear b1
      go_wp2_with (at_builtin; refine wpList_append_own _ rfl (.tmp 21) (.tmp 23) 23 rfl w.heap.size 36 i0 _ 4 40 Tryd.underlying23 hi hz0 hz1 hz2 rfl (by decide) o1 l.length (rflat l) rfl ?own ⟨w1.heap.size + 1, 0, none⟩ 1 1 cs rfl ?len ?news hone ?c3 ?c4 ?c5 ?_)
      case own => exact (HO1.out.alloc _).alloc _
      case len => rw [HRC.out]; rfl
      case news =>
        rw [HRC.out]
        intro j u hj
        match j, hj with
        | 0, hj => simp at hj; subst hj; go_simp
        | 1, hj => simp at hj; subst hj; go_simp
        | 2, hj => simp at hj; subst hj; go_simp
        | 3, hj => simp at hj; subst hj; go_simp
      case c3 => unfold maxLen; omega
      case c4 => omega
      case c5 => simp; omega
      intro v' w9 hown9 hgrow hnil
      have HOWN9 : Hid (w9.ownsRow w.heap.size 36 4 v' (l ++ [r]).length (rflat (l ++ [r]))) := by
        show w9.ownsRow w.heap.size 36 4 v' (l ++ [r]).length (rflat (l ++ [r]))
        rw [HF.out, List.length_append]
        exact hown9
      have HB9 : Hid (Below w.heap.size w w9) := ((HB1.out.alloc hs1 _).alloc (by simp; omega) _).grown hgrow (by simp; omega) (fun j hj => (HO1.out.lt j hj).1)
      clear hown9 hgrow hnil
      go_wp2
      go_step3
      refine ⟨rfl, ⟨q, l ++ [r], _, _, _, _, _, _, _, _, _, _, _, _, _, _, _, _, _, _, _, _, _, _, _, _, _, _, rfl, HS.out, HOWN9.out, HB9.out⟩, ?_⟩
      simp [intOf]
      omega
end Go.Proofs.YthoeffbefmhkjaaDoor
