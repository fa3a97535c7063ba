/- Walks of the model's FoldRecords. -/
import Derived.Test.YthoeffbefmhkjaaDoorStrR
import Derived.Test.YthoeffbefmhkjaaDoorQA
import Derived.Test.YthoeffbefmhkjaaDoorGoodL
import Derived.Test.YthoeffbefmhkjaaDoorCut
import Derived.Test.YthoeffbefmhkjaaDoorOwn
import Derived.Laws.AppendOwn
import Derived.BigRegion
namespace Go.Proofs.YthoeffbefmhkjaaDoor
set_option maxRecDepth 100000
open Go.ChangeShapes Go.WideShapes Go.ChangeAt Go.RowKit G00541
def zz : ByteArray := ⟨#[0, 0]⟩
/-- what block j of a record becomes -/
def pieceT (k : Int) (D : ByteArray) (j : Nat) : ByteArray := if k = 1 then D.extract (2 * j) (2 * j + 2) else zz
theorem pieceT_one (D : ByteArray) (j : Nat) : pieceT 1 D j = D.extract (2 * j) (2 * j + 2) := rfl
theorem pieceT_else {k : Int} (h : k ≠ 1) (D : ByteArray) (j : Nat) : pieceT k D j = zz := by unfold pieceT; rw [if_neg h]
def doK (ts : List ByteArray) (k : Int) (p : Nat) (D : ByteArray) : Nat → List ByteArray
  | 0 => ts
  | j + 1 => (doK ts k p D j).set (p + j) (pieceT k D j)
theorem doK_len (ts : List ByteArray) (k : Int) (p : Nat) (D : ByteArray) : ∀ j, (doK ts k p D j).length = ts.length
  | 0 => rfl
  | j + 1 => by show ((doK ts k p D j).set (p + j) (pieceT k D j)).length = _; rw [List.length_set]; exact doK_len ts k p D j
def doR (ts : List ByteArray) (r : Rc) : List ByteArray := doK ts r.kind r.place.toNat (str r.data) r.long.toNat
theorem doR_len (ts : List ByteArray) (r : Rc) : (doR ts r).length = ts.length := doK_len _ _ _ _ _
def blankT : List ByteArray := List.replicate 16 zz
def foldR (l : List Rc) : List ByteArray := l.foldl doR blankT
theorem foldR_snoc (l : List Rc) (r : Rc) : foldR (l ++ [r]) = doR (foldR l) r := by unfold foldR; rw [List.foldl_append]; rfl
theorem foldR_len (l : List Rc) : (foldR l).length = 16 := by
  have : ∀ (l : List Rc) (ts : List ByteArray), ts.length = 16 → (l.foldl doR ts).length = 16 := by
    intro l
    induction l with
    | nil => intro ts h; exact h
    | cons r l ih => intro ts h; exact ih _ (by rw [doR_len]; exact h)
  exact this l blankT (by simp [blankT])
theorem set_set {α : Type} (l : List α) (i : Nat) (a b : α) : (l.set i a).set i b = l.set i b := List.set_set ..
theorem RecAt.but {B R : Nat} {k p n : Int} {D : ByteArray} {v v' : World} (h : RecAt B k p n D v) (g : But R v v') (hB : B ≠ R) : RecAt B k p n D v' := by
  have hc : ∀ i, v'.cell? ⟨B, i, none⟩ = v.cell? ⟨B, i, none⟩ := fun i => g.cell B i h.lt hB
  exact ⟨(hc 0).trans h.c0, (hc 1).trans h.c1, (hc 2).trans h.c2, (hc 3).trans h.c3, Nat.lt_of_lt_of_le h.lt g.size⟩
theorem SRow.drew {R : Nat} {l : List ByteArray} {w : World} (h : SRow R l w) : SRow R l w.drew := GRow.drew h
set_option maxHeartbeats 1000000 in
theorem l3do_any (R cap : Nat) (ts : List ByteArray) (k : Int) (p n : Nat) (D : ByteArray) (w : World) (hts : ts.length = 16) (hpn : 0 < n → p + n ≤ 16) (hp : p ≤ 200) (hn : n ≤ 4) (hD : k = 1 → D.size = 2 * n) (hR : SRow R ts w) :
    Calls Tryd.prog 58 #[.slice (some ⟨R, 0, none⟩) 16 cap, .agg #[.int .i64 k, .int .i64 (p : Int), .int .i64 (n : Int), .string D]] w fun e w' => e = .returned (.tuple #[]) ∧ SRow R (doK ts k p D n) w' ∧ But R w w' := by
  have HR : Hid (SRow R ts (w.alloc (.cells #[.int .i64 k, .int .i64 (p : Int), .int .i64 (n : Int), .string D] 36))) := hR.below ((Below.refl _ _).alloc (Nat.le_refl _) _)
  have hRw : R < w.heap.size := hR.lt
  have HC0 : Hid (RecAt w.heap.size k p n D (w.alloc (.cells #[.int .i64 k, .int .i64 (p : Int), .int .i64 (n : Int), .string D] 36))) := RecAt.start k p n D w 36
  clear hR
  go_enter Tryd.func58, Tryd.ntmps58
  go_wp2
  go_loopw [4] (fun i wr => ∃ (j : Nat), j ≤ n ∧ i = .int .i64 j ∧ SRow R (doK ts k p D j) wr ∧ RecAt w.heap.size k p n D wr ∧ But R w wr) (fun i _ => n - (intOf i).toNat)
  case atStart => exact ⟨0, Nat.zero_le _, rfl, HR.out, HC0.out, (But.refl R w).alloc _⟩
  case round =>
    obtain ⟨j, hj, rfl, hrow, hrec, hbut⟩ := hrel
    have HROW : Hid (SRow R (doK ts k p D j) wr) := hrow
    have HREC : Hid (RecAt w.heap.size k p n D wr) := hrec
    have HBUT : Hid (But R w wr) := hbut
    obtain ⟨c0, c1, c2, c3, hlw⟩ := hrec
    have hlen := doK_len ts k p D j
    by_cases hlt : j < n
    · have hpj : p + j < 16 := by have := hpn (by omega); omega
      have y0 := hrow.cell (p + j) (by omega)
      have f0 := hrow.free (p + j) (by omega)
      have hx : (0 : Int) ≤ (p : Int) + (j : Int) := by omega
      have hx2 : (p : Int) + (j : Int) < 16 := by omega
      have hx3 : ((p : Int) + (j : Int)).toNat = p + j := by omega
      clear hbut hrow
      generalize (doK ts k p D j)[p + j] = yd at *
      by_cases hk : k = 1
      · subst hk
        have hDs := hD rfl
        have hcut := fun v => cut_at D (2 * j) (2 * j + 2) (2 * (j : Int)) (2 * (j : Int) + 2) (by omega) (by omega) (by omega) (by omega) v
        have HN : Hid (doK ts 1 p D (j + 1) = (doK ts 1 p D j).set (p + j) (D.extract (2 * j) (2 * j + 2))) := rfl
        have HROW2 : Hid (SRow R ((doK ts 1 p D j).set (p + j) zz) (wr.setCell ⟨R, p + j, none⟩ (.string ⟨#[0, 0]⟩))) := HROW.out.set (p + j) (by omega) zz
        have hne : (⟨R, p + j, none⟩ : Addr) ≠ ⟨w.heap.size, 0, none⟩ := fun e => by have := congrArg Addr.block e; simp at this; omega
        generalize hX : D.extract (2 * j) (2 * j + 2) = X at *
        clear hX
        clear hne
        have HB2 : Hid (But R w (wr.setCell ⟨R, p + j, none⟩ (.string ⟨#[0, 0]⟩))) := HBUT.out.setCell _ _
        have HREC2 : Hid (RecAt w.heap.size 1 p n D (wr.setCell ⟨R, p + j, none⟩ (.string ⟨#[0, 0]⟩))) := HREC.out.but ((But.refl R wr).setCell _ _) (by omega)
        have z0 : (wr.setCell ⟨R, p + j, none⟩ (.string ⟨#[0, 0]⟩)).cell? ⟨R, p + j, none⟩ = some (.string ⟨#[0, 0]⟩) := World.cell?_setCell_same _ _ _ y0
        have z1 : (wr.setCell ⟨R, p + j, none⟩ (.string ⟨#[0, 0]⟩)).frozen? ⟨R, p + j, none⟩ = false := by rw [World.frozen?_setCell]; exact f0
        go_wp2_with fail
        generalize wr.setCell ⟨R, p + j, none⟩ (.string ⟨#[0, 0]⟩) = w2 at *
        have HROW2' : Hid (SRow R ((doK ts 1 p D j).set (p + j) zz) w2) := HROW2
        obtain ⟨d0, d1, d2, d3, _⟩ := HREC2.out
        clear c0 c1 c2 c3 y0 f0 HROW2 HREC HBUT HROW
        go_big_region
        all_goals
          go_wp2
          go_roundw
          case rel =>
            refine ⟨j + 1, by omega, by go_num, ?_, HREC2.out.but (((But.refl R w2).setCell _ _).drew) (by omega), (HB2.out.setCell _ _).drew⟩
            have h9 := HROW2'.out.set (p + j) (by rw [List.length_set]; omega) X
            rw [set_set] at h9
            rw [HN.out]
            exact h9.drew
          case measure => simp [intOf]; omega
      · have hk2 : (k == 1) = false := by rw [beq_eq_false_iff_ne]; exact hk
        have HN : Hid (doK ts k p D (j + 1) = (doK ts k p D j).set (p + j) zz) := by show (doK ts k p D j).set (p + j) (pieceT k D j) = _; rw [pieceT_else hk]
        clear hk hD
        go_wp2
        go_roundw
        case rel => exact ⟨j + 1, by omega, by go_num, by rw [HN.out]; exact HROW.out.set (p + j) (by omega) zz, HREC.out.but ((But.refl R wr).setCell _ _) (by omega), HBUT.out.setCell _ _⟩
        case measure => simp [intOf]; omega
    · obtain rfl : j = n := by omega
      clear hrow hbut
      go_wp2
      go_end0
      exact ⟨rfl, HROW.out, HBUT.out⟩
def svals (l : List ByteArray) : List Value := l.map fun s => .string s
theorem svals_flat (l : List ByteArray) : (l.map scell).flatten = svals l := by
  induction l with
  | nil => rfl
  | cons x l ih => rw [List.map_cons, List.flatten_cons, ih]; rfl
theorem infoStr : (Tryd.prog.info? 9).map (fun i => (i.zero, i.size, i.bytes)) = some (some (.string ⟨#[]⟩), 1, 16) := by kernel_rfl
theorem rep_snoc (j : Nat) : List.replicate (j + 1) zz = List.replicate j zz ++ [zz] := List.replicate_succ'
set_option maxHeartbeats 1000000 in
theorem l3blank_any (w : World) :
    Calls Tryd.prog 57 #[] w fun e w' => ∃ R c, w.heap.size ≤ R ∧ e = .returned (.slice (some ⟨R, 0, none⟩) 16 c) ∧ SRow R blankT w' ∧ Below w.heap.size w w' := by
  obtain ⟨i0, hi, hz0, hz1, hz2⟩ := info_parts infoStr
  go_enter Tryd.func57, Tryd.ntmps57
  go_wp2
  go_loopw [1, 2] (fun o i wr => ∃ (j : Nat) (o1 : Value), j ≤ 16 ∧ i = .int .i64 j ∧ o = o1 ∧ wr.ownsRow w.heap.size 9 1 o1 j (svals (List.replicate j zz)) ∧ (0 < j → ¬ o1 = .slice none 0 0) ∧ Below w.heap.size w wr) (fun _ i _ => 16 - (intOf i).toNat)
  case atStart => exact ⟨0, _, by omega, rfl, rfl, World.ownsRow_nil _ _ _ _, fun h => absurd h (Nat.lt_irrefl _), Below.refl _ _⟩
  case round =>
    obtain ⟨j, _, hj, rfl, rfl, hown, hnn, hbel⟩ := hrel
    have HOWN : Hid (wr.ownsRow w.heap.size 9 1 u1 j (svals (List.replicate j zz))) := hown
    have HNN : Hid (0 < j → ¬ u1 = .slice none 0 0) := hnn
    have HBEL : Hid (Below w.heap.size w wr) := hbel
    have hszr := hbel.size
    clear hown hbel hnn
    by_cases hlt : j < 16
    · go_wp2_with (at_builtin; refine wpList_append_own _ rfl (.tmp 7) (.tmp 8) 41 rfl w.heap.size 9 i0 _ 1 16 Tryd.underlying41 hi hz0 hz1 hz2 rfl (by decide) u1 j (svals (List.replicate j zz)) rfl ?own ⟨wr.heap.size, 0, none⟩ 1 1 [.string ⟨#[0, 0]⟩] rfl rfl ?news ?one ?c3 ?c4 ?c5 ?_)
      case own => exact HOWN.out.alloc _
      case news =>
        intro i u hi
        match i, hi with
        | 0, hi => simp at hi; subst hi; go_simp
      case one => intro u hu; simp at hu; subst hu; rfl
      case c3 => unfold maxLen; omega
      case c4 => omega
      case c5 => simp; omega
      intro v' w9 hown9 hgrow hnil
      have HOWN9 : Hid (w9.ownsRow w.heap.size 9 1 v' (j + 1) (svals (List.replicate (j + 1) zz))) := by
        show w9.ownsRow w.heap.size 9 1 v' (j + 1) (svals (List.replicate (j + 1) zz))
        have e : svals (List.replicate (j + 1) zz) = svals (List.replicate j zz) ++ [.string ⟨#[0, 0]⟩] := by rw [rep_snoc]; simp [svals, zz]
        rw [e]
        exact hown9
      have HNN9 : Hid (0 < j + 1 → ¬ v' = .slice none 0 0) := fun _ => hnil
      have HB9 : Hid (Below w.heap.size w w9) := (HBEL.out.alloc hszr _).grown hgrow (by simp; omega) (fun i hi => (HOWN.out.lt i hi).1)
      clear hown9 hgrow hnil
      go_wp2
      go_roundw
      case rel => exact ⟨j + 1, _, by omega, by go_num, rfl, HOWN9.out, HNN9.out, HB9.out⟩
      case measure => simp [intOf]; omega
    · obtain rfl : j = 16 := by omega
      have hf := HOWN.out
      rw [← svals_flat] at hf
      obtain ⟨R, c, rfl, hR, hrow⟩ := GRow.ofOwns (rows := (List.replicate 16 zz).map scell) (fun i hi => by rw [List.getElem_map]; rfl) hf (by simp) (HNN.out (by omega))
      have HX : Hid (SRow R blankT wr) := hrow
      clear hf hrow HOWN HNN
      go_wp2
      go_ret
      exact ⟨R, c, hR, rfl, HX.out, HBEL.out⟩
theorem good_do {r : Rc} (h : goodR r = true) : ∃ p n : Nat, r.place = p ∧ r.long = n ∧ (0 < n → p + n ≤ 16) ∧ p ≤ 200 ∧ n ≤ 4 ∧ (r.kind = 1 → (str r.data).size = 2 * n) := by
  have hc := good_cases h
  refine ⟨r.place.toNat, r.long.toNat, by omega, by omega, fun h0 => by have := hc.2.2.2.2.2.2.1 (by omega); omega, by omega, by omega, fun hk => ?_⟩
  have := hc.2.2.2.2.2.2.2.1 hk
  rw [str_size]; omega
theorem l3do_rec (R cap : Nat) (ts : List ByteArray) (r : Rc) (w : World) (hts : ts.length = 16) (hg : goodR r = true) (hR : SRow R ts w) :
    Calls Tryd.prog 58 #[.slice (some ⟨R, 0, none⟩) 16 cap, .agg #[.int .i64 r.kind, .int .i64 r.place, .int .i64 r.long, .string (str r.data)]] w fun e w' => e = .returned (.tuple #[]) ∧ SRow R (doR ts r) w' ∧ But R w w' := by
  obtain ⟨p, n, e1, e2, h1, h2, h3, h4⟩ := good_do hg
  unfold doR
  rw [e1, e2, Int.toNat_natCast, Int.toNat_natCast]
  exact l3do_any R cap ts r.kind p n (str r.data) w hts h1 h2 h3 h4 hR
set_option maxHeartbeats 1000000 in
theorem l3fold_any (a : Option Addr) (cap : Nat) (l : List Rc) (w : World) (hn : l.length ≤ 1048576) (hZ : Rs w.heap.size a l w) (hg : goodL l = true) :
    Calls Tryd.prog 46 #[.slice a l.length cap] w fun e w' => ∃ R c, w.heap.size ≤ R ∧ e = .returned (.slice (some ⟨R, 0, none⟩) 16 c) ∧ SRow R (foldR l) w' ∧ Below w.heap.size w w' := by
  have HZ : Hid (Rs w.heap.size a l w) := hZ
  have HG : Hid (goodL l = true) := hg
  clear hZ hg
  go_enter Tryd.func46, Tryd.ntmps46
  go_wp2_with fail
  refine (l3blank_any _).mono ?_
  rintro e w1 ⟨R, c, hR, rfl, hrow, b1⟩
  have HROW1 : Hid (SRow R blankT w1) := hrow
  have HB1 : Hid (Below w.heap.size w w1) := b1
  clear hrow b1
  go_wp2
  go_loopw [9] (fun i wr => ∃ k : Nat, k ≤ l.length ∧ i = .int .i64 k ∧ SRow R (foldR (l.take k)) wr ∧ Below w.heap.size w wr) (fun i _ => l.length - (intOf i).toNat)
  case atStart => exact ⟨0, Nat.zero_le _, rfl, HROW1.out, HB1.out⟩
  case round =>
    obtain ⟨k, hk, rfl, hrow, hbel⟩ := hrel
    have HROW : Hid (SRow R (foldR (l.take k)) wr) := hrow
    have HBEL : Hid (Below w.heap.size w wr) := hbel
    have hszr := hbel.size
    have hlr := hrow.lt
    clear hrow hbel
    by_cases hlt : k < l.length
    · obtain ⟨b, off, rfl, hb, hcells⟩ := HZ.out.cell (by omega)
      obtain ⟨c0, c1, c2, c3⟩ := hcells k hlt
      have hb' : ∀ o, wr.cell? ⟨b, o, none⟩ = w.cell? ⟨b, o, none⟩ := fun o => HBEL.out.cell (p := ⟨b, o, none⟩) hb
      rw [← hb'] at c0 c1 c2 c3
      clear hcells hb'
      have hgk := good_at HG.out k hlt
      have HC : Hid (∀ v, SRow R (foldR (l.take k)) v → Calls Tryd.prog 58 #[.slice (some ⟨R, 0, none⟩) 16 c, .agg #[.int .i64 l[k].kind, .int .i64 l[k].place, .int .i64 l[k].long, .string (str l[k].data)]] v fun e w' => e = .returned (.tuple #[]) ∧ SRow R (foldR (l.take (k + 1))) w' ∧ But R v w') := fun v hv => by
        rw [take_snoc l k hlt, foldR_snoc]
        exact l3do_rec R c _ l[k] v (foldR_len _) hgk hv
      clear hgk
      generalize l[k].kind = rk at *
      generalize l[k].place = rp at *
      generalize l[k].long = rn at *
      generalize str l[k].data = rd at *
      go_wp2_with fail
      refine (HC.out _ (HROW.out.below ((Below.refl _ _).alloc (Nat.le_refl _) _))).mono ?_
      rintro e w2 ⟨rfl, hrow2, but2⟩
      have HROW2 : Hid (SRow R (foldR (l.take (k + 1))) w2) := hrow2
      have HB2 : Hid (Below w.heap.size w w2) := (HBEL.out.alloc hszr _).trans (but2.below hR (by simp; omega))
      clear hrow2 but2
      go_wp2
      go_roundw
      case rel => exact ⟨k + 1, by omega, by go_num, HROW2.out, HB2.out⟩
      case measure => simp [intOf]; omega
    · obtain rfl : k = l.length := by omega
      rw [List.take_length] at HROW
      go_wp2
      go_ret
      exact ⟨R, c, hR, rfl, HROW.out, HBEL.out⟩
def foldOk (l : List Rc) : Bool := goodL l && decide (l.length ≤ 60)
set_option maxHeartbeats 400000 in
theorem sfold_no (a : Option Addr) (cap : Nat) (l : List Rc) (w : World) (hn : l.length ≤ 1048576) (hZ : Rs w.heap.size a l w) (h : foldOk l = false) :
    Calls Tryd.prog 22 #[.slice a l.length cap] w fun e w' => e = .returned (.tuple #[.slice none 0 0, .bool false]) ∧ Below w.heap.size w w' := by
  have HC : Hid (Calls Tryd.prog 33 #[.slice a l.length cap] w fun e w' => e = .returned (.bool (goodL l)) ∧ Below w.heap.size w w') := l3good_any a cap l w hn hZ
  unfold foldOk at h
  cases hg : goodL l
  · rw [hg] at HC
    clear hZ hg h
    go_enter Tryd.func22, Tryd.ntmps22
    go_wp2_with fail
    refine (HC.out).mono ?_
    rintro e w1 ⟨rfl, b1⟩
    have HB : Hid (Below w.heap.size w w1) := b1
    clear b1
    go_wp2
    go_ret2
    exact ⟨rfl, HB.out⟩
  · rw [hg, Bool.true_and] at h
    have h6 := of_decide_eq_false h
    have hd : decide ((60 : Int) < (l.length : Int)) = true := by simp; omega
    rw [hg] at HC
    clear hZ hg h
    go_enter Tryd.func22, Tryd.ntmps22
    go_wp2_with fail
    refine (HC.out).mono ?_
    rintro e w1 ⟨rfl, b1⟩
    have HB : Hid (Below w.heap.size w w1) := b1
    clear b1
    go_wp2
    go_ret2
    exact ⟨rfl, HB.out⟩
set_option maxHeartbeats 400000 in
theorem sfold_yes (a : Option Addr) (cap : Nat) (l : List Rc) (w : World) (hZ : Rs w.heap.size a l w) (h : foldOk l = true) :
    Calls Tryd.prog 22 #[.slice a l.length cap] w fun e w' => ∃ R c, w.heap.size ≤ R ∧ e = .returned (.tuple #[.slice (some ⟨R, 0, none⟩) 16 c, .bool true]) ∧ SRow R (foldR l) w' ∧ Below w.heap.size w w' := by
  unfold foldOk at h
  rw [Bool.and_eq_true] at h
  have hg := h.1
  have h6 := of_decide_eq_true h.2
  have HC : Hid (Calls Tryd.prog 33 #[.slice a l.length cap] w fun e w' => e = .returned (.bool true) ∧ Below w.heap.size w w') := by rw [← hg]; exact l3good_any a cap l w (by omega) hZ
  have HF : Hid (∀ v, Below w.heap.size w v → Calls Tryd.prog 46 #[.slice a l.length cap] v fun e w' => ∃ R c, v.heap.size ≤ R ∧ e = .returned (.slice (some ⟨R, 0, none⟩) 16 c) ∧ SRow R (foldR l) w' ∧ Below v.heap.size v w') := fun v g => l3fold_any a cap l v (by omega) ((hZ.below g).mono g.size) hg
  have hd : decide ((60 : Int) < (l.length : Int)) = false := by simp; omega
  clear hZ hg h
  go_enter Tryd.func22, Tryd.ntmps22
  go_wp2_with fail
  refine (HC.out).mono ?_
  rintro e w1 ⟨rfl, b1⟩
  have HB : Hid (Below w.heap.size w w1) := b1
  clear b1
  go_wp2_with fail
  refine (HF.out _ HB.out).mono ?_
  rintro e w2 ⟨R, c, hR, rfl, hrow, b2⟩
  have HX : Hid (SRow R (foldR l) w2 ∧ Below w.heap.size w w2) := ⟨hrow, HB.out.trans (b2.mono HB.out.size)⟩
  have hR' := Nat.le_trans HB.out.size hR
  clear hrow b2
  go_wp2
  go_ret2
  exact ⟨R, c, hR', rfl, HX.out.1, HX.out.2⟩
end Go.Proofs.YthoeffbefmhkjaaDoor
