/- Walks of both sides' ReadBlocks. -/
import Derived.Test.YtbipbihjaeobkaaVJoin
import Derived.Test.YtbipbihjaeobkaaIIn
import Derived.Test.YtbipbihjaeobkaaIn
namespace Go.Proofs.Ytbipbihjaeobkaa
set_option maxRecDepth 100000
open Go.ChangeShapes Go.WideShapes Go.ChangeAt Go.RowKit G00541
def okRd (B : List ByteArray) (F : Int) (L : List Rc) (s at_ long : Int) : Bool := goodV B F L s && spanR at_ long
def rdT (B : List ByteArray) (F : Int) (L : List Rc) (s at_ long : Int) : ByteArray := if okRd B F L s at_ long = true then catT (((doL B L).drop at_.toNat).take long.toNat) else ⟨#[]⟩
theorem rdT_no {B : List ByteArray} {F : Int} {L : List Rc} {s at_ long : Int} (h : okRd B F L s at_ long = false) : rdT B F L s at_ long = ⟨#[]⟩ := by unfold rdT; rw [if_neg (by rw [h]; decide)]
theorem rdT_yes {B : List ByteArray} {F : Int} {L : List Rc} {s : Int} {p n : Nat} (h : okRd B F L s p n = true) : rdT B F L s p n = catT (((doL B L).drop p).take n) := by unfold rdT; rw [if_pos h, Int.toNat_natCast, Int.toNat_natCast]
theorem cutV_at (V : List ByteArray) (p n i : Nat) (hi : i < n) (h : p + n ≤ V.length) : ∃ h2 : p + i < V.length, ((V.drop p).take n)[i]? = some (V[p + i]) := by
  refine ⟨by omega, ?_⟩
  rw [List.getElem?_take_of_lt hi, List.getElem?_drop, List.getElem?_eq_getElem (by omega)]
theorem doK_two_bytes (ts : List ByteArray) (k : Int) (p : Nat) (D : ByteArray) (ht : ∀ t ∈ ts, t.size ≤ 8) : ∀ j, ∀ t ∈ doK ts k p D j, t.size ≤ 8
  | 0, t, h => ht t h
  | j + 1, t, h => by
    have h' : t ∈ (doK ts k p D j).set (p + j) (pieceT k D j) := h
    rcases List.mem_or_eq_of_mem_set h' with h1 | h1
    · exact doK_two_bytes ts k p D ht j t h1
    · subst h1
      unfold pieceT
      split
      · have := ByteArray.size_extract (a := D) (b := 2 * j) (e := 2 * j + 2)
        omega
      · decide
theorem doL_bytes (L : List Rc) : ∀ (B : List ByteArray), (∀ t ∈ B, t.size ≤ 8) → ∀ t ∈ doL B L, t.size ≤ 8 := by
  induction L with
  | nil => intro B h t ht; exact h t ht
  | cons r l ih =>
    intro B h t ht
    have ht' : t ∈ doL (doR B r) l := ht
    exact ih (doR B r) (fun x hx => doK_two_bytes B _ _ _ h _ x hx) t ht'
theorem take_cat (xs : List ByteArray) (i : Nat) (h : i < xs.length) : catT (xs.take (i + 1)) = catT (xs.take i) ++ xs[i] := by
  rw [take_snoc xs i h, catT_snoc]
theorem catT_size (xs : List ByteArray) (h : ∀ x ∈ xs, x.size ≤ 8) : (catT xs).size ≤ 8 * xs.length := by
  have : ∀ (l : List ByteArray), (∀ x ∈ l, x.size ≤ 8) → ((l.map (·.data.toList)).flatten).length ≤ 8 * l.length := by
    intro l
    induction l with
    | nil => intro _; simp
    | cons a l ih =>
      intro h
      have h1 := ih (fun x hx => h x (List.mem_cons_of_mem _ hx))
      have h2 := h a (List.mem_cons_self)
      rw [List.map_cons, List.flatten_cons, List.length_append, List.length_cons]
      have h3 : a.data.toList.length = a.size := Array.length_toList
      omega
  have h1 := this xs h
  show (((xs.map (·.data.toList)).flatten).toArray).size ≤ 8 * xs.length
  rw [List.size_toArray]
  exact h1
set_option maxHeartbeats 4000000 in
theorem sread_any (aB aL : Option Addr) (kB kL : Nat) (B : List ByteArray) (F : Int) (L : List Rc) (s : Int) (at_ long : Int) (w : World) (hf : B.length ≤ 1048576 ∧ L.length ≤ 1048576) (hB : Ss w.heap.size aB B w) (hL : Rs w.heap.size aL L w) :
    Calls Try.prog 31 #[.agg #[.slice aB B.length kB, .int .i64 F, .slice aL L.length kL, .int .i64 s], .int .i64 at_, .int .i64 long] w fun e w' => e = .returned (.tuple #[.string (rdT B F L s at_ long), .bool (okRd B F L s at_ long)]) ∧ Below w.heap.size w w' := by
  have HB := hid (boxB w (.cells #[.slice aB B.length kB, .int .i64 F, .slice aL L.length kL, .int .i64 s] 25))
  have HC1 : Hid (∀ v, Below w.heap.size w v → Calls Try.prog 15 #[.agg #[.slice aB B.length kB, .int .i64 F, .slice aL L.length kL, .int .i64 s]] v fun e w' => e = .returned (.bool (goodV B F L s)) ∧ Below v.heap.size v w') := fun v g => sgoodV_any aB aL kB kL B F L s v hf ((hB.below g).mono g.size) ((hL.below g).mono g.size)
  have HC2 : Hid (GoodV B F L s → ∀ v, Below w.heap.size w v → Calls Try.prog 62 #[.agg #[.slice aB B.length kB, .int .i64 F, .slice aL L.length kL, .int .i64 s]] v fun e w' => ∃ R c, e = .returned (.slice (some ⟨R, 0, none⟩) 16 c) ∧ v.heap.size ≤ R ∧ SRow R (doL B L) w' ∧ Below v.heap.size v w' ∧ 16 ≤ c) := fun h v g => l6In_any aB aL kB kL B F L s v (goodBs_len h.bs) h.len h.recs ((hB.below g).mono g.size) ((hL.below g).mono g.size)
  have y0 : (w.alloc (.cells #[.slice aB B.length kB, .int .i64 F, .slice aL L.length kL, .int .i64 s] 25)).cell? ⟨w.heap.size, 0, none⟩ = some (.slice aB B.length kB) := by go_simp
  have y1 : (w.alloc (.cells #[.slice aB B.length kB, .int .i64 F, .slice aL L.length kL, .int .i64 s] 25)).cell? ⟨w.heap.size, 1, none⟩ = some (.int .i64 F) := by go_simp
  have y2 : (w.alloc (.cells #[.slice aB B.length kB, .int .i64 F, .slice aL L.length kL, .int .i64 s] 25)).cell? ⟨w.heap.size, 2, none⟩ = some (.slice aL L.length kL) := by go_simp
  have y3 : (w.alloc (.cells #[.slice aB B.length kB, .int .i64 F, .slice aL L.length kL, .int .i64 s] 25)).cell? ⟨w.heap.size, 3, none⟩ = some (.int .i64 s) := by go_simp
  have hlt : w.heap.size < (w.alloc (.cells #[.slice aB B.length kB, .int .i64 F, .slice aL L.length kL, .int .i64 s] 25)).heap.size := by simp
  have HNO : Hid (okRd B F L s at_ long = false → rdT B F L s at_ long = ⟨#[]⟩) := rdT_no
  clear hB hL hf
  go_enter Try.func31, Try.ntmps31
  go_wp2_with fail
  generalize w.alloc (.cells #[.slice aB B.length kB, .int .i64 F, .slice aL L.length kL, .int .i64 s] 25) = W at *
  refine (HC1.out _ HB.out).mono ?_
  rintro e w2 ⟨rfl, b2⟩
  have HB2 := hid (HB.out.trans (b2.mono HB.out.size))
  rw [← b2.cell (p := ⟨w.heap.size, 0, none⟩) hlt] at y0
  rw [← b2.cell (p := ⟨w.heap.size, 1, none⟩) hlt] at y1
  rw [← b2.cell (p := ⟨w.heap.size, 2, none⟩) hlt] at y2
  rw [← b2.cell (p := ⟨w.heap.size, 3, none⟩) hlt] at y3
  clear b2 hlt HC1
  cases hg : goodV B F L s
  · have HN : Hid (okRd B F L s at_ long = false) := by show okRd B F L s at_ long = false; unfold okRd; rw [hg]; rfl
    clear hg
    go_wp2_with fail
    go_ret2
    exact ⟨by rw [HNO.out HN.out, HN.out]; rfl, HB2.out⟩
  have HC3 := hid (HC2.out (goodV_iff.1 hg))
  have HGB := hid (goodV_iff.1 hg).bs
  by_cases h1 : 1 ≤ long ∧ long ≤ 4
  case neg =>
    have HN : Hid (okRd B F L s at_ long = false) := by
      show okRd B F L s at_ long = false
      unfold okRd
      rw [span_no (fun h => h1 ⟨h.1, h.2.1⟩), Bool.and_false]
    have HD := hid (fun v => l1In_no long 1 4 v (by omega))
    clear hg h1
    go_wp2_with fail
    refine (HD.out _).mono ?_
    rintro e w3 ⟨rfl, hw3⟩
    rw [hw3]
    go_wp2_with fail
    go_ret2
    exact ⟨by rw [HNO.out HN.out, HN.out]; rfl, HB2.out⟩
  have HD := hid (fun v => l1In_yes long 1 4 v h1.1 h1.2)
  obtain ⟨l1, l4⟩ := h1
  go_wp2_with fail
  refine (HD.out _).mono ?_
  rintro e w3 ⟨rfl, hw3⟩
  rw [hw3]
  clear hw3 HD w3
  by_cases h2 : 0 ≤ at_ ∧ at_ ≤ 16 - long
  case neg =>
    have HN : Hid (okRd B F L s at_ long = false) := by
      show okRd B F L s at_ long = false
      unfold okRd
      rw [span_no (fun h => h2 ⟨h.2.2.1, h.2.2.2⟩), Bool.and_false]
    have HD := hid (fun v => l1In_no at_ 0 (16 - long) v (by omega))
    clear hg h2
    go_wp2_with fail
    refine (HD.out _).mono ?_
    rintro e w3 ⟨rfl, hw3⟩
    rw [hw3]
    go_wp2_with fail
    go_ret2
    exact ⟨by rw [HNO.out HN.out, HN.out]; rfl, HB2.out⟩
  have HD := hid (fun v => l1In_yes at_ 0 (16 - long) v h2.1 h2.2)
  have hok : okRd B F L s at_ long = true := by unfold okRd; rw [hg, span_yes ⟨l1, l4, h2.1, h2.2⟩]; rfl
  have HOK := hid hok
  obtain ⟨p, hp⟩ : ∃ p : Nat, at_ = p := ⟨at_.toNat, by omega⟩
  obtain ⟨n, hn⟩ : ∃ n : Nat, long = n := ⟨long.toNat, by omega⟩
  subst hp hn
  have HV := hid (rdT_yes hok)
  have hpn : p + n ≤ 16 := by omega
  clear hok hg h2 HNO
  go_wp2_with fail
  refine (HD.out _).mono ?_
  rintro e w3 ⟨rfl, hw3⟩
  rw [hw3]
  clear hw3 HD w3
  go_wp2_with fail
  refine (HC3.out _ HB2.out).mono ?_
  rintro e w4 ⟨R, c, rfl, hR, hrow, b4, hc⟩
  have HB4 := hid (HB2.out.trans (b4.mono HB2.out.size))
  have HROW := hid hrow
  have HVL : Hid ((doL B L).length = 16) := by show (doL B L).length = 16; rw [doL_len]; exact goodBs_len HGB.out
  have HSZ : Hid (∀ x ∈ ((doL B L).drop p).take n, x.size ≤ 8) := fun x hx => by
    refine doL_bytes L B (fun t ht => ?_) x (List.mem_of_mem_drop (List.mem_of_mem_take hx))
    obtain ⟨j, hj, rfl⟩ := List.getElem_of_mem ht
    have := goodBs_two HGB.out j hj
    omega
  clear hrow b4 hR HC3 HC2 y0 y1 y2 y3
  generalize doL B L = V at *
  go_wp2_with fail
  go_loopw [8, 34] (fun t i wr => ∃ k : Nat, k ≤ n ∧ i = .int .i64 k ∧ t = .string (catT (((V.drop p).take n).take k)) ∧ wr = w4) (fun _ i _ => n - (intOf i).toNat)
  case atStart => exact ⟨0, Nat.zero_le _, rfl, rfl, rfl⟩
  case round =>
    obtain ⟨k, hk, rfl, rfl, hwr⟩ := hrel
    obtain rfl := hwr.symm
    by_cases hlt : k < n
    · obtain ⟨h2, hat⟩ := cutV_at V p n k hlt (by have := HVL.out; omega)
      have c0 := HROW.out.cell (p + k) h2
      have hlen : k < ((V.drop p).take n).length := by
        rw [List.length_take, List.length_drop]; have := HVL.out; omega
      have HT := hid (take_cat ((V.drop p).take n) k hlen)
      have he : ((V.drop p).take n)[k] = V[p + k] := by
        rw [List.getElem?_eq_getElem hlen] at hat
        exact Option.some.inj hat
      rw [he] at HT
      have hD8 : (V[p + k]).size ≤ 8 := by rw [← he]; exact HSZ.out _ (List.getElem_mem hlen)
      have hT32 : (catT (((V.drop p).take n).take k)).size ≤ 32 := by
        have h9 := catT_size (((V.drop p).take n).take k) (fun x hx => HSZ.out x (List.mem_of_mem_take hx))
        have h10 : (((V.drop p).take n).take k).length ≤ k := by rw [List.length_take]; omega
        omega
      have hTD : (catT (((V.drop p).take n).take k)).size + (V[p + k]).size ≤ 9223372036854775807 := by omega
      clear hat he hlen
      generalize V[p + k] = D at *
      generalize catT (((V.drop p).take n).take k) = T at *
      go_wp2_with fail
      go_roundw
      case rel => exact ⟨k + 1, by omega, by go_num, by rw [HT.out], by trivial⟩
      case measure => simp [intOf]; omega
    · obtain rfl : k = n := by omega
      have HE : Hid (((V.drop p).take k).take k = (V.drop p).take k) := List.take_of_length_le (by rw [List.length_take]; omega)
      rw [HE.out]
      go_wp2_with fail
      go_ret2
      exact ⟨by rw [HV.out, HOK.out]; rfl, HB4.out⟩
set_option maxHeartbeats 4000000 in
theorem iread_any (aB aL : Option Addr) (kB kL : Nat) (B : List ByteArray) (F : Int) (L : List Rc) (s : Int) (at_ long : Int) (w : World) (hf : B.length ≤ 1048576 ∧ L.length ≤ 1048576) (hB : Ss w.heap.size aB B w) (hL : Rs w.heap.size aL L w) :
    Calls Try.prog 32 #[.agg #[.slice aB B.length kB, .int .i64 F, .slice aL L.length kL, .int .i64 s], .int .i64 at_, .int .i64 long] w fun e w' => e = .returned (.tuple #[.string (rdT B F L s at_ long), .bool (okRd B F L s at_ long)]) ∧ Below w.heap.size w w' := by
  have HB := hid (boxB w (.cells #[.slice aB B.length kB, .int .i64 F, .slice aL L.length kL, .int .i64 s] 25))
  have HC1 : Hid (∀ v, Below w.heap.size w v → Calls Try.prog 34 #[.agg #[.slice aB B.length kB, .int .i64 F, .slice aL L.length kL, .int .i64 s]] v fun e w' => BlOut B F L s v e w') := fun v g => iblocksV_any aB aL kB kL B F L s v hf ((hB.below g).mono g.size) ((hL.below g).mono g.size)
  have HNO : Hid (okRd B F L s at_ long = false → rdT B F L s at_ long = ⟨#[]⟩) := rdT_no
  have HD := hid (fun v => goodSpan_any at_ long v)
  clear hB hL hf
  go_enter Try.func32, Try.ntmps32
  go_wp2_with fail
  refine (HC1.out _ HB.out).mono ?_
  rintro e w2 (⟨hg, R, c, rfl, hR, hrow, b2, hc⟩ | ⟨hg, rfl, b2⟩)
  · have HB2 := hid (HB.out.trans (b2.mono HB.out.size))
    have HROW := hid hrow
    have HGB := hid (goodV_iff.1 hg).bs
    have hRl := hrow.lt
    clear b2 hrow hR HC1
    cases hs : spanR at_ long
    · have HN : Hid (okRd B F L s at_ long = false) := by show okRd B F L s at_ long = false; unfold okRd; rw [hs, Bool.and_false]
      rw [hs] at HD
      clear hg hs
      go_wp2_with fail
      refine (HD.out _).mono ?_
      rintro e w3 ⟨rfl, hw3⟩
      rw [hw3]
      go_wp2_with fail
      go_ret2
      exact ⟨by rw [HNO.out HN.out, HN.out]; rfl, HB2.out⟩
    · have h4 := of_decide_eq_true hs
      have hok : okRd B F L s at_ long = true := by unfold okRd; rw [hg, hs]; rfl
      rw [hs] at HD
      obtain ⟨p, hp⟩ : ∃ p : Nat, at_ = p := ⟨at_.toNat, by omega⟩
      obtain ⟨n, hn⟩ : ∃ n : Nat, long = n := ⟨long.toNat, by omega⟩
      subst hp hn
      have HOK := hid hok
      have HV := hid (rdT_yes hok)
      have hpn : p + n ≤ 16 := by omega
      have hn4 : n ≤ 4 := by omega
      have HVL : Hid ((doL B L).length = 16) := by show (doL B L).length = 16; rw [doL_len]; exact goodBs_len HGB.out
      have HSZ : Hid (∀ x ∈ ((doL B L).drop p).take n, x.size ≤ 8) := fun x hx => by
        refine doL_bytes L B (fun t ht => ?_) x (List.mem_of_mem_drop (List.mem_of_mem_take hx))
        obtain ⟨j, hj, rfl⟩ := List.getElem_of_mem ht
        have := goodBs_two HGB.out j hj
        omega
      clear hok hg hs HNO
      generalize doL B L = V at *
      have hxl : ((V.drop p).take n).length = n := by rw [List.length_take, List.length_drop]; have := HVL.out; omega
      have HJ : Hid (Calls Try.prog 64 #[.slice (some ⟨R, p, none⟩) n (c - p), .string ⟨#[]⟩] w2 fun e w' => e = .returned (.string (catT ((V.drop p).take n))) ∧ Below w2.heap.size w2 w') := by
        have := joinS_any R p (c - p) ((V.drop p).take n) w2 (fun j x hx => by
          have hj : j < n := by
            rcases Nat.lt_or_ge j ((V.drop p).take n).length with h' | h'
            · omega
            · rw [List.getElem?_eq_none h'] at hx; cases hx
          obtain ⟨h2, hat⟩ := cutV_at V p n j hj (by have := HVL.out; omega)
          rw [hat] at hx
          rw [← Option.some.inj hx]
          exact HROW.out.cell (p + j) h2) hRl (by omega) (by omega) HSZ.out
        rw [hxl] at this
        exact this
      clear hxl
      go_wp2_with fail
      refine (HD.out _).mono ?_
      rintro e w3 ⟨rfl, hw3⟩
      rw [hw3]
      clear hw3 HD w3
      go_wp2_with fail
      refine HJ.out.mono ?_
      rintro e w4 ⟨rfl, b4⟩
      have HB4 := hid (HB2.out.trans (b4.mono HB2.out.size))
      clear b4 HJ
      go_wp2_with fail
      go_ret2
      exact ⟨by rw [HV.out, HOK.out]; rfl, HB4.out⟩
  · have HB2 := hid (HB.out.trans (b2.mono HB.out.size))
    have HN : Hid (okRd B F L s at_ long = false) := by show okRd B F L s at_ long = false; unfold okRd; rw [hg]; rfl
    clear hg b2 HC1
    go_wp2_with fail
    go_ret2
    exact ⟨by rw [HNO.out HN.out, HN.out]; rfl, HB2.out⟩
end Go.Proofs.Ytbipbihjaeobkaa
