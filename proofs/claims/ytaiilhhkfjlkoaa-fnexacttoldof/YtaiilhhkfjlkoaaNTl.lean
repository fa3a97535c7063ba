/- Both sides' ToldOf. -/
import Derived.Test.YtaiilhhkfjlkoaaNGs
import Derived.Test.YtaiilhhkfjlkoaaNGw
import Derived.Test.YtaiilhhkfjlkoaaNApp
namespace Go.Proofs.Ytaiilhhkfjlkoaa
set_option maxRecDepth 100000
open Go.ChangeShapes Go.WideShapes Go.ChangeAt Go.RowKit
/-- the pieces that are told -/
def toldV (X : Wd) : List ByteArray := cond (goodW X) (X.pc.take X.td.toNat) []
theorem sEq_eq {a b : ByteArray} (h : sEq a b = true) : a = b := by
  unfold sEq at h
  have h2 : a.toList = b.toList := by simpa using h
  rw [ByteArray.toList_eq, ByteArray.toList_eq] at h2
  exact bytes_inj h2
theorem sNil_eq {a : ByteArray} (h : sNil a = true) : a = ⟨#[]⟩ := by
  unfold sNil at h
  have h2 : a.toList = [] := by simpa using h
  rw [ByteArray.toList_eq] at h2
  exact bytes_inj h2
theorem toldN_true : ∀ (l : List Bool) (j : Nat) (h : j < l.length), j < toldN l → l[j] = true
  | [], j, h, _ => absurd h (by simp)
  | false :: l, j, _, h2 => absurd h2 (Nat.not_lt_zero _)
  | true :: l, 0, _, _ => rfl
  | true :: l, j + 1, h, h2 => by
    have h3 : toldN (true :: l) = toldN l + 1 := by show ((true :: l).takeWhile id).length = _; rw [List.takeWhile_cons]; simp [toldN]
    exact toldN_true l j (by simpa using h) (by omega)
theorem GoodW.held {X : Wd} (g : GoodW X) (j : Nat) (hp : j < X.pc.length) (he : j < X.hl.length) (hs : j < X.hs.length) (h : X.hs[j] = true) : X.hl[j] = X.pc[j] := by
  have := g.ends j hp
  unfold endK at this
  rw [getD_at hp, getD_at he, getD_at hs, h] at this
  exact sEq_eq this
theorem GoodW.told_eq {X : Wd} (g : GoodW X) : X.hl.take X.td.toNat = X.pc.take X.td.toNat := by
  have hn := toldN_le X.hs
  have ht := g.told
  have h1 := g.ne
  have h2 := g.ns
  refine List.ext_getElem (by rw [List.length_take, List.length_take, h1]) fun j hj hj' => ?_
  rw [List.length_take] at hj hj'
  rw [List.getElem_take, List.getElem_take]
  exact g.held j (by omega) (by omega) (by omega) (toldN_true X.hs j (by omega) (by omega))
theorem Ss.take {B : Nat} {a : Option Addr} {l : List ByteArray} {w : World} (h : Ss B a l w) (n : Nat) : Ss B a (l.take n) w := by
  refine ⟨fun h0 => ?_⟩
  have hl : 0 < l.length := by rw [List.length_map, List.length_take] at h0; omega
  obtain ⟨b, off, e, hb, hc⟩ := h.cell hl
  refine ⟨b, off, e, hb, fun i hi j hj => ?_⟩
  rw [List.length_map, List.length_take] at hi
  obtain rfl : j = 0 := by omega
  rw [List.getElem_map, List.getElem_take]
  have := hc i (by omega)
  rw [Nat.mul_one, Nat.add_zero]
  exact this
theorem cut_lowS (a : Option Addr) (k : Nat) (l : List ByteArray) (n : Nat) (s : Int) (hs : s = n) (hn : n ≤ l.length) (hk : l.length ≤ k) : ∃ c, ∀ v, Sem.run Try.prog (Instr.slice 22 (.slice a l.length k) none (some (.int .i64 s)) none) v = .ok (.slice a (l.take n).length c) v := by
  subst hs
  have hz : ∀ v, Sem.run Try.prog (Go.sizeOf (Try.prog.elem 22)) v = .ok 1 v := fun v => by kernel_rfl
  refine ⟨k, fun v => ?_⟩
  have h := run_slice_h (P := Try.prog) v 22 a l.length k (by kernel_rfl) .i64 (n : Int) (by omega) (by omega)
  rw [h, hz]
  have e : (l.take n).length = n := by rw [List.length_take]; omega
  rw [e]
  simp only [Result.andThen, sliced, Int.toNat_natCast, Nat.sub_zero, Nat.zero_mul]
  congr 2
  split
  · rfl
  · cases a with
    | none => rfl
    | some a => simp [Addr.add]
def TellsTold (f : Nat) (X : Wd) (V : List ByteArray) (ok : Bool) : Prop := ∀ (A : Ad) (v : World), WR v.heap.size A X v → CapW A X →
  Calls Try.prog f #[.agg #[.slice A.p X.pc.length A.kp, .int .i64 X.sz, .slice A.h X.hd.length A.kh, .slice A.l X.ln.length A.kl, .slice A.e X.hl.length A.ke, .slice A.s X.hs.length A.ks, .int .i64 X.td]] v fun e w' => ∃ b c, e = .returned (.tuple #[.slice b V.length c, .bool ok]) ∧ OwnS v.heap.size w'.heap.size b V w' ∧ Below v.heap.size v w'
set_option maxHeartbeats 2000000 in
theorem stold_any (X : Wd) (hf : FitW X) : TellsTold 36 X (toldV X) (goodW X) := by
  intro A w h hcap
  have HB := hid (boxB w (.cells #[.slice A.p X.pc.length A.kp, .int .i64 X.sz, .slice A.h X.hd.length A.kh, .slice A.l X.ln.length A.kl, .slice A.e X.hl.length A.ke, .slice A.s X.hs.length A.ks, .int .i64 X.td] 27))
  have HK := hid (heap_last w (.cells #[.slice A.p X.pc.length A.kp, .int .i64 X.sz, .slice A.h X.hd.length A.kh, .slice A.l X.ln.length A.kl, .slice A.e X.hl.length A.ke, .slice A.s X.hs.length A.ks, .int .i64 X.td] 27))
  have HZ : Hid (∀ v, Below w.heap.size w v → WR v.heap.size A X v) := fun v g => h.up g g.size
  have HG := hid (sgoodW_any A X (w.alloc (.cells #[.slice A.p X.pc.length A.kp, .int .i64 X.sz, .slice A.h X.hd.length A.kh, .slice A.l X.ln.length A.kl, .slice A.e X.hl.length A.ke, .slice A.s X.hs.length A.ks, .int .i64 X.td] 27)) hf (HZ.out _ HB.out))
  have HCAP := hid hcap
  clear h hf hcap
  unfold toldV
  go_enter Try.func36, Try.ntmps36
  go_wp2_with fail
  generalize w.alloc (.cells #[.slice A.p X.pc.length A.kp, .int .i64 X.sz, .slice A.h X.hd.length A.kh, .slice A.l X.ln.length A.kl, .slice A.e X.hl.length A.ke, .slice A.s X.hs.length A.ks, .int .i64 X.td] 27) = W at *
  refine HG.out.mono ?_
  rintro e w2 ⟨rfl, b2⟩
  have HB2 := hid (HB.out.trans (b2.mono HB.out.size))
  have HK2 := hid ((b2.block _ (kbox HK.out)).trans HK.out)
  clear b2 HG HK HB
  cases hg : goodW X
  · have HGE := hid hg
    clear hg
    go_wp2_with fail
    go_ret2
    exact ⟨none, 0, by rw [HGE.out]; rfl, by rw [HGE.out]; exact Or.inl rfl, HB2.out⟩
  have hgw := goodW_iff.1 hg
  have HGE := hid hg
  have hn : X.td = (toldN X.hs : Int) := hgw.told
  have hle := toldN_le X.hs
  have hl1 := hgw.ns
  have hl2 := hgw.ne
  have HEQ := hid hgw.told_eq
  have hp12 := (pcOk_iff.1 hgw.pcs).1
  have HP20 := hid (pcOk_iff.1 hgw.pcs).2
  obtain ⟨c, hsl⟩ := cut_lowS A.e A.ke X.hl X.td.toNat X.td (by omega) (by omega) HCAP.out.e
  have hb3 := boxB w2 (.cells #[] 9)
  have HB3 := hid (HB2.out.trans (hb3.mono HB2.out.size))
  have hTK := (HZ.out _ HB3.out).e.take X.td.toNat
  have hl12 : (X.hl.take X.td.toNat).length ≤ 12 := by rw [List.length_take]; omega
  obtain ⟨V, hV⟩ : ∃ V, V = X.hl.take X.td.toNat := ⟨_, rfl⟩
  rw [← hV] at hsl hl12 hTK
  have HV := hid (hV.trans HEQ.out)
  have hz3 : (w2.alloc (.cells #[] 9)).heap.size = w2.heap.size + 1 := by simp
  have hOR : (w2.alloc (.cells #[] 9)).ownsRow w2.heap.size 9 1 (.slice (some ⟨w2.heap.size, 0, none⟩) 0 0) 0 [] := World.ownsRow_made w2 (base := w2.heap.size) (e := 9) (size := 1) #[] 0 (Nat.le_refl _) (by unfold maxLen; omega) rfl
  obtain ⟨v1, w4, r1, o1, g1, -⟩ := app_str (w2.alloc (.cells #[] 9)) w2.heap.size (.slice (some ⟨w2.heap.size, 0, none⟩) 0 0) 0 [] hOR A.e c V hTK (by omega) (by rw [hz3]; omega)
  have g1b := below_of_grown (lo := w2.heap.size) g1 (by rw [hz3]; omega) (fun k e => by have h' : some w2.heap.size = some k := e; injection h'; omega)
  have HB4 : Hid (Below w.heap.size w w4) := HB2.out.trans ((hb3.trans g1b).mono HB2.out.size)
  rw [Nat.zero_add, List.nil_append] at o1
  obtain ⟨b1, c1, rfl, ho1⟩ := own_strs o1
  have HO1 := hid ho1
  have x4 : (w2.alloc (.cells #[] 9)).cell? ⟨w.heap.size, 4, none⟩ = some (.slice A.e X.hl.length A.ke) := box_cell ((hb3.block _ (kbox HK2.out)).trans HK2.out) 4
  have x6 : (w2.alloc (.cells #[] 9)).cell? ⟨w.heap.size, 6, none⟩ = some (.int .i64 X.td) := box_cell ((hb3.block _ (kbox HK2.out)).trans HK2.out) 6
  have HS2 := hid HB2.out.size
  clear hgw hg hn hle hl1 hl2 hp12 hb3 hz3 hl12 hOR o1 g1 g1b ho1 hTK hV HEQ
  go_wp2_with (at_builtin; refine wpList_append_run rfl (.tmp 7) (.tmp 12) 22 rfl _ _ rfl rfl _ _ r1 ?_)
  go_ret2
  exact ⟨b1, c1, by rw [HGE.out]; show _ = Ending.returned (.tuple #[.slice b1 (X.pc.take X.td.toNat).length c1, .bool true]); rw [← HV.out]; rfl, by rw [HGE.out]; show OwnS _ _ b1 (X.pc.take X.td.toNat) _; rw [← HV.out]; exact HO1.out.wide HS2.out (Nat.le_refl _), HB4.out⟩
set_option maxHeartbeats 2000000 in
theorem itold_any (X : Wd) (hf : FitW X) : TellsTold 37 X (toldV X) (goodW X) := by
  intro A w h hcap
  have HB := hid (boxB w (.cells #[.slice A.p X.pc.length A.kp, .int .i64 X.sz, .slice A.h X.hd.length A.kh, .slice A.l X.ln.length A.kl, .slice A.e X.hl.length A.ke, .slice A.s X.hs.length A.ks, .int .i64 X.td] 27))
  have HK := hid (heap_last w (.cells #[.slice A.p X.pc.length A.kp, .int .i64 X.sz, .slice A.h X.hd.length A.kh, .slice A.l X.ln.length A.kl, .slice A.e X.hl.length A.ke, .slice A.s X.hs.length A.ks, .int .i64 X.td] 27))
  have HZ : Hid (∀ v, Below w.heap.size w v → WR v.heap.size A X v) := fun v g => h.up g g.size
  have HG := hid (igoodW_any A X (w.alloc (.cells #[.slice A.p X.pc.length A.kp, .int .i64 X.sz, .slice A.h X.hd.length A.kh, .slice A.l X.ln.length A.kl, .slice A.e X.hl.length A.ke, .slice A.s X.hs.length A.ks, .int .i64 X.td] 27)) hf (HZ.out _ HB.out))
  have HCAP := hid hcap
  clear h hf hcap
  unfold toldV
  go_enter Try.func37, Try.ntmps37
  go_wp2_with fail
  generalize w.alloc (.cells #[.slice A.p X.pc.length A.kp, .int .i64 X.sz, .slice A.h X.hd.length A.kh, .slice A.l X.ln.length A.kl, .slice A.e X.hl.length A.ke, .slice A.s X.hs.length A.ks, .int .i64 X.td] 27) = W at *
  refine HG.out.mono ?_
  rintro e w2 ⟨rfl, b2⟩
  have HB2 := hid (HB.out.trans (b2.mono HB.out.size))
  have HK2 := hid ((b2.block _ (kbox HK.out)).trans HK.out)
  clear b2 HG HK HB
  cases hg : goodW X
  · have HGE := hid hg
    clear hg
    go_wp2_with fail
    go_ret2
    exact ⟨none, 0, by rw [HGE.out]; rfl, by rw [HGE.out]; exact Or.inl rfl, HB2.out⟩
  have hgw := goodW_iff.1 hg
  have HGE := hid hg
  have hn : X.td = (toldN X.hs : Int) := hgw.told
  have hle := toldN_le X.hs
  have hl1 := hgw.ns
  have hl2 := hgw.ne
  have HEQ := hid hgw.told_eq
  have hp12 := (pcOk_iff.1 hgw.pcs).1
  have HP20 := hid (pcOk_iff.1 hgw.pcs).2
  obtain ⟨c, hsl⟩ := cut_lowS A.p A.kp X.pc X.td.toNat X.td (by omega) (by omega) HCAP.out.p
  have HC0 := (copyTexts_any A.p c (X.pc.take X.td.toNat) w2 (by rw [List.length_take]; omega) (fun k hk => by
    have h20 : k < X.pc.length := by rw [List.length_take] at hk; omega
    rw [List.getElem_take]; have := HP20.out k h20; omega) ((HZ.out _ HB2.out).p.take _))
  obtain ⟨V, hV⟩ : ∃ V, V = X.pc.take X.td.toNat := ⟨_, rfl⟩
  rw [← hV] at hsl HC0
  have HC := hid HC0
  have HV := hid hV
  clear HC0 hV HEQ
  have x0 : w2.cell? ⟨w.heap.size, 0, none⟩ = some (.slice A.p X.pc.length A.kp) := box_cell HK2.out 0
  have x6 : w2.cell? ⟨w.heap.size, 6, none⟩ = some (.int .i64 X.td) := box_cell HK2.out 6
  have HS2 := hid HB2.out.size
  clear hgw hg hn hle hl1 hl2 hp12
  go_wp2_with fail
  refine HC.out.mono ?_
  rintro e w4 ⟨v, rfl, o1, b4⟩
  have HB4 := hid (HB2.out.trans (b4.mono HB2.out.size))
  obtain ⟨b1, c1, rfl, ho1⟩ := own_strs o1
  have HO1 := hid ho1
  clear o1 ho1 b4 HC
  go_wp2_with fail
  go_ret2
  exact ⟨b1, c1, by rw [HGE.out]; show _ = Ending.returned (.tuple #[.slice b1 (X.pc.take X.td.toNat).length c1, .bool true]); rw [← HV.out]; rfl, by rw [HGE.out]; show OwnS _ _ b1 (X.pc.take X.td.toNat) _; rw [← HV.out]; exact HO1.out.wide HS2.out (Nat.le_refl _), HB4.out⟩
end Go.Proofs.Ytaiilhhkfjlkoaa
