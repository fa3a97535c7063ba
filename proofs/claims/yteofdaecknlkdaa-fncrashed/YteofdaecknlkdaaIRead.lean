/- Walks of the program's ReadZone. -/
import Derived.Test.YteofdaecknlkdaaIThere
import Derived.Test.YteofdaecknlkdaaSRead
namespace Go.Proofs.Yteofdaecknlkdaa
set_option maxRecDepth 100000
open Go.ChangeShapes Go.WideShapes Go.ChangeAt Go.RowKit
set_option maxHeartbeats 1000000 in
theorem iread_none (a : Option Addr) (cap : Nat) (zs : List Zn) (k f l : Int) (w : World) (hn : zs.length ≤ 1048576) (hZ : Zs w.heap.size a zs w) (h : ¬ there zs k) :
    Calls Try.prog 11 #[.agg #[.slice a zs.length cap], .int .i64 k, .int .i64 f, .int .i64 l] w fun e w' => e = .returned (.tuple #[.string ⟨#[]⟩, .bool false]) ∧ Below w.heap.size w w' := by
  have HZ : Hid (∀ w', Below w.heap.size w w' → Zs w'.heap.size a zs w') := fun w' g => (hZ.below g).mono g.size
  have HT : Hid (¬ there zs k) := h
  clear hZ h
  go_enter Try.func11, Try.ntmps11
  go_wp2_with fail
  refine (has_no a cap zs k _ hn (HZ.out _ ((Below.refl _ _).alloc (Nat.le_refl _) _)) HT.out).mono ?_
  rintro e w1 ⟨rfl, b1⟩
  have HB2 : Hid (Below w.heap.size w w1) := ((Below.refl _ _).alloc (Nat.le_refl _) _).trans (b1.mono (by simp))
  clear b1
  go_wp2
  refine bodyPost_ret (v := .tuple #[.string ⟨#[]⟩, .bool false]) (by simp [results, Try.results11, go_sem]) rfl ⟨rfl, HB2.out⟩
set_option maxHeartbeats 1000000 in
theorem iread_out (a : Option Addr) (cap : Nat) (zs : List Zn) (k : Nat) (f l : Int) (w : World) (hZ : Zs w.heap.size a zs w) (h : there zs k) (hk : k < zs.length) (hf : f < 0 ∨ (zs[k].data.size : Int) < f) :
    Calls Try.prog 11 #[.agg #[.slice a zs.length cap], .int .i64 k, .int .i64 f, .int .i64 l] w fun e w' => e = .returned (.tuple #[.string ⟨#[]⟩, .bool false]) ∧ Below w.heap.size w w' := by
  have hl := goodD_len h.1
  have hn : zs.length ≤ 1048576 := by omega
  have hsm := goodD_small h.1 _ (List.getElem_mem hk)
  obtain ⟨b, off, rfl, hb, hc⟩ := hZ.cell (by omega)
  obtain ⟨c0, c1, c2⟩ := hc k hk
  have HZ : Hid (∀ w', Below w.heap.size w w' → Zs w'.heap.size (some ⟨b, off, none⟩) zs w') := fun w' g => (hZ.below g).mono g.size
  have HT : Hid (there zs k) := h
  clear hZ h hc
  go_enter Try.func11, Try.ntmps11
  go_wp2_with fail
  refine (has_yes (some ⟨b, off, none⟩) cap zs k _ hn (HZ.out _ ((Below.refl _ _).alloc (Nat.le_refl _) _)) HT.out).mono ?_
  rintro e w1 ⟨rfl, b1⟩
  have hbel1 : Below w.heap.size w w1 := ((Below.refl _ _).alloc (Nat.le_refl _) _).trans (b1.mono (by simp))
  have hd : w1.cell? ⟨w.heap.size, 0, none⟩ = some (.slice (some ⟨b, off, none⟩) zs.length cap) := by
    rw [b1.cell (p := ⟨w.heap.size, 0, none⟩) (by simp)]; go_simp
  have x0 := (hbel1.cell (p := ⟨b, off + k * 3, none⟩) hb).trans c0
  have x1 := (hbel1.cell (p := ⟨b, off + k * 3 + 1, none⟩) hb).trans c1
  have x2 := (hbel1.cell (p := ⟨b, off + k * 3 + 2, none⟩) hb).trans c2
  have HB1 : Hid (Below w.heap.size w w1) := hbel1
  clear b1 hbel1 c0 c1 c2
  generalize zs[k].data = dd at *
  generalize zs[k].sure = ss at *
  generalize zs[k].full = ff at *
  by_cases g0 : f < 0
  · have hd0 : decide (f < 0) = true := by simpa using g0
    go_wp2
    refine bodyPost_ret (v := .tuple #[.string ⟨#[]⟩, .bool false]) (by simp [results, Try.results11, go_sem]) rfl ⟨rfl, HB1.out⟩
  · have hd0 : decide (f < 0) = false := by simpa using g0
    have hd1 : decide ((dd.size : Int) < f) = true := by simp; omega
    go_wp2
    refine bodyPost_ret (v := .tuple #[.string ⟨#[]⟩, .bool false]) (by simp [results, Try.results11, go_sem]) rfl ⟨rfl, HB1.out⟩
set_option maxHeartbeats 1000000 in
theorem iread_long (a : Option Addr) (cap : Nat) (zs : List Zn) (k : Nat) (f l : Int) (w : World) (hZ : Zs w.heap.size a zs w) (h : there zs k) (hk : k < zs.length) (f0 : 0 ≤ f) (f1 : f ≤ (zs[k].data.size : Int)) (hg : l < 0 ∨ (zs[k].data.size : Int) - f < l) :
    Calls Try.prog 11 #[.agg #[.slice a zs.length cap], .int .i64 k, .int .i64 f, .int .i64 l] w fun e w' => e = .returned (.tuple #[.string ⟨#[]⟩, .bool false]) ∧ Below w.heap.size w w' := by
  have hl := goodD_len h.1
  have hn : zs.length ≤ 1048576 := by omega
  have hsm := goodD_small h.1 _ (List.getElem_mem hk)
  obtain ⟨b, off, rfl, hb, hc⟩ := hZ.cell (by omega)
  obtain ⟨c0, c1, c2⟩ := hc k hk
  have HZ : Hid (∀ w', Below w.heap.size w w' → Zs w'.heap.size (some ⟨b, off, none⟩) zs w') := fun w' g => (hZ.below g).mono g.size
  have HT : Hid (there zs k) := h
  clear hZ h hc
  go_enter Try.func11, Try.ntmps11
  go_wp2_with fail
  refine (has_yes (some ⟨b, off, none⟩) cap zs k _ hn (HZ.out _ ((Below.refl _ _).alloc (Nat.le_refl _) _)) HT.out).mono ?_
  rintro e w1 ⟨rfl, b1⟩
  have hbel1 : Below w.heap.size w w1 := ((Below.refl _ _).alloc (Nat.le_refl _) _).trans (b1.mono (by simp))
  have hd : w1.cell? ⟨w.heap.size, 0, none⟩ = some (.slice (some ⟨b, off, none⟩) zs.length cap) := by
    rw [b1.cell (p := ⟨w.heap.size, 0, none⟩) (by simp)]; go_simp
  have x0 := (hbel1.cell (p := ⟨b, off + k * 3, none⟩) hb).trans c0
  have x1 := (hbel1.cell (p := ⟨b, off + k * 3 + 1, none⟩) hb).trans c1
  have x2 := (hbel1.cell (p := ⟨b, off + k * 3 + 2, none⟩) hb).trans c2
  have HB1 : Hid (Below w.heap.size w w1) := hbel1
  clear b1 hbel1 c0 c1 c2
  generalize zs[k].data = dd at *
  generalize zs[k].sure = ss at *
  generalize zs[k].full = ff at *
  have hd0 : decide (f < 0) = false := by simp; omega
  have hd1 : decide ((dd.size : Int) < f) = false := by simp; omega
  by_cases g0 : l < 0
  · have hd2 : decide (l < 0) = true := by simpa using g0
    go_wp2
    refine bodyPost_ret (v := .tuple #[.string ⟨#[]⟩, .bool false]) (by simp [results, Try.results11, go_sem]) rfl ⟨rfl, HB1.out⟩
  · have hd2 : decide (l < 0) = false := by simpa using g0
    have hd3 : decide ((dd.size : Int) - f < l) = true := by simp; omega
    go_wp2
    refine bodyPost_ret (v := .tuple #[.string ⟨#[]⟩, .bool false]) (by simp [results, Try.results11, go_sem]) rfl ⟨rfl, HB1.out⟩
set_option maxHeartbeats 1000000 in
theorem iread_yes (a : Option Addr) (cap : Nat) (zs : List Zn) (k : Nat) (f l : Nat) (w : World) (hZ : Zs w.heap.size a zs w) (h : there zs k) (hk : k < zs.length) (hfl : f + l ≤ zs[k].data.size) :
    Calls Try.prog 11 #[.agg #[.slice a zs.length cap], .int .i64 k, .int .i64 f, .int .i64 l] w fun e w' => e = .returned (.tuple #[.string (zs[k].data.extract f (f + l)), .bool true]) ∧ Below w.heap.size w w' := by
  have hl := goodD_len h.1
  have hn : zs.length ≤ 1048576 := by omega
  have hsm := goodD_small h.1 _ (List.getElem_mem hk)
  obtain ⟨b, off, rfl, hb, hc⟩ := hZ.cell (by omega)
  obtain ⟨c0, c1, c2⟩ := hc k hk
  have HZ : Hid (∀ w', Below w.heap.size w w' → Zs w'.heap.size (some ⟨b, off, none⟩) zs w') := fun w' g => (hZ.below g).mono g.size
  have HT : Hid (there zs k) := h
  clear hZ h hc
  go_enter Try.func11, Try.ntmps11
  go_wp2_with fail
  refine (has_yes (some ⟨b, off, none⟩) cap zs k _ hn (HZ.out _ ((Below.refl _ _).alloc (Nat.le_refl _) _)) HT.out).mono ?_
  rintro e w1 ⟨rfl, b1⟩
  have hbel1 : Below w.heap.size w w1 := ((Below.refl _ _).alloc (Nat.le_refl _) _).trans (b1.mono (by simp))
  have hd : w1.cell? ⟨w.heap.size, 0, none⟩ = some (.slice (some ⟨b, off, none⟩) zs.length cap) := by
    rw [b1.cell (p := ⟨w.heap.size, 0, none⟩) (by simp)]; go_simp
  have x0 := (hbel1.cell (p := ⟨b, off + k * 3, none⟩) hb).trans c0
  have x1 := (hbel1.cell (p := ⟨b, off + k * 3 + 1, none⟩) hb).trans c1
  have x2 := (hbel1.cell (p := ⟨b, off + k * 3 + 2, none⟩) hb).trans c2
  have HB1 : Hid (Below w.heap.size w w1) := hbel1
  clear b1 hbel1 c0 c1 c2
  generalize hdd : zs[k].data = dd at x0 hfl hsm
  have HDD : Hid (zs[k].data = dd) := hdd
  clear hdd
  generalize zs[k].sure = ss at *
  generalize zs[k].full = ff at *
  have hd0 : decide ((f : Int) < 0) = false := by simp
  have hd1 : decide ((dd.size : Int) < (f : Int)) = false := by simp; omega
  have hd2 : decide ((l : Int) < 0) = false := by simp
  have hd3 : decide ((dd.size : Int) - (f : Int) < (l : Int)) = false := by simp; omega
  have hcut := fun v => cut_str dd f l v hfl
  have HC : Hid (∀ v, Calls Try.prog 37 #[.string (dd.extract f (f + l)), .string ⟨#[]⟩] v fun e w' => e = .returned (.string (dd.extract f (f + l))) ∧ Below v.heap.size v w') := fun v => by
    have := join_any (dd.extract f (f + l)) ⟨#[]⟩ v (by rw [ByteArray.size_extract]; omega) (by decide)
    rw [show dd.extract f (f + l) ++ (⟨#[]⟩ : ByteArray) = dd.extract f (f + l) from ByteArray.append_empty] at this
    exact this
  generalize hxx : dd.extract f (f + l) = xx at *
  have HXX : Hid (dd.extract f (f + l) = xx) := hxx
  clear hxx
  go_wp2_with fail
  refine (HC.out _).mono ?_
  rintro e w2 ⟨rfl, b2⟩
  have HB2 : Hid (Below w.heap.size w w2) := HB1.out.trans (b2.mono HB1.out.size)
  clear b2
  go_wp2
  refine bodyPost_ret (v := .tuple #[.string xx, .bool true]) (by simp [results, Try.results11, go_sem]) rfl ⟨by rw [HDD.out, HXX.out], HB2.out⟩
end Go.Proofs.Yteofdaecknlkdaa
