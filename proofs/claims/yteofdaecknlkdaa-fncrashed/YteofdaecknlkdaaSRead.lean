/- Walks of the model's ReadZone. -/
import Derived.Test.YteofdaecknlkdaaThere
import Derived.Laws.Strings2
namespace Go.Proofs.Yteofdaecknlkdaa
set_option maxRecDepth 100000
open Go.ChangeShapes Go.WideShapes Go.ChangeAt Go.RowKit
theorem cut_str (s : ByteArray) (i j : Nat) (v : World) (h : i + j ≤ s.size) : Sem.run Try.prog (Instr.slice 9 (.string s) (some (.int .i64 (i : Int))) (some (.int .i64 ((i : Int) + (j : Int)))) none) v = .ok (.string (s.extract i (i + j))) v := by
  have := run_slice_string (P := Try.prog) v 9 s .i64 .i64 (i : Int) ((i : Int) + (j : Int)) Try.underlying9 (by omega) (by omega) (by omega)
  rw [show ((i : Int)).toNat = i from Int.toNat_natCast i, show ((i : Int) + (j : Int)).toNat = i + j by omega] at this
  exact this
set_option maxHeartbeats 1000000 in
theorem read_none (a : Option Addr) (cap : Nat) (zs : List Zn) (k f l : Int) (w : World) (hn : zs.length ≤ 1048576) (hZ : Zs w.heap.size a zs w) (h : ¬ there zs k) :
    Calls Try.prog 22 #[.agg #[.slice a zs.length cap], .int .i64 k, .int .i64 f, .int .i64 l] w fun e w' => e = .returned (.tuple #[.string ⟨#[]⟩, .bool false]) ∧ Below w.heap.size w w' := by
  have HZ : Hid (∀ w', Below w.heap.size w w' → Zs w'.heap.size a zs w') := fun w' g => (hZ.below g).mono g.size
  have HT : Hid (¬ there zs k) := h
  clear hZ h
  go_enter Try.func22, Try.ntmps22
  go_wp2_with fail
  refine (there_no a cap zs k _ hn (HZ.out _ ((Below.refl _ _).alloc (Nat.le_refl _) _)) HT.out).mono ?_
  rintro e w1 ⟨rfl, b1⟩
  have HB2 : Hid (Below w.heap.size w w1) := ((Below.refl _ _).alloc (Nat.le_refl _) _).trans (b1.mono (by simp))
  clear b1
  go_wp2
  refine bodyPost_ret (v := .tuple #[.string ⟨#[]⟩, .bool false]) (by simp [results, Try.results22, go_sem]) rfl ⟨rfl, HB2.out⟩
set_option maxHeartbeats 1000000 in
theorem read_out (a : Option Addr) (cap : Nat) (zs : List Zn) (k : Nat) (f l : Int) (w : World) (hZ : Zs w.heap.size a zs w) (h : there zs k) (hk : k < zs.length) (hf : f < 0 ∨ (zs[k].data.size : Int) < f) :
    Calls Try.prog 22 #[.agg #[.slice a zs.length cap], .int .i64 k, .int .i64 f, .int .i64 l] w fun e w' => e = .returned (.tuple #[.string ⟨#[]⟩, .bool false]) ∧ Below w.heap.size w w' := by
  have hl := goodD_len h.1
  have hn : zs.length ≤ 1048576 := by omega
  have hsm := goodD_small h.1 _ (List.getElem_mem hk)
  obtain ⟨b, off, rfl, hb, hc⟩ := hZ.cell (by omega)
  obtain ⟨c0, c1, c2⟩ := hc k hk
  have HZ : Hid (∀ w', Below w.heap.size w w' → Zs w'.heap.size (some ⟨b, off, none⟩) zs w') := fun w' g => (hZ.below g).mono g.size
  have HT : Hid (there zs k) := h
  clear hZ h hc
  go_enter Try.func22, Try.ntmps22
  go_wp2_with fail
  refine (there_yes (some ⟨b, off, none⟩) cap zs k _ hn (HZ.out _ ((Below.refl _ _).alloc (Nat.le_refl _) _)) HT.out).mono ?_
  rintro e w1 ⟨rfl, b1⟩
  have hbel1 : Below w.heap.size w w1 := ((Below.refl _ _).alloc (Nat.le_refl _) _).trans (b1.mono (by simp))
  have hd : w1.cell? ⟨w.heap.size, 0, none⟩ = some (.slice (some ⟨b, off, none⟩) zs.length cap) := by
    rw [b1.cell (p := ⟨w.heap.size, 0, none⟩) (by simp)]; go_simp
  have x0 := (hbel1.cell (p := ⟨b, off + k * 3, none⟩) hb).trans c0
  have x1 := (hbel1.cell (p := ⟨b, off + k * 3 + 1, none⟩) hb).trans c1
  have x2 := (hbel1.cell (p := ⟨b, off + k * 3 + 2, none⟩) hb).trans c2
  have HB1 : Hid (Below w.heap.size w w1) := hbel1
  clear b1 hbel1 c0 c1 c2
  generalize zs[k].data = dd at *
  generalize zs[k].sure = ss at *
  generalize zs[k].full = ff at *
  go_wp2_with fail
  refine (l1In_no _ _ _ _ hf).mono ?_
  rintro e w2 ⟨rfl, rfl⟩
  go_wp2
  refine bodyPost_ret (v := .tuple #[.string ⟨#[]⟩, .bool false]) (by simp [results, Try.results22, go_sem]) rfl ⟨rfl, HB1.out⟩
set_option maxHeartbeats 1000000 in
theorem read_long (a : Option Addr) (cap : Nat) (zs : List Zn) (k : Nat) (f l : Int) (w : World) (hZ : Zs w.heap.size a zs w) (h : there zs k) (hk : k < zs.length) (f0 : 0 ≤ f) (f1 : f ≤ (zs[k].data.size : Int)) (hg : l < 0 ∨ (zs[k].data.size : Int) - f < l) :
    Calls Try.prog 22 #[.agg #[.slice a zs.length cap], .int .i64 k, .int .i64 f, .int .i64 l] w fun e w' => e = .returned (.tuple #[.string ⟨#[]⟩, .bool false]) ∧ Below w.heap.size w w' := by
  have hl := goodD_len h.1
  have hn : zs.length ≤ 1048576 := by omega
  have hsm := goodD_small h.1 _ (List.getElem_mem hk)
  obtain ⟨b, off, rfl, hb, hc⟩ := hZ.cell (by omega)
  obtain ⟨c0, c1, c2⟩ := hc k hk
  have HZ : Hid (∀ w', Below w.heap.size w w' → Zs w'.heap.size (some ⟨b, off, none⟩) zs w') := fun w' g => (hZ.below g).mono g.size
  have HT : Hid (there zs k) := h
  clear hZ h hc
  go_enter Try.func22, Try.ntmps22
  go_wp2_with fail
  refine (there_yes (some ⟨b, off, none⟩) cap zs k _ hn (HZ.out _ ((Below.refl _ _).alloc (Nat.le_refl _) _)) HT.out).mono ?_
  rintro e w1 ⟨rfl, b1⟩
  have hbel1 : Below w.heap.size w w1 := ((Below.refl _ _).alloc (Nat.le_refl _) _).trans (b1.mono (by simp))
  have hd : w1.cell? ⟨w.heap.size, 0, none⟩ = some (.slice (some ⟨b, off, none⟩) zs.length cap) := by
    rw [b1.cell (p := ⟨w.heap.size, 0, none⟩) (by simp)]; go_simp
  have x0 := (hbel1.cell (p := ⟨b, off + k * 3, none⟩) hb).trans c0
  have x1 := (hbel1.cell (p := ⟨b, off + k * 3 + 1, none⟩) hb).trans c1
  have x2 := (hbel1.cell (p := ⟨b, off + k * 3 + 2, none⟩) hb).trans c2
  have HB1 : Hid (Below w.heap.size w w1) := hbel1
  clear b1 hbel1 c0 c1 c2
  generalize zs[k].data = dd at *
  generalize zs[k].sure = ss at *
  generalize zs[k].full = ff at *
  go_wp2_with fail
  refine (l1In_yes _ _ _ _ f0 f1).mono ?_
  rintro e w2 ⟨rfl, rfl⟩
  go_wp2_with fail
  refine (l1In_no _ _ _ _ hg).mono ?_
  rintro e w2 ⟨rfl, rfl⟩
  go_wp2
  refine bodyPost_ret (v := .tuple #[.string ⟨#[]⟩, .bool false]) (by simp [results, Try.results22, go_sem]) rfl ⟨rfl, HB1.out⟩
set_option maxHeartbeats 1000000 in
theorem read_yes (a : Option Addr) (cap : Nat) (zs : List Zn) (k : Nat) (f l : Nat) (w : World) (hZ : Zs w.heap.size a zs w) (h : there zs k) (hk : k < zs.length) (hfl : f + l ≤ zs[k].data.size) :
    Calls Try.prog 22 #[.agg #[.slice a zs.length cap], .int .i64 k, .int .i64 f, .int .i64 l] w fun e w' => e = .returned (.tuple #[.string (zs[k].data.extract f (f + l)), .bool true]) ∧ Below w.heap.size w w' := by
  have hl := goodD_len h.1
  have hn : zs.length ≤ 1048576 := by omega
  have hsm := goodD_small h.1 _ (List.getElem_mem hk)
  obtain ⟨b, off, rfl, hb, hc⟩ := hZ.cell (by omega)
  obtain ⟨c0, c1, c2⟩ := hc k hk
  have HZ : Hid (∀ w', Below w.heap.size w w' → Zs w'.heap.size (some ⟨b, off, none⟩) zs w') := fun w' g => (hZ.below g).mono g.size
  have HT : Hid (there zs k) := h
  clear hZ h hc
  go_enter Try.func22, Try.ntmps22
  go_wp2_with fail
  refine (there_yes (some ⟨b, off, none⟩) cap zs k _ hn (HZ.out _ ((Below.refl _ _).alloc (Nat.le_refl _) _)) HT.out).mono ?_
  rintro e w1 ⟨rfl, b1⟩
  have hbel1 : Below w.heap.size w w1 := ((Below.refl _ _).alloc (Nat.le_refl _) _).trans (b1.mono (by simp))
  have hd : w1.cell? ⟨w.heap.size, 0, none⟩ = some (.slice (some ⟨b, off, none⟩) zs.length cap) := by
    rw [b1.cell (p := ⟨w.heap.size, 0, none⟩) (by simp)]; go_simp
  have x0 := (hbel1.cell (p := ⟨b, off + k * 3, none⟩) hb).trans c0
  have x1 := (hbel1.cell (p := ⟨b, off + k * 3 + 1, none⟩) hb).trans c1
  have x2 := (hbel1.cell (p := ⟨b, off + k * 3 + 2, none⟩) hb).trans c2
  have HB1 : Hid (Below w.heap.size w w1) := hbel1
  clear b1 hbel1 c0 c1 c2
  generalize hdd : zs[k].data = dd at x0 hfl hsm
  have HDD : Hid (zs[k].data = dd) := hdd
  clear hdd
  generalize zs[k].sure = ss at *
  generalize zs[k].full = ff at *
  go_wp2_with fail
  refine (l1In_yes _ _ _ _ (by omega) (by omega)).mono ?_
  rintro e w2 ⟨rfl, rfl⟩
  go_wp2_with fail
  refine (l1In_yes _ _ _ _ (by omega) (by omega)).mono ?_
  rintro e w2 ⟨rfl, rfl⟩
  have hcut := fun v => cut_str dd f l v hfl
  go_wp2
  refine bodyPost_ret (v := .tuple #[.string (dd.extract f (f + l)), .bool true]) (by simp [results, Try.results22, go_sem]) rfl ⟨by rw [HDD.out], HB1.out⟩
end Go.Proofs.Yteofdaecknlkdaa
