/- The model's l7Put: its walk. -/
import Derived.Test.YtmbkdollakbigaaKPz
import Derived.Test.YtmbkdollakbigaaKZ
import Derived.Test.YtmbkdollakbigaaKPw
namespace Go.Proofs.Ytmbkdollakbigaa
set_option maxRecDepth 100000
open Go Go.ChangeShapes Go.WideShapes Go.ChangeAt Go.RowKit
/-- what l7Put answers -/
def PutOut (y : Ly) (l : List Int) (p : Option Addr) (w : World) (e : Ending) (w' : World) : Prop := ∃ p1 c1 p2 c2, e = .returned (.agg #[.int .i64 y.mark, .slice p1 y.bl.length c1, .slice p2 y.dt.length c2]) ∧ Is w'.heap.size p1 y.bl w' ∧ Ss w'.heap.size p2 y.dt w' ∧ Below w.heap.size w w' ∧ ((p1 = p ∧ 0 < l.length) ∨ ∃ R, p1 = some ⟨R, 0, none⟩ ∧ w.heap.size ≤ R) ∧ (∃ R, p2 = some ⟨R, 0, none⟩ ∧ w.heap.size ≤ R) ∧ y.bl.length ≤ c1 ∧ y.dt.length ≤ c2
set_option maxHeartbeats 8000000 in
theorem l7Put_any (p q : Option Addr) (c d : Nat) (z : Ly) (b : Int) (s : ByteArray) (w : World) (hz : lyOk z) (hc : z.bl.length ≤ c) (hd : z.dt.length ≤ d) (hI : Is w.heap.size p z.bl w) (hS : Ss w.heap.size q z.dt w) :
    Calls Try.prog 34 #[.agg #[.int .i64 z.mark, .slice p z.bl.length c, .slice q z.dt.length d], .int .i64 b, .string s] w fun e w' => PutOut (putLy z b s) z.bl p w e w' := by
  obtain ⟨y, hy⟩ : ∃ y, putLy z b s = y := ⟨_, rfl⟩
  rw [hy]
  have HY := hid hy
  have HZ := hid hz
  have HC := hid hc
  have HD := hid hd
  have h16 := rise_few hz.1
  have b0 : Below w.heap.size w ((w.alloc (.cells #[.int .i64 z.mark, .slice p z.bl.length c, .slice q z.dt.length d] 64)).alloc (.cells #[.int .i64 0, .slice none 0 0, .slice none 0 0] 64)) := (boxB _ _).trans ((boxB _ _).mono (boxB _ _).size)
  have HX : Hid (((w.alloc (.cells #[.int .i64 z.mark, .slice p z.bl.length c, .slice q z.dt.length d] 64)).alloc (.cells #[.int .i64 0, .slice none 0 0, .slice none 0 0] 64)).heap[w.heap.size]? = some (.cells #[.int .i64 z.mark, .slice p z.bl.length c, .slice q z.dt.length d] 64)) := heap_mid2 _ _ _
  have HR : Hid (((w.alloc (.cells #[.int .i64 z.mark, .slice p z.bl.length c, .slice q z.dt.length d] 64)).alloc (.cells #[.int .i64 0, .slice none 0 0, .slice none 0 0] 64)).heap[w.heap.size + 1]? = some (.cells #[.int .i64 0, .slice none 0 0, .slice none 0 0] 64)) := heap_last2 _ _ _
  have HB := hid b0
  have HI0 := hid hI
  have HS0 := hid hS
  have HI := hid ((hI.below b0).mono b0.size)
  have HS := hid ((hS.below b0).mono b0.size)
  have HSZ : Hid (((w.alloc (.cells #[.int .i64 z.mark, .slice p z.bl.length c, .slice q z.dt.length d] 64)).alloc (.cells #[.int .i64 0, .slice none 0 0, .slice none 0 0] 64)).heap.size = w.heap.size + 2) := by simp [Hid]
  clear hz hc hd hI hS b0 hy
  generalize hW : (w.alloc (.cells #[.int .i64 z.mark, .slice p z.bl.length c, .slice q z.dt.length d] 64)).alloc (.cells #[.int .i64 0, .slice none 0 0, .slice none 0 0] 64) = W at *
  have hdl := HZ.out.2.1
  have HDL := hid hdl
  obtain ⟨mk, bl, dt⟩ := z
  simp only at hdl h16 HI HS HX HI0 HS0
  rw [hdl] at HX hW ⊢
  clear hdl
  have x0 : W.cell? ⟨w.heap.size, 0, none⟩ = some (.int .i64 mk) := box_cell HX.out 0
  have x1 : W.cell? ⟨w.heap.size, 1, none⟩ = some (.slice p bl.length c) := box_cell HX.out 1
  have x2 : W.cell? ⟨w.heap.size, 2, none⟩ = some (.slice q bl.length d) := box_cell HX.out 2
  go_enter Try.func34, Try.ntmps34
  go_wp2_with fail
  go_loopw [7] (fun i wr => ∃ (k : Nat), k ≤ lesN b bl ∧ i = .int .i64 k ∧ wr = W) (fun i _ => bl.length - (intOf i).toNat)
  case atStart => exact ⟨0, Nat.zero_le _, rfl, rfl⟩
  case round =>
    clear hW
    obtain ⟨k, hk, rfl, rfl⟩ := hrel
    have HK := hid hk
    by_cases h1 : k < bl.length
    · obtain ⟨b1, off1, rfl, hb1, hc1⟩ := HI.out.cell (by omega)
      have e1 := hc1 k h1
      clear hc1
      by_cases h2 : k < lesN b bl
      · obtain ⟨_, h3⟩ := (lesN_at b bl k hk).1 h2
        have HH2 := hid h2
        clear h2 hk
        generalize bl[k] = u at *
        have hq1 : decide (u < b) = true := decide_eq_true h3
        go_wp2_with fail
        go_roundw
        · exact ⟨k + 1, HH2.out, by go_num, trivial⟩
        · simp [intOf]; omega
      · have hkk : k = lesN b bl := by omega
        have h3 := (lesN_at b bl k hk).2 hkk h1
        have HKK := hid hkk
        have HGD : Hid (bl.getD (lesN b bl) 0 = bl[k]) := by
          show _ = _
          rw [← hkk, List.getD_eq_getElem?_getD, List.getElem?_eq_getElem h1]; rfl
        clear h2 hk hkk
        generalize bl[k] = u at *
        have hq1 : decide (u < b) = false := decide_eq_false (by omega)
        have hq2 : ¬ u < b := by omega
        by_cases h4 : u = b
        · subst h4
          clear hq1 hq2 h3
          have hdt : k < dt.length := by have := HDL.out; omega
          obtain ⟨a5, c5, W5, r5, o5, g5, k5⟩ := app_str_own (wr.alloc (.cells #[] 9)) (w.heap.size + 2) wr.heap.size q d dt (World.ownsRow_made wr #[] 0 (by rw [HSZ.out]; exact Nat.le_refl _) (by decide) rfl) ((HS.out.below (boxB _ _)).mono (boxB _ _).size) (by have := HDL.out; omega) (by rw [heap_size, HSZ.out]; omega)
          obtain ⟨R, c6, e5, hR1, hR2, hR3⟩ := own_srow o5 (by omega)
          injection e5 with e5 _ e5b
          subst e5 e5b
          have hs5 := g5.size
          rw [heap_size, HSZ.out] at hs5
          have hb5 : Below (w.heap.size + 2) wr W5 := by
            have h1 := boxB wr (.cells #[] 9)
            rw [HSZ.out] at h1
            exact h1.trans (below_of_grown g5 (by rw [heap_size, HSZ.out]; omega) (fun j e => by injection e with e; rw [← e, HSZ.out]; exact Nat.le_refl _))
          have hx5 : W5.heap[w.heap.size]? = some (.cells #[.int .i64 mk, .slice (some ⟨b1, off1, none⟩) bl.length c, .slice q bl.length d] 64 (0, 0)) := (hb5.block _ (by omega)).trans HX.out
          have hr5 : W5.heap[w.heap.size + 1]? = some (.cells #[.int .i64 0, .slice none 0 0, .slice none 0 0] 64 (0, 0)) := (hb5.block _ (by omega)).trans HR.out
          have y2 : W5.cell? ⟨w.heap.size, 2, none⟩ = some (.slice q bl.length d) := box_cell hx5 2
          have yf2 : W5.frozen? ⟨w.heap.size, 2, none⟩ = false := box_free hx5 2
          have hw5 : Below w.heap.size w W5 := HB.out.trans (hb5.mono (by omega))
          rw [HDL.out] at r5
          have hneR : R ≠ w.heap.size := by omega
          have hR6 := hR2.same (w' := W5.setCell ⟨w.heap.size, 2, none⟩ (.slice (some ⟨R, 0, none⟩) bl.length c5)) (by simp [World.setCell]) (keepB _ _ _ _ _ hneR)
          have hx6 := box_set hx5 2 (.slice (some ⟨R, 0, none⟩) bl.length c5)
          have hr6 : (W5.setCell ⟨w.heap.size, 2, none⟩ (.slice (some ⟨R, 0, none⟩) bl.length c5)).heap[w.heap.size + 1]? = some (.cells #[.int .i64 0, .slice none 0 0, .slice none 0 0] 64 (0, 0)) := (keepB _ _ _ _ _ (by omega)).trans hr5
          have hw6 := setB hw5 w.heap.size 2 (Nat.le_refl _) (.slice (some ⟨R, 0, none⟩) bl.length c5)
          have z1 : (W5.setCell ⟨w.heap.size, 2, none⟩ (.slice (some ⟨R, 0, none⟩) bl.length c5)).cell? ⟨w.heap.size, 1, none⟩ = some (.slice (some ⟨b1, off1, none⟩) bl.length c) := box_cell hx6 1
          have z2 : (W5.setCell ⟨w.heap.size, 2, none⟩ (.slice (some ⟨R, 0, none⟩) bl.length c5)).cell? ⟨w.heap.size, 2, none⟩ = some (.slice (some ⟨R, 0, none⟩) bl.length c5) := box_cell hx6 2
          have ya : (wr.alloc (.cells #[] 9)).cell? ⟨w.heap.size, 2, none⟩ = some (.slice q bl.length d) := box_cell (((boxB wr (.cells #[] 9)).block _ (by rw [HSZ.out]; omega)).trans HX.out) 2
          have zk := hR6.cell k hdt
          have zf := hR6.free k hdt
          have hx7 : ((W5.setCell ⟨w.heap.size, 2, none⟩ (.slice (some ⟨R, 0, none⟩) bl.length c5)).setCell ⟨R, k, none⟩ (.string s)).heap[w.heap.size]? = _ := (keepB _ _ _ _ _ (by omega)).trans hx6
          have hr7 : ((W5.setCell ⟨w.heap.size, 2, none⟩ (.slice (some ⟨R, 0, none⟩) bl.length c5)).setCell ⟨R, k, none⟩ (.string s)).heap[w.heap.size + 1]? = _ := (keepB _ _ _ _ _ (by omega)).trans hr6
          have v0 : ((W5.setCell ⟨w.heap.size, 2, none⟩ (.slice (some ⟨R, 0, none⟩) bl.length c5)).setCell ⟨R, k, none⟩ (.string s)).cell? ⟨w.heap.size, 0, none⟩ = some (.int .i64 mk) := box_cell hx7 0
          have v1 : ((W5.setCell ⟨w.heap.size, 2, none⟩ (.slice (some ⟨R, 0, none⟩) bl.length c5)).setCell ⟨R, k, none⟩ (.string s)).cell? ⟨w.heap.size, 1, none⟩ = some (.slice (some ⟨b1, off1, none⟩) bl.length c) := box_cell hx7 1
          have v2 : ((W5.setCell ⟨w.heap.size, 2, none⟩ (.slice (some ⟨R, 0, none⟩) bl.length c5)).setCell ⟨R, k, none⟩ (.string s)).cell? ⟨w.heap.size, 2, none⟩ = some (.slice (some ⟨R, 0, none⟩) bl.length c5) := box_cell hx7 2
          have t0 : ((W5.setCell ⟨w.heap.size, 2, none⟩ (.slice (some ⟨R, 0, none⟩) bl.length c5)).setCell ⟨R, k, none⟩ (.string s)).cell? ⟨w.heap.size + 1, 0, none⟩ = some (.int .i64 0) := box_cell hr7 0
          have t1 : ((W5.setCell ⟨w.heap.size, 2, none⟩ (.slice (some ⟨R, 0, none⟩) bl.length c5)).setCell ⟨R, k, none⟩ (.string s)).cell? ⟨w.heap.size + 1, 1, none⟩ = some (.slice none 0 0) := box_cell hr7 1
          have t2 : ((W5.setCell ⟨w.heap.size, 2, none⟩ (.slice (some ⟨R, 0, none⟩) bl.length c5)).setCell ⟨R, k, none⟩ (.string s)).cell? ⟨w.heap.size + 1, 2, none⟩ = some (.slice none 0 0) := box_cell hr7 2
          have s0 : ((W5.setCell ⟨w.heap.size, 2, none⟩ (.slice (some ⟨R, 0, none⟩) bl.length c5)).setCell ⟨R, k, none⟩ (.string s)).frozen? ⟨w.heap.size + 1, 0, none⟩ = false := box_free hr7 0
          have s1 : ((W5.setCell ⟨w.heap.size, 2, none⟩ (.slice (some ⟨R, 0, none⟩) bl.length c5)).setCell ⟨R, k, none⟩ (.string s)).frozen? ⟨w.heap.size + 1, 1, none⟩ = false := box_free hr7 1
          have s2 : ((W5.setCell ⟨w.heap.size, 2, none⟩ (.slice (some ⟨R, 0, none⟩) bl.length c5)).setCell ⟨R, k, none⟩ (.string s)).frozen? ⟨w.heap.size + 1, 2, none⟩ = false := box_free hr7 2
          have h10 : (((((W5.setCell ⟨w.heap.size, 2, none⟩ (.slice (some ⟨R, 0, none⟩) bl.length c5)).setCell ⟨R, k, none⟩ (.string s)).setCell ⟨w.heap.size + 1, 0, none⟩ (.int .i64 mk)).setCell ⟨w.heap.size + 1, 1, none⟩ (.slice (some ⟨b1, off1, none⟩) bl.length c)).setCell ⟨w.heap.size + 1, 2, none⟩ (.slice (some ⟨R, 0, none⟩) bl.length c5)).heap[w.heap.size + 1]? = some (.cells #[.int .i64 mk, .slice (some ⟨b1, off1, none⟩) bl.length c, .slice (some ⟨R, 0, none⟩) bl.length c5] 64 (0, 0)) := by
            have := box_set (box_set (box_set hr7 0 (.int .i64 mk)) 1 (.slice (some ⟨b1, off1, none⟩) bl.length c)) 2 (.slice (some ⟨R, 0, none⟩) bl.length c5)
            simpa using this
          have q0 : (((((W5.setCell ⟨w.heap.size, 2, none⟩ (.slice (some ⟨R, 0, none⟩) bl.length c5)).setCell ⟨R, k, none⟩ (.string s)).setCell ⟨w.heap.size + 1, 0, none⟩ (.int .i64 mk)).setCell ⟨w.heap.size + 1, 1, none⟩ (.slice (some ⟨b1, off1, none⟩) bl.length c)).setCell ⟨w.heap.size + 1, 2, none⟩ (.slice (some ⟨R, 0, none⟩) bl.length c5)).cell? ⟨w.heap.size + 1, 0, none⟩ = some (.int .i64 mk) := box_cell h10 0
          have q1 : (((((W5.setCell ⟨w.heap.size, 2, none⟩ (.slice (some ⟨R, 0, none⟩) bl.length c5)).setCell ⟨R, k, none⟩ (.string s)).setCell ⟨w.heap.size + 1, 0, none⟩ (.int .i64 mk)).setCell ⟨w.heap.size + 1, 1, none⟩ (.slice (some ⟨b1, off1, none⟩) bl.length c)).setCell ⟨w.heap.size + 1, 2, none⟩ (.slice (some ⟨R, 0, none⟩) bl.length c5)).cell? ⟨w.heap.size + 1, 1, none⟩ = some (.slice (some ⟨b1, off1, none⟩) bl.length c) := box_cell h10 1
          have q2 : (((((W5.setCell ⟨w.heap.size, 2, none⟩ (.slice (some ⟨R, 0, none⟩) bl.length c5)).setCell ⟨R, k, none⟩ (.string s)).setCell ⟨w.heap.size + 1, 0, none⟩ (.int .i64 mk)).setCell ⟨w.heap.size + 1, 1, none⟩ (.slice (some ⟨b1, off1, none⟩) bl.length c)).setCell ⟨w.heap.size + 1, 2, none⟩ (.slice (some ⟨R, 0, none⟩) bl.length c5)).cell? ⟨w.heap.size + 1, 2, none⟩ = some (.slice (some ⟨R, 0, none⟩) bl.length c5) := box_cell h10 2
          have HPO : Hid (PutOut y bl (some ⟨b1, off1, none⟩) w (.returned (.agg #[.int .i64 mk, .slice (some ⟨b1, off1, none⟩) bl.length c, .slice (some ⟨R, 0, none⟩) bl.length c5])) (((((W5.setCell ⟨w.heap.size, 2, none⟩ (.slice (some ⟨R, 0, none⟩) bl.length c5)).setCell ⟨R, k, none⟩ (.string s)).setCell ⟨w.heap.size + 1, 0, none⟩ (.int .i64 mk)).setCell ⟨w.heap.size + 1, 1, none⟩ (.slice (some ⟨b1, off1, none⟩) bl.length c)).setCell ⟨w.heap.size + 1, 2, none⟩ (.slice (some ⟨R, 0, none⟩) bl.length c5))) := by
            have e := putLy_there HZ.out u s (by rw [← HKK.out]; exact h1) HGD.out
            rw [HY.out, ← HKK.out] at e
            show PutOut y _ _ w _ _
            rw [e]
            have hr7' := hR6.set k hdt s
            have hsz : (((((W5.setCell ⟨w.heap.size, 2, none⟩ (.slice (some ⟨R, 0, none⟩) bl.length c5)).setCell ⟨R, k, none⟩ (.string s)).setCell ⟨w.heap.size + 1, 0, none⟩ (.int .i64 mk)).setCell ⟨w.heap.size + 1, 1, none⟩ (.slice (some ⟨b1, off1, none⟩) bl.length c)).setCell ⟨w.heap.size + 1, 2, none⟩ (.slice (some ⟨R, 0, none⟩) bl.length c5)).heap.size = W5.heap.size := by simp [World.setCell]
            have hr10 := hr7'.same (w' := (((((W5.setCell ⟨w.heap.size, 2, none⟩ (.slice (some ⟨R, 0, none⟩) bl.length c5)).setCell ⟨R, k, none⟩ (.string s)).setCell ⟨w.heap.size + 1, 0, none⟩ (.int .i64 mk)).setCell ⟨w.heap.size + 1, 1, none⟩ (.slice (some ⟨b1, off1, none⟩) bl.length c)).setCell ⟨w.heap.size + 1, 2, none⟩ (.slice (some ⟨R, 0, none⟩) bl.length c5))) (by simp [World.setCell]) ((keepB _ _ _ _ _ (by omega)).trans ((keepB _ _ _ _ _ (by omega)).trans (keepB _ _ _ _ _ (by omega))))
            have hw10 : Below w.heap.size w (((((W5.setCell ⟨w.heap.size, 2, none⟩ (.slice (some ⟨R, 0, none⟩) bl.length c5)).setCell ⟨R, k, none⟩ (.string s)).setCell ⟨w.heap.size + 1, 0, none⟩ (.int .i64 mk)).setCell ⟨w.heap.size + 1, 1, none⟩ (.slice (some ⟨b1, off1, none⟩) bl.length c)).setCell ⟨w.heap.size + 1, 2, none⟩ (.slice (some ⟨R, 0, none⟩) bl.length c5)) := setB (setB (setB (setB hw6 R k (by omega) (.string s)) (w.heap.size + 1) 0 (by omega) _) (w.heap.size + 1) 1 (by omega) _) (w.heap.size + 1) 2 (by omega) _
            refine ⟨some ⟨b1, off1, none⟩, c, some ⟨R, 0, none⟩, c5, ?_, ?_, hr10.sl hr10.lt, hw10, Or.inl ⟨rfl, by omega⟩, ⟨R, rfl, by omega⟩, HC.out, by show (dt.set k s).length ≤ c5; rw [List.length_set]; exact hR3⟩
            · have : (dt.set k s).length = bl.length := by rw [List.length_set]; exact HDL.out
              show _ = Ending.returned (.agg #[.int .i64 mk, .slice (some ⟨b1, off1, none⟩) bl.length c, .slice (some ⟨R, 0, none⟩) (dt.set k s).length c5])
              rw [this]
            · exact (HI0.out.below hw10).mono hw10.size
          clear hs5 hb5 hx5 hr5 hw5 hneR hR6 hx6 hr6 hw6 hx7 hr7 h10 hR1 hR2 hR3 g5 o5 k5
          go_wp2_with (at_builtin; refine wpList_append_run rfl (.tmp 40) (.tmp 42) 62 rfl _ _ rfl rfl _ _ r5 ?_)
          generalize (((((W5.setCell ⟨w.heap.size, 2, none⟩ (.slice (some ⟨R, 0, none⟩) bl.length c5)).setCell ⟨R, k, none⟩ (.string s)).setCell ⟨w.heap.size + 1, 0, none⟩ (.int .i64 mk)).setCell ⟨w.heap.size + 1, 1, none⟩ (.slice (some ⟨b1, off1, none⟩) bl.length c)).setCell ⟨w.heap.size + 1, 2, none⟩ (.slice (some ⟨R, 0, none⟩) bl.length c5)) = XX at *
          exact bodyPost_ret (v := .agg #[.int .i64 mk, .slice (some ⟨b1, off1, none⟩) bl.length c, .slice (some ⟨R, 0, none⟩) bl.length c5]) (by simp [results, Try.results34, go_sem, q0, q1, q2]) rfl HPO.out
        · have HNW : Hid (lesN b bl < bl.length → bl.getD (lesN b bl) 0 ≠ b) := fun _ => by rw [HGD.out]; exact h4
          have HH1 := hid (Nat.le_of_lt h1)
          have hq3 : decide (u = b) = false := decide_eq_false h4
          go_upto_region 8 with fail
          have HUP : Hid (∀ v, Below wr.heap.size wr v → v.cell? ⟨w.heap.size, 0, none⟩ = some (.int .i64 mk) ∧ v.cell? ⟨w.heap.size, 1, none⟩ = some (.slice (some ⟨b1, off1, none⟩) bl.length c) ∧ v.cell? ⟨w.heap.size, 2, none⟩ = some (.slice q bl.length d) ∧ v.heap[w.heap.size + 1]? = some (.cells #[.int .i64 0, .slice none 0 0, .slice none 0 0] 64 (0, 0))) := fun v g => by
            have h1 := (g.block w.heap.size (by rw [HSZ.out]; omega)).trans HX.out
            exact ⟨box_cell h1 0, box_cell h1 1, box_cell h1 2, (g.block _ (by rw [HSZ.out]; omega)).trans HR.out⟩
          obtain ⟨cl, hcl⟩ := cut_lowKI (some ⟨b1, off1, none⟩) c bl bl.length k rfl HH1.out HC.out
          obtain ⟨dl, hdl⟩ := cut_lowKS q d dt bl.length k HDL.out.symm (by rw [HDL.out]; exact HH1.out) HD.out
          obtain ⟨p2, c2, hch, hi2⟩ := cut_highKI (some ⟨b1, off1, none⟩) c bl bl.length k rfl HH1.out HC.out HI.out
          obtain ⟨q2, d2, hdh, hs2⟩ := cut_highKS q d dt bl.length k HDL.out.symm (by rw [HDL.out]; exact HH1.out) HD.out HS.out
          obtain ⟨a1, f1, W1, v2, W2, a3, f3, W3, v4, W4, r1, r2, r3, r4, B1, B2, B3, B4, o2, o4, hne⟩ := put_new wr (some ⟨b1, off1, none⟩) q cl dl bl dt k b s HH1.out HDL.out h16 HI.out HS.out
          obtain ⟨a5, f5, rfl⟩ := rw_form o2
          obtain ⟨a6, f6, rfl⟩ := rw_form o4
          have BD : Below wr.heap.size wr W4.drew := B4.drew
          have l1 : (bl.take k).length = k := by rw [List.length_take]; have := HH1.out; omega
          have l2 : (dt.take k).length = k := by rw [List.length_take]; have := HH1.out; have := HDL.out; omega
          have l3 : (bl.drop k).length ≤ 16 := by rw [List.length_drop]; omega
          have l4 : (dt.drop k).length ≤ 16 := by rw [List.length_drop]; have := HDL.out; omega
          obtain ⟨a7, f7, V, a8, f8, X, ri, rs, ox, oy, BV, BX⟩ := two_is W4.drew wr.heap.size _ _ _ _ _ _ o2 o4 hne p2 c2 (bl.drop k) q2 d2 (dt.drop k) (hi2 _ _ ((HI.out.below BD).mono BD.size)) (hs2 _ _ (HS.out.below BD)) (by omega) (by omega) BD.size
          obtain ⟨a9, f9, V', a10, f10, X', ri', rs', ox', oy', BV', BX'⟩ := two_si W4.drew wr.heap.size _ _ _ _ _ _ o4 o2 (fun g h1 h2 => hne g h2 h1) q2 d2 (dt.drop k) p2 c2 (bl.drop k) (hs2 _ _ ((HS.out.below BD).mono BD.size)) (hi2 _ _ (HI.out.below BD)) (by omega) (by omega) BD.size
          have m1 := (HUP.out _ (boxB wr (.cells #[] 3))).2.1
          have m2 := (HUP.out _ (B2.trans ((boxB W2 (.cells #[] 9)).mono B2.size))).2.2.1
          have l5 : (bl.drop k).length = bl.length - k := List.length_drop
          have l6 : (dt.drop k).length = bl.length - k := by rw [List.length_drop, HDL.out]
          have HOX := hid ox
          have HOY := hid oy
          have HOX' := hid ox'
          have HOY' := hid oy'
          have HBV := hid BV
          have HBX := hid BX
          have HBV' := hid BV'
          have HBX' := hid BX'
          have HB4 := hid B4
          simp only [l1, l2, l5, l6] at hcl hdl hch hdh r1 r2 r3 r4 ri rs ri' rs'
          have HL := hid (show (bl.take k).length = k ∧ (dt.take k).length = k ∧ (bl.drop k).length = bl.length - k ∧ (dt.drop k).length = bl.length - k from ⟨l1, l2, l5, l6⟩)
          clear o2 o4 hne ox oy ox' oy' BV BX BV' BX' l1 l2 l3 l4 l5 l6 hi2 hs2 B1 B2 B3 B4 BD
          go_upto_region 12 with (at_builtin; first | (refine wpList_append_run rfl (.tmp 51) (.tmp 55) 26 rfl _ _ rfl rfl _ _ r1 ?_) | (refine wpList_append_run rfl (.tmp 57) (.tmp 59) 26 rfl _ _ rfl rfl _ _ r2 ?_) | (refine wpList_append_run rfl (.tmp 61) (.tmp 65) 62 rfl _ _ rfl rfl _ _ r3 ?_) | (refine wpList_append_run rfl (.tmp 67) (.tmp 69) 62 rfl _ _ rfl rfl _ _ r4 ?_))
          obtain ⟨N, hN⟩ : ∃ N, k + 1 + (bl.length - k) = N := ⟨_, rfl⟩
          rw [hN] at ri rs ri' rs'
          have HNN := hid hN
          have HX1 : Hid (X.ownsRow wr.heap.size 3 1 (.slice a7 N f7) N (ivals (bl.take k ++ b :: bl.drop k))) := by
            have h := HOX.out
            rw [HL.out.1, HL.out.2.2.1, hN] at h
            have e : ivals (bl.take k) ++ ivals [b] ++ ivals (bl.drop k) = ivals (bl.take k ++ b :: bl.drop k) := by simp [ivals]
            rw [e] at h
            exact h
          have HX2 : Hid (X.ownsRow wr.heap.size 9 1 (.slice a8 N f8) N (svals (dt.take k ++ s :: dt.drop k))) := by
            have h := HOY.out
            rw [HL.out.2.1, HL.out.2.2.2, hN] at h
            have e : svals (dt.take k) ++ svals [s] ++ svals (dt.drop k) = svals (dt.take k ++ s :: dt.drop k) := by simp [svals]
            rw [e] at h
            exact h
          have HX1' : Hid (X'.ownsRow wr.heap.size 3 1 (.slice a10 N f10) N (ivals (bl.take k ++ b :: bl.drop k))) := by
            have h := HOY'.out
            rw [HL.out.1, HL.out.2.2.1, hN] at h
            have e : ivals (bl.take k) ++ ivals [b] ++ ivals (bl.drop k) = ivals (bl.take k ++ b :: bl.drop k) := by simp [ivals]
            rw [e] at h
            exact h
          have HX2' : Hid (X'.ownsRow wr.heap.size 9 1 (.slice a9 N f9) N (svals (dt.take k ++ s :: dt.drop k))) := by
            have h := HOX'.out
            rw [HL.out.2.1, HL.out.2.2.2, hN] at h
            have e : svals (dt.take k) ++ svals [s] ++ svals (dt.drop k) = svals (dt.take k ++ s :: dt.drop k) := by simp [svals]
            rw [e] at h
            exact h
          have HFIN : Hid (∀ v a e a' e', Below wr.heap.size wr v → v.ownsRow wr.heap.size 3 1 (.slice a N e) N (ivals (bl.take k ++ b :: bl.drop k)) → v.ownsRow wr.heap.size 9 1 (.slice a' N e') N (svals (dt.take k ++ s :: dt.drop k)) → ∀ Z, Z = ((v.setCell ⟨w.heap.size + 1, 0, none⟩ (.int .i64 mk)).setCell ⟨w.heap.size + 1, 1, none⟩ (.slice a N e)).setCell ⟨w.heap.size + 1, 2, none⟩ (.slice a' N e') → Z.cell? ⟨w.heap.size + 1, 0, none⟩ = some (.int .i64 mk) ∧ Z.cell? ⟨w.heap.size + 1, 1, none⟩ = some (.slice a N e) ∧ Z.cell? ⟨w.heap.size + 1, 2, none⟩ = some (.slice a' N e') ∧ PutOut y bl (some ⟨b1, off1, none⟩) w (.returned (.agg #[.int .i64 mk, .slice a N e, .slice a' N e'])) Z ∧ Z.cell? ⟨w.heap.size, 0, none⟩ = some (.int .i64 mk) ∧ Z.cell? ⟨w.heap.size, 1, none⟩ = some (.slice (some ⟨b1, off1, none⟩) bl.length c) ∧ Z.cell? ⟨w.heap.size, 2, none⟩ = some (.slice q bl.length d)) := fun v a e a' e' g oi os Z hZ => by
            have hr := (HUP.out v g).2.2.2
            have h10 : Z.heap[w.heap.size + 1]? = some (.cells #[.int .i64 mk, .slice a N e, .slice a' N e'] 64 (0, 0)) := by
              rw [hZ]
              have := box_set (box_set (box_set hr 0 (.int .i64 mk)) 1 (.slice a N e)) 2 (.slice a' N e')
              simpa using this
            have hxz : Z.heap[w.heap.size]? = some (.cells #[.int .i64 mk, .slice (some ⟨b1, off1, none⟩) bl.length c, .slice q bl.length d] 64 (0, 0)) := by
              have h1 := (g.block w.heap.size (by rw [HSZ.out]; omega)).trans HX.out
              rw [hZ]
              exact (keepB _ _ _ _ _ (by omega)).trans ((keepB _ _ _ _ _ (by omega)).trans ((keepB _ _ _ _ _ (by omega)).trans h1))
            refine ⟨box_cell h10 0, box_cell h10 1, box_cell h10 2, ?_, box_cell hxz 0, box_cell hxz 1, box_cell hxz 2⟩
            have ey := putLy_new HZ.out b s HNW.out
            rw [HY.out, ← HKK.out] at ey
            rw [ey]
            have n1 : (bl.take k ++ b :: bl.drop k).length = N := by rw [List.length_append, List.length_cons, HL.out.1, HL.out.2.2.1]; omega
            have n2 : (dt.take k ++ s :: dt.drop k).length = N := by rw [List.length_append, List.length_cons, HL.out.2.1, HL.out.2.2.2]; omega
            have wz : Below w.heap.size w v := HB.out.trans (g.mono HB.out.size)
            have wZ : Below w.heap.size w Z := by rw [hZ]; exact setB (setB (setB wz (w.heap.size + 1) 0 (by omega) _) (w.heap.size + 1) 1 (by omega) _) (w.heap.size + 1) 2 (by omega) _
            have kz : ∀ j, wr.heap.size ≤ j → Z.heap[j]? = v.heap[j]? := fun j hj => by
              have := HSZ.out
              rw [hZ]
              exact (keepB _ _ _ _ _ (by omega)).trans ((keepB _ _ _ _ _ (by omega)).trans (keepB _ _ _ _ _ (by omega)))
            have oi' : Z.ownsRow wr.heap.size 3 1 (.slice a N e) N (ivals (bl.take k ++ b :: bl.drop k)) := rw_keep oi (fun j hj => kz j (oi.lt j hj).1)
            have os' : Z.ownsRow wr.heap.size 9 1 (.slice a' N e') N (svals (dt.take k ++ s :: dt.drop k)) := rw_keep os (fun j hj => kz j (os.lt j hj).1)
            rw [← n1] at oi'
            obtain ⟨R1, cc1, ee1, hq1, hR1, hk1⟩ := own_irow oi' (by rw [n1]; omega)
            injection ee1 with ee1 _ ec1
            subst ee1
            rw [← n2] at os'
            obtain ⟨R2, cc2, ee2, hq2, hR2, hk2⟩ := own_srow os' (by rw [n2]; omega)
            injection ee2 with ee2 _ ec2
            subst ee2
            have hszz := HSZ.out
            refine ⟨some ⟨R1, 0, none⟩, e, some ⟨R2, 0, none⟩, e', ?_, hR1.sl hR1.lt, hR2.sl hR2.lt, wZ, Or.inr ⟨R1, rfl, by omega⟩, ⟨R2, rfl, by omega⟩, by show _ ≤ e; rw [ec1]; exact hk1, by show _ ≤ e'; rw [ec2]; exact hk2⟩
            show _ = Ending.returned (.agg #[.int .i64 mk, .slice (some ⟨R1, 0, none⟩) (bl.take k ++ b :: bl.drop k).length e, .slice (some ⟨R2, 0, none⟩) (dt.take k ++ s :: dt.drop k).length e'])
            rw [n1, n2]
          have HD4 : Below wr.heap.size wr W4.drew := HB4.out.drew
          obtain ⟨d0, d1, d2, -⟩ := HUP.out _ HD4
          obtain ⟨g0, g1, g2, -⟩ := HUP.out _ (HD4.trans HBV.out)
          obtain ⟨i0, i1, i2, i3⟩ := HUP.out _ (HD4.trans HBX.out)
          obtain ⟨j0, j1, j2, -⟩ := HUP.out _ (HD4.trans HBV'.out)
          obtain ⟨t0, t1, t2, t3⟩ := HUP.out _ (HD4.trans HBX'.out)
          have k0 : X.cell? ⟨w.heap.size + 1, 0, none⟩ = some (.int .i64 0) := box_cell i3 0
          have k1 : X.cell? ⟨w.heap.size + 1, 1, none⟩ = some (.slice none 0 0) := box_cell i3 1
          have k2 : X.cell? ⟨w.heap.size + 1, 2, none⟩ = some (.slice none 0 0) := box_cell i3 2
          have y0 : X.frozen? ⟨w.heap.size + 1, 0, none⟩ = false := box_free i3 0
          have y1 : X.frozen? ⟨w.heap.size + 1, 1, none⟩ = false := box_free i3 1
          have y2 : X.frozen? ⟨w.heap.size + 1, 2, none⟩ = false := box_free i3 2
          have k0' : X'.cell? ⟨w.heap.size + 1, 0, none⟩ = some (.int .i64 0) := box_cell t3 0
          have k1' : X'.cell? ⟨w.heap.size + 1, 1, none⟩ = some (.slice none 0 0) := box_cell t3 1
          have k2' : X'.cell? ⟨w.heap.size + 1, 2, none⟩ = some (.slice none 0 0) := box_cell t3 2
          have y0' : X'.frozen? ⟨w.heap.size + 1, 0, none⟩ = false := box_free t3 0
          have y1' : X'.frozen? ⟨w.heap.size + 1, 1, none⟩ = false := box_free t3 1
          have y2' : X'.frozen? ⟨w.heap.size + 1, 2, none⟩ = false := box_free t3 2
          obtain ⟨z0, z1, z2, z3, z4, z5, z6⟩ := HFIN.out X a7 f7 a8 f8 (HD4.trans HBX.out) HX1.out HX2.out _ rfl
          obtain ⟨z0', z1', z2', z3', z4', z5', z6'⟩ := HFIN.out X' a10 f10 a9 f9 (HD4.trans HBX'.out) HX1'.out HX2'.out _ rfl
          have HZ3 := hid z3
          have HZ3' := hid z3'
          clear i3 t3 z3 z3' HD4 hN r1 r2 r3 r4 hcl hdl m1 m2 x0 x1 x2 e1 h3 hq1 hq2 hq3 h4 hb1
          go_region_held_law (fun v => v.cell? ⟨w.heap.size, 0, none⟩ = some (.int .i64 mk) ∧ v.cell? ⟨w.heap.size, 1, none⟩ = some (.slice (some ⟨b1, off1, none⟩) bl.length c) ∧ v.cell? ⟨w.heap.size, 2, none⟩ = some (.slice q bl.length d)) (first | exact ⟨by with_reducible assumption, by with_reducible assumption, by with_reducible assumption⟩) (first | (refine step_append_run rfl _ _ 26 rfl _ _ rfl rfl _ _ ri ?_) | (refine step_append_run rfl _ _ 62 rfl _ _ rfl rfl _ _ rs ?_) | (refine step_append_run rfl _ _ 62 rfl _ _ rfl rfl _ _ rs' ?_) | (refine step_append_run rfl _ _ 26 rfl _ _ rfl rfl _ _ ri' ?_))
          all_goals (go_wp2_with fail; first | exact bodyPost_ret (v := .agg #[.int .i64 mk, .slice a7 N f7, .slice a8 N f8]) (by simp [results, Try.results34, go_sem, z0, z1, z2]) rfl HZ3.out | exact bodyPost_ret (v := .agg #[.int .i64 mk, .slice a10 N f10, .slice a9 N f9]) (by simp [results, Try.results34, go_sem, z0', z1', z2']) rfl HZ3'.out)
    · have hle := lesN_le b bl
      have HKK : Hid (k = lesN b bl) := by show k = lesN b bl; omega
      have HNW : Hid (lesN b bl < bl.length → bl.getD (lesN b bl) 0 ≠ b) := fun h => by have := HKK.out; omega
      have HH1 : Hid (k ≤ bl.length) := by show k ≤ bl.length; omega
      have hk16 : k ≤ 16 := by have := HH1.out; omega
      clear hle hk
      go_upto_region 8 with fail
      have HUP : Hid (∀ v, Below wr.heap.size wr v → v.cell? ⟨w.heap.size, 0, none⟩ = some (.int .i64 mk) ∧ v.cell? ⟨w.heap.size, 1, none⟩ = some (.slice p bl.length c) ∧ v.cell? ⟨w.heap.size, 2, none⟩ = some (.slice q bl.length d) ∧ v.heap[w.heap.size + 1]? = some (.cells #[.int .i64 0, .slice none 0 0, .slice none 0 0] 64 (0, 0))) := fun v g => by
        have h1 := (g.block w.heap.size (by rw [HSZ.out]; omega)).trans HX.out
        exact ⟨box_cell h1 0, box_cell h1 1, box_cell h1 2, (g.block _ (by rw [HSZ.out]; omega)).trans HR.out⟩
      obtain ⟨cl, hcl⟩ := cut_lowKI p c bl bl.length k rfl HH1.out HC.out
      obtain ⟨dl, hdl⟩ := cut_lowKS q d dt bl.length k HDL.out.symm (by rw [HDL.out]; exact HH1.out) HD.out
      obtain ⟨p2, c2, hch, hi2⟩ := cut_highKI p c bl bl.length k rfl HH1.out HC.out HI.out
      obtain ⟨q2, d2, hdh, hs2⟩ := cut_highKS q d dt bl.length k HDL.out.symm (by rw [HDL.out]; exact HH1.out) HD.out HS.out
      obtain ⟨a1, f1, W1, v2, W2, a3, f3, W3, v4, W4, r1, r2, r3, r4, B1, B2, B3, B4, o2, o4, hne⟩ := put_new wr p q cl dl bl dt k b s HH1.out HDL.out h16 HI.out HS.out
      obtain ⟨a5, f5, rfl⟩ := rw_form o2
      obtain ⟨a6, f6, rfl⟩ := rw_form o4
      have BD : Below wr.heap.size wr W4.drew := B4.drew
      have l1 : (bl.take k).length = k := by rw [List.length_take]; have := HH1.out; omega
      have l2 : (dt.take k).length = k := by rw [List.length_take]; have := HH1.out; have := HDL.out; omega
      have l3 : (bl.drop k).length ≤ 16 := by rw [List.length_drop]; omega
      have l4 : (dt.drop k).length ≤ 16 := by rw [List.length_drop]; have := HDL.out; omega
      obtain ⟨a7, f7, V, a8, f8, X, ri, rs, ox, oy, BV, BX⟩ := two_is W4.drew wr.heap.size _ _ _ _ _ _ o2 o4 hne p2 c2 (bl.drop k) q2 d2 (dt.drop k) (hi2 _ _ ((HI.out.below BD).mono BD.size)) (hs2 _ _ (HS.out.below BD)) (by omega) (by omega) BD.size
      obtain ⟨a9, f9, V', a10, f10, X', ri', rs', ox', oy', BV', BX'⟩ := two_si W4.drew wr.heap.size _ _ _ _ _ _ o4 o2 (fun g h1 h2 => hne g h2 h1) q2 d2 (dt.drop k) p2 c2 (bl.drop k) (hs2 _ _ ((HS.out.below BD).mono BD.size)) (hi2 _ _ (HI.out.below BD)) (by omega) (by omega) BD.size
      have m1 := (HUP.out _ (boxB wr (.cells #[] 3))).2.1
      have m2 := (HUP.out _ (B2.trans ((boxB W2 (.cells #[] 9)).mono B2.size))).2.2.1
      have l5 : (bl.drop k).length = bl.length - k := List.length_drop
      have l6 : (dt.drop k).length = bl.length - k := by rw [List.length_drop, HDL.out]
      have HOX := hid ox
      have HOY := hid oy
      have HOX' := hid ox'
      have HOY' := hid oy'
      have HBV := hid BV
      have HBX := hid BX
      have HBV' := hid BV'
      have HBX' := hid BX'
      have HB4 := hid B4
      simp only [l1, l2, l5, l6] at hcl hdl hch hdh r1 r2 r3 r4 ri rs ri' rs'
      have HL := hid (show (bl.take k).length = k ∧ (dt.take k).length = k ∧ (bl.drop k).length = bl.length - k ∧ (dt.drop k).length = bl.length - k from ⟨l1, l2, l5, l6⟩)
      clear o2 o4 hne ox oy ox' oy' BV BX BV' BX' l1 l2 l3 l4 l5 l6 hi2 hs2 B1 B2 B3 B4 BD
      go_upto_region 12 with (at_builtin; first | (refine wpList_append_run rfl (.tmp 51) (.tmp 55) 26 rfl _ _ rfl rfl _ _ r1 ?_) | (refine wpList_append_run rfl (.tmp 57) (.tmp 59) 26 rfl _ _ rfl rfl _ _ r2 ?_) | (refine wpList_append_run rfl (.tmp 61) (.tmp 65) 62 rfl _ _ rfl rfl _ _ r3 ?_) | (refine wpList_append_run rfl (.tmp 67) (.tmp 69) 62 rfl _ _ rfl rfl _ _ r4 ?_))
      obtain ⟨N, hN⟩ : ∃ N, k + 1 + (bl.length - k) = N := ⟨_, rfl⟩
      rw [hN] at ri rs ri' rs'
      have HNN := hid hN
      have HX1 : Hid (X.ownsRow wr.heap.size 3 1 (.slice a7 N f7) N (ivals (bl.take k ++ b :: bl.drop k))) := by
        have h := HOX.out
        rw [HL.out.1, HL.out.2.2.1, hN] at h
        have e : ivals (bl.take k) ++ ivals [b] ++ ivals (bl.drop k) = ivals (bl.take k ++ b :: bl.drop k) := by simp [ivals]
        rw [e] at h
        exact h
      have HX2 : Hid (X.ownsRow wr.heap.size 9 1 (.slice a8 N f8) N (svals (dt.take k ++ s :: dt.drop k))) := by
        have h := HOY.out
        rw [HL.out.2.1, HL.out.2.2.2, hN] at h
        have e : svals (dt.take k) ++ svals [s] ++ svals (dt.drop k) = svals (dt.take k ++ s :: dt.drop k) := by simp [svals]
        rw [e] at h
        exact h
      have HX1' : Hid (X'.ownsRow wr.heap.size 3 1 (.slice a10 N f10) N (ivals (bl.take k ++ b :: bl.drop k))) := by
        have h := HOY'.out
        rw [HL.out.1, HL.out.2.2.1, hN] at h
        have e : ivals (bl.take k) ++ ivals [b] ++ ivals (bl.drop k) = ivals (bl.take k ++ b :: bl.drop k) := by simp [ivals]
        rw [e] at h
        exact h
      have HX2' : Hid (X'.ownsRow wr.heap.size 9 1 (.slice a9 N f9) N (svals (dt.take k ++ s :: dt.drop k))) := by
        have h := HOX'.out
        rw [HL.out.2.1, HL.out.2.2.2, hN] at h
        have e : svals (dt.take k) ++ svals [s] ++ svals (dt.drop k) = svals (dt.take k ++ s :: dt.drop k) := by simp [svals]
        rw [e] at h
        exact h
      have HFIN : Hid (∀ v a e a' e', Below wr.heap.size wr v → v.ownsRow wr.heap.size 3 1 (.slice a N e) N (ivals (bl.take k ++ b :: bl.drop k)) → v.ownsRow wr.heap.size 9 1 (.slice a' N e') N (svals (dt.take k ++ s :: dt.drop k)) → ∀ Z, Z = ((v.setCell ⟨w.heap.size + 1, 0, none⟩ (.int .i64 mk)).setCell ⟨w.heap.size + 1, 1, none⟩ (.slice a N e)).setCell ⟨w.heap.size + 1, 2, none⟩ (.slice a' N e') → Z.cell? ⟨w.heap.size + 1, 0, none⟩ = some (.int .i64 mk) ∧ Z.cell? ⟨w.heap.size + 1, 1, none⟩ = some (.slice a N e) ∧ Z.cell? ⟨w.heap.size + 1, 2, none⟩ = some (.slice a' N e') ∧ PutOut y bl p w (.returned (.agg #[.int .i64 mk, .slice a N e, .slice a' N e'])) Z ∧ Z.cell? ⟨w.heap.size, 0, none⟩ = some (.int .i64 mk) ∧ Z.cell? ⟨w.heap.size, 1, none⟩ = some (.slice p bl.length c) ∧ Z.cell? ⟨w.heap.size, 2, none⟩ = some (.slice q bl.length d)) := fun v a e a' e' g oi os Z hZ => by
        have hr := (HUP.out v g).2.2.2
        have h10 : Z.heap[w.heap.size + 1]? = some (.cells #[.int .i64 mk, .slice a N e, .slice a' N e'] 64 (0, 0)) := by
          rw [hZ]
          have := box_set (box_set (box_set hr 0 (.int .i64 mk)) 1 (.slice a N e)) 2 (.slice a' N e')
          simpa using this
        have hxz : Z.heap[w.heap.size]? = some (.cells #[.int .i64 mk, .slice p bl.length c, .slice q bl.length d] 64 (0, 0)) := by
          have h1 := (g.block w.heap.size (by rw [HSZ.out]; omega)).trans HX.out
          rw [hZ]
          exact (keepB _ _ _ _ _ (by omega)).trans ((keepB _ _ _ _ _ (by omega)).trans ((keepB _ _ _ _ _ (by omega)).trans h1))
        refine ⟨box_cell h10 0, box_cell h10 1, box_cell h10 2, ?_, box_cell hxz 0, box_cell hxz 1, box_cell hxz 2⟩
        have ey := putLy_new HZ.out b s HNW.out
        rw [HY.out, ← HKK.out] at ey
        rw [ey]
        have n1 : (bl.take k ++ b :: bl.drop k).length = N := by rw [List.length_append, List.length_cons, HL.out.1, HL.out.2.2.1]; omega
        have n2 : (dt.take k ++ s :: dt.drop k).length = N := by rw [List.length_append, List.length_cons, HL.out.2.1, HL.out.2.2.2]; omega
        have wz : Below w.heap.size w v := HB.out.trans (g.mono HB.out.size)
        have wZ : Below w.heap.size w Z := by rw [hZ]; exact setB (setB (setB wz (w.heap.size + 1) 0 (by omega) _) (w.heap.size + 1) 1 (by omega) _) (w.heap.size + 1) 2 (by omega) _
        have kz : ∀ j, wr.heap.size ≤ j → Z.heap[j]? = v.heap[j]? := fun j hj => by
          have := HSZ.out
          rw [hZ]
          exact (keepB _ _ _ _ _ (by omega)).trans ((keepB _ _ _ _ _ (by omega)).trans (keepB _ _ _ _ _ (by omega)))
        have oi' : Z.ownsRow wr.heap.size 3 1 (.slice a N e) N (ivals (bl.take k ++ b :: bl.drop k)) := rw_keep oi (fun j hj => kz j (oi.lt j hj).1)
        have os' : Z.ownsRow wr.heap.size 9 1 (.slice a' N e') N (svals (dt.take k ++ s :: dt.drop k)) := rw_keep os (fun j hj => kz j (os.lt j hj).1)
        rw [← n1] at oi'
        obtain ⟨R1, cc1, ee1, hq1, hR1, hk1⟩ := own_irow oi' (by rw [n1]; omega)
        injection ee1 with ee1 _ ec1
        subst ee1
        rw [← n2] at os'
        obtain ⟨R2, cc2, ee2, hq2, hR2, hk2⟩ := own_srow os' (by rw [n2]; omega)
        injection ee2 with ee2 _ ec2
        subst ee2
        have hszz := HSZ.out
        refine ⟨some ⟨R1, 0, none⟩, e, some ⟨R2, 0, none⟩, e', ?_, hR1.sl hR1.lt, hR2.sl hR2.lt, wZ, Or.inr ⟨R1, rfl, by omega⟩, ⟨R2, rfl, by omega⟩, by show _ ≤ e; rw [ec1]; exact hk1, by show _ ≤ e'; rw [ec2]; exact hk2⟩
        show _ = Ending.returned (.agg #[.int .i64 mk, .slice (some ⟨R1, 0, none⟩) (bl.take k ++ b :: bl.drop k).length e, .slice (some ⟨R2, 0, none⟩) (dt.take k ++ s :: dt.drop k).length e'])
        rw [n1, n2]
      have HD4 : Below wr.heap.size wr W4.drew := HB4.out.drew
      obtain ⟨d0, d1, d2, -⟩ := HUP.out _ HD4
      obtain ⟨g0, g1, g2, -⟩ := HUP.out _ (HD4.trans HBV.out)
      obtain ⟨i0, i1, i2, i3⟩ := HUP.out _ (HD4.trans HBX.out)
      obtain ⟨j0, j1, j2, -⟩ := HUP.out _ (HD4.trans HBV'.out)
      obtain ⟨t0, t1, t2, t3⟩ := HUP.out _ (HD4.trans HBX'.out)
      have k0 : X.cell? ⟨w.heap.size + 1, 0, none⟩ = some (.int .i64 0) := box_cell i3 0
      have k1 : X.cell? ⟨w.heap.size + 1, 1, none⟩ = some (.slice none 0 0) := box_cell i3 1
      have k2 : X.cell? ⟨w.heap.size + 1, 2, none⟩ = some (.slice none 0 0) := box_cell i3 2
      have y0 : X.frozen? ⟨w.heap.size + 1, 0, none⟩ = false := box_free i3 0
      have y1 : X.frozen? ⟨w.heap.size + 1, 1, none⟩ = false := box_free i3 1
      have y2 : X.frozen? ⟨w.heap.size + 1, 2, none⟩ = false := box_free i3 2
      have k0' : X'.cell? ⟨w.heap.size + 1, 0, none⟩ = some (.int .i64 0) := box_cell t3 0
      have k1' : X'.cell? ⟨w.heap.size + 1, 1, none⟩ = some (.slice none 0 0) := box_cell t3 1
      have k2' : X'.cell? ⟨w.heap.size + 1, 2, none⟩ = some (.slice none 0 0) := box_cell t3 2
      have y0' : X'.frozen? ⟨w.heap.size + 1, 0, none⟩ = false := box_free t3 0
      have y1' : X'.frozen? ⟨w.heap.size + 1, 1, none⟩ = false := box_free t3 1
      have y2' : X'.frozen? ⟨w.heap.size + 1, 2, none⟩ = false := box_free t3 2
      obtain ⟨z0, z1, z2, z3, z4, z5, z6⟩ := HFIN.out X a7 f7 a8 f8 (HD4.trans HBX.out) HX1.out HX2.out _ rfl
      obtain ⟨z0', z1', z2', z3', z4', z5', z6'⟩ := HFIN.out X' a10 f10 a9 f9 (HD4.trans HBX'.out) HX1'.out HX2'.out _ rfl
      have HZ3 := hid z3
      have HZ3' := hid z3'
      clear i3 t3 z3 z3' HD4 hN r1 r2 r3 r4 hcl hdl m1 m2 x0 x1 x2
      go_region_held_law (fun v => v.cell? ⟨w.heap.size, 0, none⟩ = some (.int .i64 mk) ∧ v.cell? ⟨w.heap.size, 1, none⟩ = some (.slice p bl.length c) ∧ v.cell? ⟨w.heap.size, 2, none⟩ = some (.slice q bl.length d)) (first | exact ⟨by with_reducible assumption, by with_reducible assumption, by with_reducible assumption⟩) (first | (refine step_append_run rfl _ _ 26 rfl _ _ rfl rfl _ _ ri ?_) | (refine step_append_run rfl _ _ 62 rfl _ _ rfl rfl _ _ rs ?_) | (refine step_append_run rfl _ _ 62 rfl _ _ rfl rfl _ _ rs' ?_) | (refine step_append_run rfl _ _ 26 rfl _ _ rfl rfl _ _ ri' ?_))
      all_goals (go_wp2_with fail; first | exact bodyPost_ret (v := .agg #[.int .i64 mk, .slice a7 N f7, .slice a8 N f8]) (by simp [results, Try.results34, go_sem, z0, z1, z2]) rfl HZ3.out | exact bodyPost_ret (v := .agg #[.int .i64 mk, .slice a10 N f10, .slice a9 N f9]) (by simp [results, Try.results34, go_sem, z0', z1', z2']) rfl HZ3'.out)
end Go.Proofs.Ytmbkdollakbigaa
