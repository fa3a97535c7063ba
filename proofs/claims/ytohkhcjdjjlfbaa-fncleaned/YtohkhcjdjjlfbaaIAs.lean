/- Walk of the program's writeAnew, as CleanSeg has it. -/
import Derived.Test.YtohkhcjdjjlfbaaIFn
import Derived.Test.YtohkhcjdjjlfbaaIAn
import Derived.Test.YtohkhcjdjjlfbaaIAt
import Derived.Test.YtohkhcjdjjlfbaaICopy5
import Derived.Test.YtohkhcjdjjlfbaaSWks
namespace Go.Proofs.Ytohkhcjdjjlfbaa
set_option maxRecDepth 100000
open Go.ChangeShapes Go.WideShapes Go.ChangeAt Go.RowKit G00541
set_option maxHeartbeats 8000000 in
theorem writeAnew_n (BK : Nat) (no : Int) (aS aL pb : Option Addr) (kS kL cb : Nat) (S : List Sg) (L : List (List Bool)) (bs : List Int) (w : World) (hle : Lens S L 6) (h0 : 0 < S.length) (hb : bs.length ≤ 1000) (hG : Gs w.heap.size aS S w) (hV : Vs w.heap.size aL L w) (hI : Is w.heap.size pb bs w) (hBK : BK < w.heap.size) (hno : w.cell? ⟨BK, 0, none⟩ = some (.int .i64 no)) :
    Calls Try.prog 34 #[.agg #[.slice aS S.length kS, .slice aL L.length kL], .func (.func 33) #[] #[.pointer (some ⟨BK, 0, none⟩)], .slice pb bs.length cb] w fun e w' => WOut (wrs no bs (S, L)) w e w' := by
  have hmf : ∀ (fn : Fn) (first cap : Array Value) (w : World), (Instr.makeFunc fn first cap).run Try.prog w = .ok (.func fn first cap) w := fun _ _ _ _ => rfl
  obtain ⟨c1, c2, c3⟩ := hle.at (by decide)
  have HI := hid hI
  have HNO := hid hno
  clear hno
  have HLE := hid hle
  have HCP : Hid (∀ v, Below w.heap.size w v → Calls Try.prog 60 #[.agg #[.slice aS S.length kS, .slice aL L.length kL]] v fun e w' => ∃ vS vL, e = .returned (.agg #[vS, vL]) ∧ HR v.heap.size vS vL S L w' ∧ Below v.heap.size v w') := fun v hb => copyHeap_any aS aL kS kL S L v c1 hle.2.1 c2 c3 ((hG.below hb).mono hb.size) ((hV.below hb).mono hb.size)
  have HK0 : Hid (AK w (.func (.func 33) #[] #[.pointer (some ⟨BK, 0, none⟩)]) (.slice aS S.length kS) (.slice aL L.length kL) (((w.alloc (.cells #[.slice aS S.length kS, .slice aL L.length kL] 26)).alloc (.cells #[.func (.func 33) #[] #[.pointer (some ⟨BK, 0, none⟩)]] 51)).alloc (.cells #[.slice none 0 0, .slice none 0 0] 26))) := by
    refine ⟨(((Below.refl _ _).alloc (Nat.le_refl _) _).alloc (by simp) _).alloc (by simp; omega) _, ?_, heap_mid3 _ _ _ _, heap_last3 _ _ _ _⟩
    rw [Below.heap_alloc _ _ _ (by simp; omega), Below.heap_alloc _ _ _ (by simp)]
    exact heap_last _ _
  have HS0 := hid (rfl : ((w.alloc (.cells #[.slice aS S.length kS, .slice aL L.length kL] 26)).alloc (.cells #[.func (.func 33) #[] #[.pointer (some ⟨BK, 0, none⟩)]] 51)).alloc (.cells #[.slice none 0 0, .slice none 0 0] 26) = ((w.alloc (.cells #[.slice aS S.length kS, .slice aL L.length kL] 26)).alloc (.cells #[.func (.func 33) #[] #[.pointer (some ⟨BK, 0, none⟩)]] 51)).alloc (.cells #[.slice none 0 0, .slice none 0 0] 26))
  have hsz0 : (((w.alloc (.cells #[.slice aS S.length kS, .slice aL L.length kL] 26)).alloc (.cells #[.func (.func 33) #[] #[.pointer (some ⟨BK, 0, none⟩)]] 51)).alloc (.cells #[.slice none 0 0, .slice none 0 0] 26)).heap.size = w.heap.size + 3 := by simp
  have y0 := box_cell HK0.out.hbox 0
  have y1 := box_cell HK0.out.hbox 1
  have hl := hle.2.1
  have y0f := box_free HK0.out.hbox 0
  clear hG hV c1 c2 c3 HS0 hI
  generalize hW : ((w.alloc (.cells #[.slice aS S.length kS, .slice aL L.length kL] 26)).alloc (.cells #[.func (.func 33) #[] #[.pointer (some ⟨BK, 0, none⟩)]] 51)).alloc (.cells #[.slice none 0 0, .slice none 0 0] 26) = W at *
  have HC1 := hid (HCP.out W HK0.out.below)
  have HL := hid hl
  clear HCP hle hl
  go_enter Try.func34, Try.ntmps34
  go_wp2_with fail
  refine HC1.out.mono ?_
  rintro e w2 ⟨vS, vL, rfl, h2, b2⟩
  obtain ⟨gs, ks, gl, kl, q, p, rfl, rfl, -, -, hF2, -, -⟩ := h2.open h0
  rw [hsz0] at hF2 b2
  rw [HL.out] at hF2
  have hK2 := HK0.out.on b2
  have z0 := box_cell hK2.hbox 0
  have z1 := box_cell hK2.hbox 1
  have z0f := box_free hK2.hbox 0
  have z1f := box_free hK2.hbox 1
  generalize hN : S.length = N at *
  have HK3 := hid (hK2.put (.slice (some ⟨gs, 0, none⟩) N ks) (.slice (some ⟨gl, 0, none⟩) N kl))
  have HF3 : Hid (Fam (w.heap.size + 3) (hd2 S.length L.length) (hf (.slice (some ⟨gs, 0, none⟩) N ks) (.slice (some ⟨gl, 0, none⟩) N kl) q p S L) ((w2.setCell ⟨w.heap.size, 0, none⟩ (.slice (some ⟨gs, 0, none⟩) N ks)).setCell ⟨w.heap.size, 1, none⟩ (.slice (some ⟨gl, 0, none⟩) N kl))) := by
    have := (hF2.out (w.heap.size) 0 (.slice (some ⟨gs, 0, none⟩) N ks) (by omega)).out (w.heap.size) 1 (.slice (some ⟨gl, 0, none⟩) N kl) (by omega)
    show Fam _ (hd2 S.length L.length) _ _
    rw [hN, HL.out]; exact this
  have HSN := hid hN
  rw [HL.out]
  clear h2 b2 hF2 hK2 HK0 hsz0 y0 y1 y0f hW HC1 hN
  go_wp2_with fail
  generalize (w2.setCell ⟨w.heap.size, 0, none⟩ (.slice (some ⟨gs, 0, none⟩) N ks)).setCell ⟨w.heap.size, 1, none⟩ (.slice (some ⟨gl, 0, none⟩) N kl) = X3 at *
  go_loopw [23] (fun i wr => ∃ (n : Nat) (Sn : List Sg) (Ln : List (List Bool)) (q p : Nat → Value), n ≤ bs.length ∧ i = .int .i64 n ∧ wrs no (bs.drop n) (Sn, Ln) = wrs no bs (S, L) ∧ (Lens Sn Ln 6 ∧ Sn.length = N) ∧ Fam (w.heap.size + 3) (hd2 Sn.length Ln.length) (hf (.slice (some ⟨gs, 0, none⟩) N ks) (.slice (some ⟨gl, 0, none⟩) N kl) q p Sn Ln) wr ∧ AK w (.func (.func 33) #[] #[.pointer (some ⟨BK, 0, none⟩)]) (.slice (some ⟨gs, 0, none⟩) N ks) (.slice (some ⟨gl, 0, none⟩) N kl) wr) (fun i _ => bs.length - (intOf i).toNat)
  case atStart => exact ⟨0, S, L, q, p, Nat.zero_le _, rfl, rfl, ⟨HLE.out, HSN.out⟩, HF3.out, HK3.out⟩
  case round =>
    clear HF3 HK3 z0 z1 z0f z1f
    obtain ⟨n, Sn, Ln, q, p, hn, rfl, hwr, ⟨hle, hSN⟩, hF, hK⟩ := hrel
    have HW := hid hwr
    have HK := hid hK
    have HFn := hid hF
    have HLN := hid hle
    have HSNn := hid hSN
    clear hwr
    have y0 : wr.cell? ⟨w.heap.size, 0, none⟩ = some (.slice (some ⟨gs, 0, none⟩) N ks) := box_cell hK.hbox 0
    have y1 : wr.cell? ⟨w.heap.size, 1, none⟩ = some (.slice (some ⟨gl, 0, none⟩) N kl) := box_cell hK.hbox 1
    by_cases hlt : n < bs.length
    · obtain ⟨bb, ob, rfl, hbb, hcb⟩ := HI.out.cell (by omega)
      have x0 := (hK.below.cell (p := ⟨bb, ob + n, none⟩) hbb).trans (hcb n hlt)
      have HST := hid (wrs_step no bs n hlt (Sn, Ln))
      have hsz := hK.size
      obtain ⟨hG, hV⟩ := fam_read hF hle.2.1
      have b1 := boxB wr (.cells #[(.func (.func 61) #[] #[.pointer (some ⟨w.heap.size + 1, 0, none⟩), .pointer (some ⟨w.heap.size, 0, none⟩)]), (.func (.func 62) #[] #[.pointer (some ⟨w.heap.size + 1, 0, none⟩), .pointer (some ⟨w.heap.size, 0, none⟩)])] 51)
      have hK1 := hK.on (b1.mono hsz)
      have hCV : CN BK (w.heap.size + 1) w.heap.size no (some ⟨gs, 0, none⟩) ks Sn (wr.alloc (.cells #[(.func (.func 61) #[] #[.pointer (some ⟨w.heap.size + 1, 0, none⟩), .pointer (some ⟨w.heap.size, 0, none⟩)]), (.func (.func 62) #[] #[.pointer (some ⟨w.heap.size + 1, 0, none⟩), .pointer (some ⟨w.heap.size, 0, none⟩)])] 51)) := by
        refine ⟨⟨box_cell hK1.mbox 0, ?_, by have := hK1.size; omega, by have := hK1.size; omega, (hG.below b1).mono b1.size⟩, (hK1.below.cell (p := ⟨BK, 0, none⟩) hBK).trans HNO.out, by have := hK1.size; omega⟩
        rw [hSN]; exact box_cell hK1.hbox 0
      have HC7 := hid (firstSeg_n BK (w.heap.size + 1) w.heap.size wr.heap.size no (some ⟨gs, 0, none⟩) (some ⟨gl, 0, none⟩) ks kl N Sn (wr.alloc (.cells #[(.func (.func 61) #[] #[.pointer (some ⟨w.heap.size + 1, 0, none⟩), .pointer (some ⟨w.heap.size, 0, none⟩)]), (.func (.func 62) #[] #[.pointer (some ⟨w.heap.size + 1, 0, none⟩), .pointer (some ⟨w.heap.size, 0, none⟩)])] 51)) hle.1 (fun k hk => by have := (hle.2.2 k hk).2; rw [blAt_eq Sn k hk] at this; omega) hCV (by simp) (box_cell (heap_last _ _) 0) (box_cell (heap_last _ _) 1))
      rw [hSN] at HC7
      have HK1 := hid hK1
      have HB1 := hid b1
      clear hcb hG hV hK1 hCV hK hF b1
      generalize bs[n] = x at *
      obtain ⟨o, ho⟩ : ∃ o, roomH Sn no = o := ⟨_, rfl⟩
      have HRO := hid ho
      rw [ho] at HC7
      clear ho
      cases o with
      | none =>
        have HNONE : Hid (wrs no bs (S, L) = none) := by
          show wrs no bs (S, L) = none
          rw [← HW.out, HST.out]
          have : wrH Sn Ln x no = none := by unfold wrH; rw [HRO.out]; rfl
          rw [show wrH (Sn, Ln).1 (Sn, Ln).2 x no = none from this]
        clear HST HW
        go_wp2_with fail
        refine HC7.out.mono ?_
        rintro e w8 ⟨rfl, b8⟩
        have HK8 := hid (HK1.out.on (b8.mono HK1.out.size))
        clear b8 HC7 HK1 HB1 HK HFn y0 y1
        have z0 : w8.cell? ⟨w.heap.size + 1 + 1, 0, none⟩ = some (.slice none 0 0) := box_cell HK8.out.res 0
        have z1 : w8.cell? ⟨w.heap.size + 1 + 1, 1, none⟩ = some (.slice none 0 0) := box_cell HK8.out.res 1
        have z0f := box_free HK8.out.res 0
        have z1f := box_free HK8.out.res 1
        obtain ⟨b10, e0, e1⟩ := HK8.out.fill (.slice none 0 0) (.slice none 0 0)
        have HB10 := hid b10
        clear b10 HK8
        simp only [segOf]
        go_wp2_with fail
        generalize (w8.setCell ⟨w.heap.size + 1 + 1, 0, none⟩ (.slice none 0 0)).setCell ⟨w.heap.size + 1 + 1, 1, none⟩ (.slice none 0 0) = X at *
        refine bodyPost_ret (v := .tuple #[.agg #[.slice none 0 0, .slice none 0 0], .bool false]) (by simp [results, Try.results34, go_sem, e0, e1]) rfl ?_
        rw [HNONE.out]
        exact HOut.no HB10.out
      | some to =>
        obtain ⟨hto, hto5⟩ := roomH_lt Sn no to HRO.out
        have hdt : decide ((to : Int) < 0) = false := decide_eq_false (by omega)
        have HTO := hid hto
        have hbl6 := HLN.out.2.2 to hto
        have HBL : Hid ((blAt Sn to).length ≤ 100) := by show (blAt Sn to).length ≤ 100; omega
        have HAT : Hid (∀ v, Gs v.heap.size (some ⟨gs, 0, none⟩) Sn v → Vs v.heap.size (some ⟨gl, 0, none⟩) Ln v → Calls Try.prog 46 #[.agg #[(.slice (some ⟨gs, 0, none⟩) N ks), (.slice (some ⟨gl, 0, none⟩) N kl)], .int .i64 x] v fun e w' => e = whereOf (whereH Sn Ln x) ∧ Below v.heap.size v w') := fun v h1 h2 => by
          have := liveAt_any (some ⟨gs, 0, none⟩) (some ⟨gl, 0, none⟩) ks kl Sn Ln x v (by have := HLN.out.1; omega) HLN.out.2.1 (fun k hk => by
            have := HLN.out.2.2 k hk
            rw [blAt_eq Sn k hk, lvAt_eq Ln k (by have := HLN.out.2.1; omega)] at this
            exact ⟨this.1, by omega⟩) h1 h2
          rw [HLN.out.2.1, HSNn.out] at this
          exact this
        have HNX : Hid (wrs no (bs.drop (n + 1)) (putS Sn to x, putL (offL Ln (whereH Sn Ln x)) to) = wrs no bs (S, L)) := by
          show wrs no (bs.drop (n + 1)) _ = _
          rw [← HW.out, HST.out]
          have : wrH Sn Ln x no = some (putS Sn to x, putL (offL Ln (whereH Sn Ln x)) to) := by unfold wrH; rw [HRO.out]; rfl
          rw [show wrH (Sn, Ln).1 (Sn, Ln).2 x no = _ from this]
        have HLPP : Hid (Lens (putS Sn to x) (putL (offL Ln (whereH Sn Ln x)) to) 6 ∧ (putS Sn to x).length = N) := ⟨HLN.out.put6 _ to hto hto5 x, by unfold putS; rw [List.length_set]; exact HSNn.out⟩
        have HWL := hid (whereH_lt Sn Ln x)
        have htoN : to < N := by rw [← HSNn.out]; exact hto
        clear HST HW hle hSN
        go_wp2_with fail
        refine HC7.out.mono ?_
        rintro e w8 ⟨rfl, b8⟩
        have HK8 := hid (HK1.out.on (b8.mono HK1.out.size))
        have HF8 := hid ((HFn.out.below HB1.out).below b8)
        obtain ⟨hG8, hV8⟩ := fam_read HF8.out HLN.out.2.1
        have HC8 := hid (HAT.out w8 hG8 hV8)
        clear b8 HC7 HK1 HB1 HK HFn y0 y1 HAT hG8 hV8 x0
        have y0 : w8.cell? ⟨w.heap.size, 0, none⟩ = some (.slice (some ⟨gs, 0, none⟩) N ks) := box_cell HK8.out.hbox 0
        have y1 : w8.cell? ⟨w.heap.size, 1, none⟩ = some (.slice (some ⟨gl, 0, none⟩) N kl) := box_cell HK8.out.hbox 1
        simp only [segOf]
        obtain ⟨o, ho⟩ : ∃ o, whereH Sn Ln x = o := ⟨_, rfl⟩
        rw [ho] at HC8 HNX HLPP HWL
        clear ho
        cases o with
        | none =>
          go_wp2_with fail
          refine HC8.out.mono ?_
          rintro e W6 ⟨rfl, b9⟩
          have HK6 := hid (HK8.out.on (b9.mono HK8.out.size))
          have HF6 := hid (HF8.out.below b9)
          clear b9 HC8 HK8 HF8 y0 y1 HWL
          simp only [whereOf]
          go_wp2_with fail
          obtain ⟨L1, hL1⟩ : ∃ L1, L1 = Ln := ⟨_, rfl⟩
          have HNEXT : Hid (wrs no (bs.drop (n + 1)) (putS Sn to x, putL L1 to) = wrs no bs (S, L)) := by rw [hL1]; exact HNX.out
          have HLP : Hid (Lens (putS Sn to x) (putL L1 to) 6 ∧ (putS Sn to x).length = N) := by rw [hL1]; exact HLPP.out
          have HL1 : Hid (L1.length = Sn.length) := by rw [hL1]; exact HLN.out.2.1
          have HLB1 : Hid ((lvAt L1 to).length ≤ 100) := by rw [hL1]; show (lvAt Ln to).length ≤ 100; omega
          rw [← hL1] at HF6
          clear hL1 HNX HLPP
          have hK6 := HK6.out.on ((Below.refl _ _).drew)
          have hs6 : w.heap.size + 3 ≤ W6.drew.heap.size := hK6.size
          have hF6 : Fam (w.heap.size + 3) (hd2 Sn.length L1.length) (hf (.slice (some ⟨gs, 0, none⟩) N ks) (.slice (some ⟨gl, 0, none⟩) N kl) q p Sn L1) W6.drew := HF6.out.below (Below.refl _ _).drew
          obtain ⟨a4, c4, W4, r4, b4, k4, F4⟩ := blk_step hF6 hs6 to HTO.out x HBL.out gs rfl
          have hne := hF6.apart .s (.b to) trivial HTO.out (by intro e; cases e) gs rfl
          have hseg : W6.drew.ownsRow (w.heap.size + 3) 40 2 (.slice (some ⟨gs, 0, none⟩) N ks) Sn.length (segXs q Sn) := hF6.own .s trivial
          have hgb := hseg.lt gs rfl
          have v0 : W6.drew.cell? ⟨gs, to * 2, none⟩ = some (q to) := by rw [rw_cell hseg rfl (to * 2) (by rw [segXs_len]; have := HTO.out; omega), segXs_q]
          have vf : W6.drew.frozen? ⟨gs, to * 2, none⟩ = false := rw_free hseg rfl _
          have hgl4 := k4 gs hgb.2 hne
          have v4 : W4.cell? ⟨gs, to * 2, none⟩ = some (q to) := (World.cell?_of_block (a := ⟨gs, to * 2, none⟩) hgl4).trans v0
          have v4f : W4.frozen? ⟨gs, to * 2, none⟩ = false := (World.frozen?_of_block (a := ⟨gs, to * 2, none⟩) hgl4).trans vf
          have v1 : (W6.drew.alloc (.cells #[.int .i64 x] 3)).cell? ⟨gs, to * 2, none⟩ = some (q to) := ((boxB W6.drew (.cells #[.int .i64 x] 3)).cell (p := ⟨gs, to * 2, none⟩) hgb.2).trans v0
          have hK1 := hK6.on ((boxB W6.drew (.cells #[.int .i64 x] 3)).mono hs6)
          have hK4 := hK6.on b4
          have u0 : W6.drew.cell? ⟨w.heap.size, 0, none⟩ = some (.slice (some ⟨gs, 0, none⟩) N ks) := box_cell hK6.hbox 0
          have u1 : (W6.drew.alloc (.cells #[.int .i64 x] 3)).cell? ⟨w.heap.size, 0, none⟩ = some (.slice (some ⟨gs, 0, none⟩) N ks) := box_cell hK1.hbox 0
          have u4 : W4.cell? ⟨w.heap.size, 0, none⟩ = some (.slice (some ⟨gs, 0, none⟩) N ks) := box_cell hK4.hbox 0
          have HK7 := hid (hK4.on (setB (Below.refl _ _) gs (to * 2) hgb.1 (.slice a4 ((blAt Sn to).length + 1) c4)))
          have HF7 := hid F4
          clear hK6 hK1 hK4 hF6 b4 k4 F4 hseg hne hgl4 vf HK6 HF6 hgb
          generalize q to = qt at *
          go_wp2_with fail
          refine wp_region_L (fun u => u.cell? ⟨w.heap.size, 0, none⟩ = some (.slice (some ⟨gs, 0, none⟩) N ks) ∧ u.cell? ⟨gs, to * 2, none⟩ = some qt) 14 (by kernel_rfl) ?_
          generalize hV0 : W6.drew = V at *
          generalize hV1 : V.alloc (.cells #[.int .i64 x] 3) = V1 at *
          obtain ⟨T, hT⟩ : ∃ T : World → Prop, T = fun u => u.cell? ⟨w.heap.size, 0, none⟩ = some (.slice (some ⟨gs, 0, none⟩) N ks) ∧ u.cell? ⟨gs, to * 2, none⟩ = some qt := ⟨_, rfl⟩
          rw [← hT]
          have hTi : ∀ u, u.cell? ⟨w.heap.size, 0, none⟩ = some (.slice (some ⟨gs, 0, none⟩) N ks) → u.cell? ⟨gs, to * 2, none⟩ = some qt → T u := fun u h1 h2 => by rw [hT]; exact ⟨h1, h2⟩
          have hTo : ∀ u, T u → u.cell? ⟨w.heap.size, 0, none⟩ = some (.slice (some ⟨gs, 0, none⟩) N ks) ∧ u.cell? ⟨gs, to * 2, none⟩ = some qt := fun u h => by rw [hT] at h; exact h
          have HTo := hid hTo
          have HTi := hid hTi
          clear hT hTo hTi
          have hHeld : T V := HTi.out _ u0 v0
          refine wpAnyL_take (i := 0) (v := .pointer (some ⟨w.heap.size, 0, none⟩)) (C := [0, 1, 12, 13, 14]) rfl (by kernel_rfl) (fun _ _ _ h => h) (Or.inl ⟨by rfl, fun _ _ => by go_simp⟩) hHeld ?_
          dsimp only [Act.put]
          refine wpAnyL_take (i := 1) (v := (.slice (some ⟨gs, 0, none⟩) N ks)) (C := [1, 12, 13, 14]) rfl (by kernel_rfl) (fun _ _ _ h => h) (Or.inl ⟨by rfl, fun u hu => by obtain ⟨h1, h2⟩ := HTo.out _ hu; go_simp⟩) hHeld ?_
          dsimp only [Act.put]
          refine wpAnyL_take (i := 2) (v := .int .i64 to) (C := [2, 12, 13, 14]) rfl (by kernel_rfl) (fun _ _ _ h => h) (Or.inl ⟨by rfl, fun _ _ => by go_simp⟩) hHeld ?_
          dsimp only [Act.put]
          refine wpAnyL_take (i := 3) (v := .pointer (some ⟨w.heap.size, 0, none⟩)) (C := [3, 4, 6, 7, 8, 11, 14]) rfl (by kernel_rfl) (fun _ _ _ h => h) (Or.inl ⟨by rfl, fun _ _ => by go_simp⟩) hHeld ?_
          dsimp only [Act.put]
          refine wpAnyL_take (i := 4) (v := (.slice (some ⟨gs, 0, none⟩) N ks)) (C := [4, 6, 7, 8, 11, 14]) rfl (by kernel_rfl) (fun _ _ _ h => h) (Or.inl ⟨by rfl, fun u hu => by obtain ⟨h1, h2⟩ := HTo.out _ hu; go_simp⟩) hHeld ?_
          dsimp only [Act.put]
          refine wpAnyL_take (i := 5) (v := .int .i64 to) (C := [5, 6, 7, 8, 11, 14]) rfl (by kernel_rfl) (fun _ _ _ h => h) (Or.inl ⟨by rfl, fun _ _ => by go_simp⟩) hHeld ?_
          dsimp only [Act.put]
          refine wpAnyL_take (i := 6) (v := (.pointer (some ⟨gs, to * 2, none⟩))) (C := [6, 7, 8, 11, 14]) rfl (by kernel_rfl) (fun _ _ _ h => h) (Or.inl ⟨by rfl, fun _ _ => by go_simp⟩) hHeld ?_
          dsimp only [Act.put]
          refine wpAnyL_take (i := 7) (v := (.pointer (some ⟨gs, to * 2, none⟩))) (C := [7, 8, 11, 14]) rfl (by kernel_rfl) (fun _ _ _ h => h) (Or.inl ⟨by rfl, fun _ _ => by go_simp⟩) hHeld ?_
          dsimp only [Act.put]
          refine wpAnyL_take (i := 8) (v := qt) (C := [8, 11, 14]) rfl (by kernel_rfl) (fun _ _ _ h => h) (Or.inl ⟨by rfl, fun u hu => by obtain ⟨h1, h2⟩ := HTo.out _ hu; go_simp⟩) hHeld ?_
          dsimp only [Act.put]
          refine wpAnyL_take (i := 9) (v := .int .i64 x) (C := [9, 10, 11, 14]) rfl (by kernel_rfl) (fun _ _ _ h => h) (Or.inl ⟨by rfl, fun _ _ => by go_simp⟩) hHeld ?_
          dsimp only [Act.put]
          refine wpAnyL_one (i := 10) (by kernel_rfl) rfl (fun K hK => ?_)
          rw [if_pos (by rfl)]
          go_simp
          refine hK.out _ _ (fun _ => (HTi.out _ u1 v1)) ?_
          clear hK K hHeld
          have hHeld := (HTi.out _ u1 v1)
          refine wpAnyL_one (i := 11) (by kernel_rfl) rfl (fun K hK => ?_)
          refine step_append_run rfl (.tmp 61) (.tmp 63) 35 rfl _ _ rfl rfl _ _ r4 ?_
          refine hK.out _ _ (fun _ => (HTi.out _ u4 v4)) ?_
          clear hK K hHeld
          have hHeld := (HTi.out _ u4 v4)
          dsimp only [Act.put]
          refine wpAnyL_take (i := 12) (v := (.pointer (some ⟨gs, to * 2, none⟩))) (C := [12, 13, 14]) rfl (by kernel_rfl) (fun _ _ _ h => h) (Or.inl ⟨by rfl, fun _ _ => by go_simp⟩) hHeld ?_
          dsimp only [Act.put]
          refine wpAnyL_take (i := 13) (v := (.pointer (some ⟨gs, to * 2, none⟩))) (C := [13, 14]) rfl (by kernel_rfl) (fun _ _ _ h => h) (Or.inl ⟨by rfl, fun _ _ => by go_simp⟩) hHeld ?_
          dsimp only [Act.put]
          refine wpAnyL_one (i := 14) (by kernel_rfl) rfl (fun K hK => ?_)
          rw [if_pos (by rfl)]
          go_simp
          refine hK.out _ _ (fun h => absurd rfl h) ?_
          clear hK K hHeld
          refine wpAnyL_done (by kernel_rfl) ?_
          clear r4 u0 u1 u4 v0 v1 v4 v4f hV0 hV1 HTi HTo
          generalize hW7 : W4.setCell ⟨gs, to * 2, none⟩ (.slice a4 ((blAt Sn to).length + 1) c4) = W7 at *
          clear hW7
          have hK6 := HK7.out.on ((Below.refl _ _).drew)
          have hs7 : w.heap.size + 3 ≤ W7.drew.heap.size := hK6.size
          have hF6 := HF7.out.below (w' := W7.drew) (Below.refl _ _).drew
          obtain ⟨a9, c9, W9, r4, b4, k4, F4⟩ := lv_step hF6 hs7 to (by rw [HL1.out]; exact HTO.out) true HLB1.out gl rfl
          have hne := hF6.apart .l (.v to) trivial (show to < L1.length by rw [HL1.out]; exact HTO.out) (by intro e; cases e) gl rfl
          have hseg : W7.drew.ownsRow (w.heap.size + 3) 53 1 (.slice (some ⟨gl, 0, none⟩) N kl) L1.length (livXs p L1.length) := hF6.own .l trivial
          have hgb := hseg.lt gl rfl
          have v0 : W7.drew.cell? ⟨gl, to, none⟩ = some (p to) := by rw [rw_cell hseg rfl to (by rw [livXs_len, HL1.out]; exact HTO.out), livXs_at]
          have vf : W7.drew.frozen? ⟨gl, to, none⟩ = false := rw_free hseg rfl _
          have hgl4 := k4 gl hgb.2 hne
          have v4 : W9.cell? ⟨gl, to, none⟩ = some (p to) := (World.cell?_of_block (a := ⟨gl, to, none⟩) hgl4).trans v0
          have v4f : W9.frozen? ⟨gl, to, none⟩ = false := (World.frozen?_of_block (a := ⟨gl, to, none⟩) hgl4).trans vf
          have v1 : (W7.drew.alloc (.cells #[.bool true] 4)).cell? ⟨gl, to, none⟩ = some (p to) := ((boxB W7.drew (.cells #[.bool true] 4)).cell (p := ⟨gl, to, none⟩) hgb.2).trans v0
          have hK1 := hK6.on ((boxB W7.drew (.cells #[.bool true] 4)).mono hs7)
          have hK4 := hK6.on b4
          have u0 : W7.drew.cell? ⟨w.heap.size, 1, none⟩ = some (.slice (some ⟨gl, 0, none⟩) N kl) := box_cell hK6.hbox 1
          have u1 : (W7.drew.alloc (.cells #[.bool true] 4)).cell? ⟨w.heap.size, 1, none⟩ = some (.slice (some ⟨gl, 0, none⟩) N kl) := box_cell hK1.hbox 1
          have u4 : W9.cell? ⟨w.heap.size, 1, none⟩ = some (.slice (some ⟨gl, 0, none⟩) N kl) := box_cell hK4.hbox 1
          have HK9 := hid (hK4.on (setB (Below.refl _ _) gl to hgb.1 (.slice a9 ((lvAt L1 to).length + 1) c9)))
          have HF9 := hid F4
          clear hK6 hK1 hK4 hF6 b4 k4 F4 hseg hne hgl4 vf HK7 HF7 hgb
          generalize p to = pt at *
          go_wp2_with fail
          refine wp_region_L (fun u => u.cell? ⟨w.heap.size, 1, none⟩ = some (.slice (some ⟨gl, 0, none⟩) N kl) ∧ u.cell? ⟨gl, to, none⟩ = some pt) 11 (by kernel_rfl) ?_
          generalize hV0 : W7.drew = V at *
          generalize hV1 : V.alloc (.cells #[.bool true] 4) = V1 at *
          obtain ⟨T, hT⟩ : ∃ T : World → Prop, T = fun u => u.cell? ⟨w.heap.size, 1, none⟩ = some (.slice (some ⟨gl, 0, none⟩) N kl) ∧ u.cell? ⟨gl, to, none⟩ = some pt := ⟨_, rfl⟩
          rw [← hT]
          have hTi : ∀ u, u.cell? ⟨w.heap.size, 1, none⟩ = some (.slice (some ⟨gl, 0, none⟩) N kl) → u.cell? ⟨gl, to, none⟩ = some pt → T u := fun u h1 h2 => by rw [hT]; exact ⟨h1, h2⟩
          have hTo : ∀ u, T u → u.cell? ⟨w.heap.size, 1, none⟩ = some (.slice (some ⟨gl, 0, none⟩) N kl) ∧ u.cell? ⟨gl, to, none⟩ = some pt := fun u h => by rw [hT] at h; exact h
          have HTo := hid hTo
          have HTi := hid hTi
          clear hT hTo hTi
          have hHeld : T V := HTi.out _ u0 v0
          refine wpAnyL_take (i := 0) (v := .pointer (some ⟨w.heap.size, 1, none⟩)) (C := [0, 1, 10, 11]) rfl (by kernel_rfl) (fun _ _ _ h => h) (Or.inl ⟨by rfl, fun _ _ => by go_simp⟩) hHeld ?_
          dsimp only [Act.put]
          refine wpAnyL_take (i := 1) (v := (.slice (some ⟨gl, 0, none⟩) N kl)) (C := [1, 10, 11]) rfl (by kernel_rfl) (fun _ _ _ h => h) (Or.inl ⟨by rfl, fun u hu => by obtain ⟨h1, h2⟩ := HTo.out _ hu; go_simp⟩) hHeld ?_
          dsimp only [Act.put]
          refine wpAnyL_take (i := 2) (v := .int .i64 to) (C := [2, 10, 11]) rfl (by kernel_rfl) (fun _ _ _ h => h) (Or.inl ⟨by rfl, fun _ _ => by go_simp⟩) hHeld ?_
          dsimp only [Act.put]
          refine wpAnyL_take (i := 3) (v := .pointer (some ⟨w.heap.size, 1, none⟩)) (C := [3, 4, 6, 7, 9, 11]) rfl (by kernel_rfl) (fun _ _ _ h => h) (Or.inl ⟨by rfl, fun _ _ => by go_simp⟩) hHeld ?_
          dsimp only [Act.put]
          refine wpAnyL_take (i := 4) (v := (.slice (some ⟨gl, 0, none⟩) N kl)) (C := [4, 6, 7, 9, 11]) rfl (by kernel_rfl) (fun _ _ _ h => h) (Or.inl ⟨by rfl, fun u hu => by obtain ⟨h1, h2⟩ := HTo.out _ hu; go_simp⟩) hHeld ?_
          dsimp only [Act.put]
          refine wpAnyL_take (i := 5) (v := .int .i64 to) (C := [5, 6, 7, 9, 11]) rfl (by kernel_rfl) (fun _ _ _ h => h) (Or.inl ⟨by rfl, fun _ _ => by go_simp⟩) hHeld ?_
          dsimp only [Act.put]
          refine wpAnyL_take (i := 6) (v := (.pointer (some ⟨gl, to, none⟩))) (C := [6, 7, 9, 11]) rfl (by kernel_rfl) (fun _ _ _ h => h) (Or.inl ⟨by rfl, fun _ _ => by go_simp⟩) hHeld ?_
          dsimp only [Act.put]
          refine wpAnyL_take (i := 7) (v := pt) (C := [7, 9, 11]) rfl (by kernel_rfl) (fun _ _ _ h => h) (Or.inl ⟨by rfl, fun u hu => by obtain ⟨h1, h2⟩ := HTo.out _ hu; go_simp⟩) hHeld ?_
          dsimp only [Act.put]
          refine wpAnyL_one (i := 8) (by kernel_rfl) rfl (fun K hK => ?_)
          rw [if_pos (by rfl)]
          go_simp
          refine hK.out _ _ (fun _ => (HTi.out _ u1 v1)) ?_
          clear hK K hHeld
          have hHeld := (HTi.out _ u1 v1)
          refine wpAnyL_one (i := 9) (by kernel_rfl) rfl (fun K hK => ?_)
          refine step_append_run rfl (.tmp 74) (.tmp 75) 53 rfl _ _ rfl rfl _ _ r4 ?_
          refine hK.out _ _ (fun _ => (HTi.out _ u4 v4)) ?_
          clear hK K hHeld
          have hHeld := (HTi.out _ u4 v4)
          dsimp only [Act.put]
          refine wpAnyL_take (i := 10) (v := (.pointer (some ⟨gl, to, none⟩))) (C := [10, 11]) rfl (by kernel_rfl) (fun _ _ _ h => h) (Or.inl ⟨by rfl, fun _ _ => by go_simp⟩) hHeld ?_
          dsimp only [Act.put]
          refine wpAnyL_one (i := 11) (by kernel_rfl) rfl (fun K hK => ?_)
          rw [if_pos (by rfl)]
          go_simp
          refine hK.out _ _ (fun h => absurd rfl h) ?_
          clear hK K hHeld
          refine wpAnyL_done (by kernel_rfl) ?_
          clear r4 u0 u1 u4 v0 v1 v4 v4f hV0 hV1 HTi HTo
          generalize hW10 : W9.setCell ⟨gl, to, none⟩ (.slice a9 ((lvAt L1 to).length + 1) c9) = W10 at *
          clear hW10
          go_wp2_with fail
          go_roundw
          case rel =>
            refine ⟨n + 1, putS Sn to x, putL L1 to, upN q to (.slice a4 ((blAt Sn to).length + 1) c4), upN p to (.slice a9 ((lvAt L1 to).length + 1) c9), by omega, by go_num, HNEXT.out, HLP.out, ?_, HK9.out⟩
            have := HF9.out
            have e1 : (putS Sn to x).length = Sn.length := by unfold putS; rw [List.length_set]
            have e2 : (putL L1 to).length = L1.length := by unfold putL; rw [List.length_set]
            rw [e1, e2]
            exact this
          case measure => simp [intOf]; omega
        | some t =>
          obtain ⟨k, i⟩ := t
          obtain ⟨hk, hi⟩ := HWL.out k i rfl
          go_wp2_with fail
          refine HC8.out.mono ?_
          rintro e W5 ⟨rfl, b9⟩
          have HK5 := hid (HK8.out.on (b9.mono HK8.out.size))
          have hF5 := HF8.out.below b9
          have hkL : k < Ln.length := by rw [HLN.out.2.1]; exact hk
          have hkN : k < N := by rw [← HSNn.out]; exact hk
          have hlen := (HLN.out.2.2 k hk).1
          have hrow : W5.ownsRow (w.heap.size + 3) 4 1 (p k) (lvAt Ln k).length (bvals (lvAt Ln k)) := hF5.own (.v k) hkL
          obtain ⟨gk, ck, epk, hgk1, hgk2⟩ := rw_block hrow (by omega)
          have hpo : (p k).ownBlock = some gk := by rw [epk]; rfl
          have hL5 : W5.ownsRow (w.heap.size + 3) 53 1 (.slice (some ⟨gl, 0, none⟩) N kl) Ln.length (livXs p Ln.length) := hF5.own .l trivial
          have y1' : W5.cell? ⟨w.heap.size, 1, none⟩ = some (.slice (some ⟨gl, 0, none⟩) N kl) := box_cell HK5.out.hbox 1
          have d0 : W5.cell? ⟨gl, k, none⟩ = some (.slice (some ⟨gk, 0, none⟩) (lvAt Ln k).length ck) := by rw [rw_cell hL5 rfl k (by rw [livXs_len]; exact hkL), livXs_at, epk]
          have hbl2 : i < (bvals (lvAt Ln k)).length := by unfold bvals; rw [List.length_map]; omega
          have d1 := rw_cell hrow hpo i hbl2
          have d1f := rw_free hrow hpo i
          have e5 : (bvals (lvAt Ln k))[i] = .bool ((lvAt Ln k)[i]'(by omega)) := by simp [bvals]
          rw [e5] at d1
          have HF6 := hid (fam_off hF5 k hkL gk hpo i)
          have HK6 := hid (HK5.out.on (setB (Below.refl _ _) gk i hgk1 (.bool false)))
          have hik : i < (lvAt Ln k).length := by omega
          clear b9 y0 y1 HC8 HK8 HF8 HWL hF5 hrow hL5 HK5 epk hpo e5 hgk2 hbl2
          generalize (lvAt Ln k)[i]'(by omega) = bb' at *
          simp only [whereOf]
          go_wp2_with fail
          have HLX : Hid (hd2 Sn.length (Ln.set k ((lvAt Ln k).set i false)).length = hd2 Sn.length Ln.length) := by show hd2 _ _ = _; rw [List.length_set]
          rw [← HLX.out] at HF6
          have HL1' : Hid ((Ln.set k ((lvAt Ln k).set i false)).length = Sn.length) := by show (Ln.set k _).length = Sn.length; rw [List.length_set]; exact HLN.out.2.1
          have HLB1' : Hid ((lvAt (Ln.set k ((lvAt Ln k).set i false)) to).length ≤ 100) := by
            show (lvAt (Ln.set k _) to).length ≤ 100
            rw [lvAt_set _ _ _ _ (by rw [HLN.out.2.1]; exact hto)]
            split
            · rename_i e; subst e; rw [List.length_set]; omega
            · omega
          have HNX' : Hid (wrs no (bs.drop (n + 1)) (putS Sn to x, putL (Ln.set k ((lvAt Ln k).set i false)) to) = wrs no bs (S, L)) := HNX.out
          have HLP' : Hid (Lens (putS Sn to x) (putL (Ln.set k ((lvAt Ln k).set i false)) to) 6 ∧ (putS Sn to x).length = N) := HLPP.out
          clear y1' d0 d1 d1f HLX hlen hik hi HNX HLPP
          generalize hW6 : W5.setCell ⟨gk, i, none⟩ (.bool false) = W6 at *
          clear hW6
          generalize Ln.set k ((lvAt Ln k).set i false) = L1 at *
          have HNEXT := hid HNX'.out
          have HLP := hid HLP'.out
          have HL1 := hid HL1'.out
          have HLB1 := hid HLB1'.out
          clear HNX' HLP' HL1' HLB1'
          have hK6 := HK6.out.on ((Below.refl _ _).drew)
          have hs6 : w.heap.size + 3 ≤ W6.drew.heap.size := hK6.size
          have hF6 : Fam (w.heap.size + 3) (hd2 Sn.length L1.length) (hf (.slice (some ⟨gs, 0, none⟩) N ks) (.slice (some ⟨gl, 0, none⟩) N kl) q p Sn L1) W6.drew := HF6.out.below (Below.refl _ _).drew
          obtain ⟨a4, c4, W4, r4, b4, k4, F4⟩ := blk_step hF6 hs6 to HTO.out x HBL.out gs rfl
          have hne := hF6.apart .s (.b to) trivial HTO.out (by intro e; cases e) gs rfl
          have hseg : W6.drew.ownsRow (w.heap.size + 3) 40 2 (.slice (some ⟨gs, 0, none⟩) N ks) Sn.length (segXs q Sn) := hF6.own .s trivial
          have hgb := hseg.lt gs rfl
          have v0 : W6.drew.cell? ⟨gs, to * 2, none⟩ = some (q to) := by rw [rw_cell hseg rfl (to * 2) (by rw [segXs_len]; have := HTO.out; omega), segXs_q]
          have vf : W6.drew.frozen? ⟨gs, to * 2, none⟩ = false := rw_free hseg rfl _
          have hgl4 := k4 gs hgb.2 hne
          have v4 : W4.cell? ⟨gs, to * 2, none⟩ = some (q to) := (World.cell?_of_block (a := ⟨gs, to * 2, none⟩) hgl4).trans v0
          have v4f : W4.frozen? ⟨gs, to * 2, none⟩ = false := (World.frozen?_of_block (a := ⟨gs, to * 2, none⟩) hgl4).trans vf
          have v1 : (W6.drew.alloc (.cells #[.int .i64 x] 3)).cell? ⟨gs, to * 2, none⟩ = some (q to) := ((boxB W6.drew (.cells #[.int .i64 x] 3)).cell (p := ⟨gs, to * 2, none⟩) hgb.2).trans v0
          have hK1 := hK6.on ((boxB W6.drew (.cells #[.int .i64 x] 3)).mono hs6)
          have hK4 := hK6.on b4
          have u0 : W6.drew.cell? ⟨w.heap.size, 0, none⟩ = some (.slice (some ⟨gs, 0, none⟩) N ks) := box_cell hK6.hbox 0
          have u1 : (W6.drew.alloc (.cells #[.int .i64 x] 3)).cell? ⟨w.heap.size, 0, none⟩ = some (.slice (some ⟨gs, 0, none⟩) N ks) := box_cell hK1.hbox 0
          have u4 : W4.cell? ⟨w.heap.size, 0, none⟩ = some (.slice (some ⟨gs, 0, none⟩) N ks) := box_cell hK4.hbox 0
          have HK7 := hid (hK4.on (setB (Below.refl _ _) gs (to * 2) hgb.1 (.slice a4 ((blAt Sn to).length + 1) c4)))
          have HF7 := hid F4
          clear hK6 hK1 hK4 hF6 b4 k4 F4 hseg hne hgl4 vf HK6 HF6 hgb
          generalize q to = qt at *
          go_wp2_with fail
          refine wp_region_L (fun u => u.cell? ⟨w.heap.size, 0, none⟩ = some (.slice (some ⟨gs, 0, none⟩) N ks) ∧ u.cell? ⟨gs, to * 2, none⟩ = some qt) 14 (by kernel_rfl) ?_
          generalize hV0 : W6.drew = V at *
          generalize hV1 : V.alloc (.cells #[.int .i64 x] 3) = V1 at *
          obtain ⟨T, hT⟩ : ∃ T : World → Prop, T = fun u => u.cell? ⟨w.heap.size, 0, none⟩ = some (.slice (some ⟨gs, 0, none⟩) N ks) ∧ u.cell? ⟨gs, to * 2, none⟩ = some qt := ⟨_, rfl⟩
          rw [← hT]
          have hTi : ∀ u, u.cell? ⟨w.heap.size, 0, none⟩ = some (.slice (some ⟨gs, 0, none⟩) N ks) → u.cell? ⟨gs, to * 2, none⟩ = some qt → T u := fun u h1 h2 => by rw [hT]; exact ⟨h1, h2⟩
          have hTo : ∀ u, T u → u.cell? ⟨w.heap.size, 0, none⟩ = some (.slice (some ⟨gs, 0, none⟩) N ks) ∧ u.cell? ⟨gs, to * 2, none⟩ = some qt := fun u h => by rw [hT] at h; exact h
          have HTo := hid hTo
          have HTi := hid hTi
          clear hT hTo hTi
          have hHeld : T V := HTi.out _ u0 v0
          refine wpAnyL_take (i := 0) (v := .pointer (some ⟨w.heap.size, 0, none⟩)) (C := [0, 1, 12, 13, 14]) rfl (by kernel_rfl) (fun _ _ _ h => h) (Or.inl ⟨by rfl, fun _ _ => by go_simp⟩) hHeld ?_
          dsimp only [Act.put]
          refine wpAnyL_take (i := 1) (v := (.slice (some ⟨gs, 0, none⟩) N ks)) (C := [1, 12, 13, 14]) rfl (by kernel_rfl) (fun _ _ _ h => h) (Or.inl ⟨by rfl, fun u hu => by obtain ⟨h1, h2⟩ := HTo.out _ hu; go_simp⟩) hHeld ?_
          dsimp only [Act.put]
          refine wpAnyL_take (i := 2) (v := .int .i64 to) (C := [2, 12, 13, 14]) rfl (by kernel_rfl) (fun _ _ _ h => h) (Or.inl ⟨by rfl, fun _ _ => by go_simp⟩) hHeld ?_
          dsimp only [Act.put]
          refine wpAnyL_take (i := 3) (v := .pointer (some ⟨w.heap.size, 0, none⟩)) (C := [3, 4, 6, 7, 8, 11, 14]) rfl (by kernel_rfl) (fun _ _ _ h => h) (Or.inl ⟨by rfl, fun _ _ => by go_simp⟩) hHeld ?_
          dsimp only [Act.put]
          refine wpAnyL_take (i := 4) (v := (.slice (some ⟨gs, 0, none⟩) N ks)) (C := [4, 6, 7, 8, 11, 14]) rfl (by kernel_rfl) (fun _ _ _ h => h) (Or.inl ⟨by rfl, fun u hu => by obtain ⟨h1, h2⟩ := HTo.out _ hu; go_simp⟩) hHeld ?_
          dsimp only [Act.put]
          refine wpAnyL_take (i := 5) (v := .int .i64 to) (C := [5, 6, 7, 8, 11, 14]) rfl (by kernel_rfl) (fun _ _ _ h => h) (Or.inl ⟨by rfl, fun _ _ => by go_simp⟩) hHeld ?_
          dsimp only [Act.put]
          refine wpAnyL_take (i := 6) (v := (.pointer (some ⟨gs, to * 2, none⟩))) (C := [6, 7, 8, 11, 14]) rfl (by kernel_rfl) (fun _ _ _ h => h) (Or.inl ⟨by rfl, fun _ _ => by go_simp⟩) hHeld ?_
          dsimp only [Act.put]
          refine wpAnyL_take (i := 7) (v := (.pointer (some ⟨gs, to * 2, none⟩))) (C := [7, 8, 11, 14]) rfl (by kernel_rfl) (fun _ _ _ h => h) (Or.inl ⟨by rfl, fun _ _ => by go_simp⟩) hHeld ?_
          dsimp only [Act.put]
          refine wpAnyL_take (i := 8) (v := qt) (C := [8, 11, 14]) rfl (by kernel_rfl) (fun _ _ _ h => h) (Or.inl ⟨by rfl, fun u hu => by obtain ⟨h1, h2⟩ := HTo.out _ hu; go_simp⟩) hHeld ?_
          dsimp only [Act.put]
          refine wpAnyL_take (i := 9) (v := .int .i64 x) (C := [9, 10, 11, 14]) rfl (by kernel_rfl) (fun _ _ _ h => h) (Or.inl ⟨by rfl, fun _ _ => by go_simp⟩) hHeld ?_
          dsimp only [Act.put]
          refine wpAnyL_one (i := 10) (by kernel_rfl) rfl (fun K hK => ?_)
          rw [if_pos (by rfl)]
          go_simp
          refine hK.out _ _ (fun _ => (HTi.out _ u1 v1)) ?_
          clear hK K hHeld
          have hHeld := (HTi.out _ u1 v1)
          refine wpAnyL_one (i := 11) (by kernel_rfl) rfl (fun K hK => ?_)
          refine step_append_run rfl (.tmp 61) (.tmp 63) 35 rfl _ _ rfl rfl _ _ r4 ?_
          refine hK.out _ _ (fun _ => (HTi.out _ u4 v4)) ?_
          clear hK K hHeld
          have hHeld := (HTi.out _ u4 v4)
          dsimp only [Act.put]
          refine wpAnyL_take (i := 12) (v := (.pointer (some ⟨gs, to * 2, none⟩))) (C := [12, 13, 14]) rfl (by kernel_rfl) (fun _ _ _ h => h) (Or.inl ⟨by rfl, fun _ _ => by go_simp⟩) hHeld ?_
          dsimp only [Act.put]
          refine wpAnyL_take (i := 13) (v := (.pointer (some ⟨gs, to * 2, none⟩))) (C := [13, 14]) rfl (by kernel_rfl) (fun _ _ _ h => h) (Or.inl ⟨by rfl, fun _ _ => by go_simp⟩) hHeld ?_
          dsimp only [Act.put]
          refine wpAnyL_one (i := 14) (by kernel_rfl) rfl (fun K hK => ?_)
          rw [if_pos (by rfl)]
          go_simp
          refine hK.out _ _ (fun h => absurd rfl h) ?_
          clear hK K hHeld
          refine wpAnyL_done (by kernel_rfl) ?_
          clear r4 u0 u1 u4 v0 v1 v4 v4f hV0 hV1 HTi HTo
          generalize hW7 : W4.setCell ⟨gs, to * 2, none⟩ (.slice a4 ((blAt Sn to).length + 1) c4) = W7 at *
          clear hW7
          have hK6 := HK7.out.on ((Below.refl _ _).drew)
          have hs7 : w.heap.size + 3 ≤ W7.drew.heap.size := hK6.size
          have hF6 := HF7.out.below (w' := W7.drew) (Below.refl _ _).drew
          obtain ⟨a9, c9, W9, r4, b4, k4, F4⟩ := lv_step hF6 hs7 to (by rw [HL1.out]; exact HTO.out) true HLB1.out gl rfl
          have hne := hF6.apart .l (.v to) trivial (show to < L1.length by rw [HL1.out]; exact HTO.out) (by intro e; cases e) gl rfl
          have hseg : W7.drew.ownsRow (w.heap.size + 3) 53 1 (.slice (some ⟨gl, 0, none⟩) N kl) L1.length (livXs p L1.length) := hF6.own .l trivial
          have hgb := hseg.lt gl rfl
          have v0 : W7.drew.cell? ⟨gl, to, none⟩ = some (p to) := by rw [rw_cell hseg rfl to (by rw [livXs_len, HL1.out]; exact HTO.out), livXs_at]
          have vf : W7.drew.frozen? ⟨gl, to, none⟩ = false := rw_free hseg rfl _
          have hgl4 := k4 gl hgb.2 hne
          have v4 : W9.cell? ⟨gl, to, none⟩ = some (p to) := (World.cell?_of_block (a := ⟨gl, to, none⟩) hgl4).trans v0
          have v4f : W9.frozen? ⟨gl, to, none⟩ = false := (World.frozen?_of_block (a := ⟨gl, to, none⟩) hgl4).trans vf
          have v1 : (W7.drew.alloc (.cells #[.bool true] 4)).cell? ⟨gl, to, none⟩ = some (p to) := ((boxB W7.drew (.cells #[.bool true] 4)).cell (p := ⟨gl, to, none⟩) hgb.2).trans v0
          have hK1 := hK6.on ((boxB W7.drew (.cells #[.bool true] 4)).mono hs7)
          have hK4 := hK6.on b4
          have u0 : W7.drew.cell? ⟨w.heap.size, 1, none⟩ = some (.slice (some ⟨gl, 0, none⟩) N kl) := box_cell hK6.hbox 1
          have u1 : (W7.drew.alloc (.cells #[.bool true] 4)).cell? ⟨w.heap.size, 1, none⟩ = some (.slice (some ⟨gl, 0, none⟩) N kl) := box_cell hK1.hbox 1
          have u4 : W9.cell? ⟨w.heap.size, 1, none⟩ = some (.slice (some ⟨gl, 0, none⟩) N kl) := box_cell hK4.hbox 1
          have HK9 := hid (hK4.on (setB (Below.refl _ _) gl to hgb.1 (.slice a9 ((lvAt L1 to).length + 1) c9)))
          have HF9 := hid F4
          clear hK6 hK1 hK4 hF6 b4 k4 F4 hseg hne hgl4 vf HK7 HF7 hgb
          generalize p to = pt at *
          go_wp2_with fail
          refine wp_region_L (fun u => u.cell? ⟨w.heap.size, 1, none⟩ = some (.slice (some ⟨gl, 0, none⟩) N kl) ∧ u.cell? ⟨gl, to, none⟩ = some pt) 11 (by kernel_rfl) ?_
          generalize hV0 : W7.drew = V at *
          generalize hV1 : V.alloc (.cells #[.bool true] 4) = V1 at *
          obtain ⟨T, hT⟩ : ∃ T : World → Prop, T = fun u => u.cell? ⟨w.heap.size, 1, none⟩ = some (.slice (some ⟨gl, 0, none⟩) N kl) ∧ u.cell? ⟨gl, to, none⟩ = some pt := ⟨_, rfl⟩
          rw [← hT]
          have hTi : ∀ u, u.cell? ⟨w.heap.size, 1, none⟩ = some (.slice (some ⟨gl, 0, none⟩) N kl) → u.cell? ⟨gl, to, none⟩ = some pt → T u := fun u h1 h2 => by rw [hT]; exact ⟨h1, h2⟩
          have hTo : ∀ u, T u → u.cell? ⟨w.heap.size, 1, none⟩ = some (.slice (some ⟨gl, 0, none⟩) N kl) ∧ u.cell? ⟨gl, to, none⟩ = some pt := fun u h => by rw [hT] at h; exact h
          have HTo := hid hTo
          have HTi := hid hTi
          clear hT hTo hTi
          have hHeld : T V := HTi.out _ u0 v0
          refine wpAnyL_take (i := 0) (v := .pointer (some ⟨w.heap.size, 1, none⟩)) (C := [0, 1, 10, 11]) rfl (by kernel_rfl) (fun _ _ _ h => h) (Or.inl ⟨by rfl, fun _ _ => by go_simp⟩) hHeld ?_
          dsimp only [Act.put]
          refine wpAnyL_take (i := 1) (v := (.slice (some ⟨gl, 0, none⟩) N kl)) (C := [1, 10, 11]) rfl (by kernel_rfl) (fun _ _ _ h => h) (Or.inl ⟨by rfl, fun u hu => by obtain ⟨h1, h2⟩ := HTo.out _ hu; go_simp⟩) hHeld ?_
          dsimp only [Act.put]
          refine wpAnyL_take (i := 2) (v := .int .i64 to) (C := [2, 10, 11]) rfl (by kernel_rfl) (fun _ _ _ h => h) (Or.inl ⟨by rfl, fun _ _ => by go_simp⟩) hHeld ?_
          dsimp only [Act.put]
          refine wpAnyL_take (i := 3) (v := .pointer (some ⟨w.heap.size, 1, none⟩)) (C := [3, 4, 6, 7, 9, 11]) rfl (by kernel_rfl) (fun _ _ _ h => h) (Or.inl ⟨by rfl, fun _ _ => by go_simp⟩) hHeld ?_
          dsimp only [Act.put]
          refine wpAnyL_take (i := 4) (v := (.slice (some ⟨gl, 0, none⟩) N kl)) (C := [4, 6, 7, 9, 11]) rfl (by kernel_rfl) (fun _ _ _ h => h) (Or.inl ⟨by rfl, fun u hu => by obtain ⟨h1, h2⟩ := HTo.out _ hu; go_simp⟩) hHeld ?_
          dsimp only [Act.put]
          refine wpAnyL_take (i := 5) (v := .int .i64 to) (C := [5, 6, 7, 9, 11]) rfl (by kernel_rfl) (fun _ _ _ h => h) (Or.inl ⟨by rfl, fun _ _ => by go_simp⟩) hHeld ?_
          dsimp only [Act.put]
          refine wpAnyL_take (i := 6) (v := (.pointer (some ⟨gl, to, none⟩))) (C := [6, 7, 9, 11]) rfl (by kernel_rfl) (fun _ _ _ h => h) (Or.inl ⟨by rfl, fun _ _ => by go_simp⟩) hHeld ?_
          dsimp only [Act.put]
          refine wpAnyL_take (i := 7) (v := pt) (C := [7, 9, 11]) rfl (by kernel_rfl) (fun _ _ _ h => h) (Or.inl ⟨by rfl, fun u hu => by obtain ⟨h1, h2⟩ := HTo.out _ hu; go_simp⟩) hHeld ?_
          dsimp only [Act.put]
          refine wpAnyL_one (i := 8) (by kernel_rfl) rfl (fun K hK => ?_)
          rw [if_pos (by rfl)]
          go_simp
          refine hK.out _ _ (fun _ => (HTi.out _ u1 v1)) ?_
          clear hK K hHeld
          have hHeld := (HTi.out _ u1 v1)
          refine wpAnyL_one (i := 9) (by kernel_rfl) rfl (fun K hK => ?_)
          refine step_append_run rfl (.tmp 74) (.tmp 75) 53 rfl _ _ rfl rfl _ _ r4 ?_
          refine hK.out _ _ (fun _ => (HTi.out _ u4 v4)) ?_
          clear hK K hHeld
          have hHeld := (HTi.out _ u4 v4)
          dsimp only [Act.put]
          refine wpAnyL_take (i := 10) (v := (.pointer (some ⟨gl, to, none⟩))) (C := [10, 11]) rfl (by kernel_rfl) (fun _ _ _ h => h) (Or.inl ⟨by rfl, fun _ _ => by go_simp⟩) hHeld ?_
          dsimp only [Act.put]
          refine wpAnyL_one (i := 11) (by kernel_rfl) rfl (fun K hK => ?_)
          rw [if_pos (by rfl)]
          go_simp
          refine hK.out _ _ (fun h => absurd rfl h) ?_
          clear hK K hHeld
          refine wpAnyL_done (by kernel_rfl) ?_
          clear r4 u0 u1 u4 v0 v1 v4 v4f hV0 hV1 HTi HTo
          generalize hW10 : W9.setCell ⟨gl, to, none⟩ (.slice a9 ((lvAt L1 to).length + 1) c9) = W10 at *
          clear hW10
          go_wp2_with fail
          go_roundw
          case rel =>
            refine ⟨n + 1, putS Sn to x, putL L1 to, upN q to (.slice a4 ((blAt Sn to).length + 1) c4), upN p to (.slice a9 ((lvAt L1 to).length + 1) c9), by omega, by go_num, HNEXT.out, HLP.out, ?_, HK9.out⟩
            have := HF9.out
            have e1 : (putS Sn to x).length = Sn.length := by unfold putS; rw [List.length_set]
            have e2 : (putL L1 to).length = L1.length := by unfold putL; rw [List.length_set]
            rw [e1, e2]
            exact this
          case measure => simp [intOf]; omega
    · have hn' : n = bs.length := by omega
      have HEND : Hid (wrs no bs (S, L) = some (Sn, Ln)) := by
        show wrs no bs (S, L) = some (Sn, Ln)
        rw [← HW.out, List.drop_of_length_le (by omega)]; rfl
      have z0 : wr.cell? ⟨w.heap.size + 1 + 1, 0, none⟩ = some (.slice none 0 0) := box_cell hK.res 0
      have z1 : wr.cell? ⟨w.heap.size + 1 + 1, 1, none⟩ = some (.slice none 0 0) := box_cell hK.res 1
      have z0f := box_free hK.res 0
      have z1f := box_free hK.res 1
      obtain ⟨b10, e0, e1⟩ := hK.fill (.slice (some ⟨gs, 0, none⟩) N ks) (.slice (some ⟨gl, 0, none⟩) N kl)
      have hsz := hK.size
      have HRR : Hid (HR w.heap.size (.slice (some ⟨gs, 0, none⟩) N ks) (.slice (some ⟨gl, 0, none⟩) N kl) Sn Ln ((wr.setCell ⟨w.heap.size + 1 + 1, 0, none⟩ (.slice (some ⟨gs, 0, none⟩) N ks)).setCell ⟨w.heap.size + 1 + 1, 1, none⟩ (.slice (some ⟨gl, 0, none⟩) N kl))) := by
        refine HR.low ⟨hle.2.1, q, p, ?_⟩ (show w.heap.size ≤ w.heap.size + 3 by omega)
        have : hd2 Sn.length Ln.length = hd Sn.length := by unfold hd; rw [hle.2.1]
        rw [← this]
        exact (hF.out _ _ _ (by omega)).out _ _ _ (by omega)
      have HB10 := hid b10
      clear b10 hK HK HFn hF HW hle hSN
      go_wp2_with fail
      generalize (wr.setCell ⟨w.heap.size + 1 + 1, 0, none⟩ (.slice (some ⟨gs, 0, none⟩) N ks)).setCell ⟨w.heap.size + 1 + 1, 1, none⟩ (.slice (some ⟨gl, 0, none⟩) N kl) = X at *
      refine bodyPost_ret (v := .tuple #[.agg #[(.slice (some ⟨gs, 0, none⟩) N ks), (.slice (some ⟨gl, 0, none⟩) N kl)], .bool true]) (by simp [results, Try.results34, go_sem, e0, e1]) rfl ?_
      rw [HEND.out]
      exact ⟨_, _, rfl, HRR.out, HB10.out⟩
end Go.Proofs.Ytohkhcjdjjlfbaa
