/- Both sides' FirstOpen. -/
import Derived.Test.YtaiilhhkfjlkoaaNGs
import Derived.Test.YtaiilhhkfjlkoaaNGw
namespace Go.Proofs.Ytaiilhhkfjlkoaa
set_option maxRecDepth 100000
open Go.ChangeShapes Go.WideShapes Go.ChangeAt Go.RowKit
/-- the first piece not heard of -/
def firstN (X : Wd) : Int := cond (goodW X) (toldN X.hd : Int) 0
set_option maxHeartbeats 2000000 in
theorem sfirst_any (A : Ad) (X : Wd) (w : World) (hf : FitW X) (h : WR w.heap.size A X w) :
    Calls Try.prog 34 #[.agg #[.slice A.p X.pc.length A.kp, .int .i64 X.sz, .slice A.h X.hd.length A.kh, .slice A.l X.ln.length A.kl, .slice A.e X.hl.length A.ke, .slice A.s X.hs.length A.ks, .int .i64 X.td]] w fun e w' => e = .returned (.tuple #[.int .i64 (firstN X), .bool (goodW X)]) ∧ Below w.heap.size w w' := by
  have HB := hid (boxB w (.cells #[.slice A.p X.pc.length A.kp, .int .i64 X.sz, .slice A.h X.hd.length A.kh, .slice A.l X.ln.length A.kl, .slice A.e X.hl.length A.ke, .slice A.s X.hs.length A.ks, .int .i64 X.td] 27))
  have HK := hid (heap_last w (.cells #[.slice A.p X.pc.length A.kp, .int .i64 X.sz, .slice A.h X.hd.length A.kh, .slice A.l X.ln.length A.kl, .slice A.e X.hl.length A.ke, .slice A.s X.hs.length A.ks, .int .i64 X.td] 27))
  have HZ : Hid (∀ v, Below w.heap.size w v → WR v.heap.size A X v) := fun v g => h.up g g.size
  have HG := hid (sgoodW_any A X (w.alloc (.cells #[.slice A.p X.pc.length A.kp, .int .i64 X.sz, .slice A.h X.hd.length A.kh, .slice A.l X.ln.length A.kl, .slice A.e X.hl.length A.ke, .slice A.s X.hs.length A.ks, .int .i64 X.td] 27)) hf (HZ.out _ HB.out))
  have n1 := hf.h
  clear h hf
  unfold firstN
  go_enter Try.func34, Try.ntmps34
  go_wp2_with fail
  generalize w.alloc (.cells #[.slice A.p X.pc.length A.kp, .int .i64 X.sz, .slice A.h X.hd.length A.kh, .slice A.l X.ln.length A.kl, .slice A.e X.hl.length A.ke, .slice A.s X.hs.length A.ks, .int .i64 X.td] 27) = W at *
  refine HG.out.mono ?_
  rintro e w2 ⟨rfl, b2⟩
  have HB2 := hid (HB.out.trans (b2.mono HB.out.size))
  have HK2 := hid ((b2.block _ (kbox HK.out)).trans HK.out)
  clear b2 HG HK HB
  cases hg : goodW X
  · go_wp2_with fail
    go_ret2
    exact ⟨by rw [hg]; rfl, HB2.out⟩
  · have x2 : w2.cell? ⟨w.heap.size, 2, none⟩ = some (.slice A.h X.hd.length A.kh) := box_cell HK2.out 2
    go_wp2_with fail
    refine (l9Told_any A.h A.kh X.hd w2 n1 (HZ.out _ HB2.out).h).mono ?_
    rintro e v ⟨rfl, hv⟩
    rw [hv]
    clear hv v
    go_wp2_with fail
    go_ret2
    exact ⟨by rw [hg]; rfl, HB2.out⟩
set_option maxHeartbeats 2000000 in
theorem ifirst_any (A : Ad) (X : Wd) (w : World) (hf : FitW X) (h : WR w.heap.size A X w) :
    Calls Try.prog 35 #[.agg #[.slice A.p X.pc.length A.kp, .int .i64 X.sz, .slice A.h X.hd.length A.kh, .slice A.l X.ln.length A.kl, .slice A.e X.hl.length A.ke, .slice A.s X.hs.length A.ks, .int .i64 X.td]] w fun e w' => e = .returned (.tuple #[.int .i64 (firstN X), .bool (goodW X)]) ∧ Below w.heap.size w w' := by
  have HB := hid (boxB w (.cells #[.slice A.p X.pc.length A.kp, .int .i64 X.sz, .slice A.h X.hd.length A.kh, .slice A.l X.ln.length A.kl, .slice A.e X.hl.length A.ke, .slice A.s X.hs.length A.ks, .int .i64 X.td] 27))
  have HK := hid (heap_last w (.cells #[.slice A.p X.pc.length A.kp, .int .i64 X.sz, .slice A.h X.hd.length A.kh, .slice A.l X.ln.length A.kl, .slice A.e X.hl.length A.ke, .slice A.s X.hs.length A.ks, .int .i64 X.td] 27))
  have HZ : Hid (∀ v, Below w.heap.size w v → WR v.heap.size A X v) := fun v g => h.up g g.size
  have HG := hid (igoodW_any A X (w.alloc (.cells #[.slice A.p X.pc.length A.kp, .int .i64 X.sz, .slice A.h X.hd.length A.kh, .slice A.l X.ln.length A.kl, .slice A.e X.hl.length A.ke, .slice A.s X.hs.length A.ks, .int .i64 X.td] 27)) hf (HZ.out _ HB.out))
  have n1 := hf.h
  clear h hf
  unfold firstN
  go_enter Try.func35, Try.ntmps35
  go_wp2_with fail
  generalize w.alloc (.cells #[.slice A.p X.pc.length A.kp, .int .i64 X.sz, .slice A.h X.hd.length A.kh, .slice A.l X.ln.length A.kl, .slice A.e X.hl.length A.ke, .slice A.s X.hs.length A.ks, .int .i64 X.td] 27) = W at *
  refine HG.out.mono ?_
  rintro e w2 ⟨rfl, b2⟩
  have HB2 := hid (HB.out.trans (b2.mono HB.out.size))
  have HK2 := hid ((b2.block _ (kbox HK.out)).trans HK.out)
  clear b2 HG HK HB
  cases hg : goodW X
  · go_wp2_with fail
    go_ret2
    exact ⟨by rw [hg]; rfl, HB2.out⟩
  · have x2 : w2.cell? ⟨w.heap.size, 2, none⟩ = some (.slice A.h X.hd.length A.kh) := box_cell HK2.out 2
    go_wp2_with fail
    refine (withoutGap_any A.h A.kh X.hd w2 n1 (HZ.out _ HB2.out).h).mono ?_
    rintro e v ⟨rfl, hv⟩
    rw [hv]
    clear hv v
    go_wp2_with fail
    go_ret2
    exact ⟨by rw [hg]; rfl, HB2.out⟩
end Go.Proofs.Ytaiilhhkfjlkoaa
