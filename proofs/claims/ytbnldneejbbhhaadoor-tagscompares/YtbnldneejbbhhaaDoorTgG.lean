/-
  The code's names$1 and names: by their contracts.
-/
import Derived.Test.YtbnldneejbbhhaaDoorTgF
namespace Go.Proofs.YtbnldneejbbhhaaDoor
open Go.RowKit

set_option maxHeartbeats 2000000 in
set_option maxRecDepth 20000 in
theorem cinS15 (x : Tg.Tag) (m : List UInt8) (b7 b12 : Nat) (W : World) (h7 : W.cell? ⟨b7, 0, none⟩ = some (.func (.func 10) #[] #[])) (h0 : W.cell? ⟨b12, 0, none⟩ = some (.bool false)) (h1 : W.cell? ⟨b12, 1, none⟩ = some (.string ⟨m.toArray⟩)) (l7 : b7 < W.heap.size) (l12 : b12 < W.heap.size) :
    Calls Tryd.prog 44 #[.agg (tV x).toArray, .pointer (some ⟨b7, 0, none⟩), .pointer (some ⟨b12, 0, none⟩)] W fun e w' => e = .returned (.bool (Tg.strong x ⟨false, m⟩)) ∧ Below W.heap.size W w' := by
  obtain ⟨r, hr⟩ : ∃ r, Tg.strong x ⟨false, m⟩ = r := ⟨_, rfl⟩
  have HC := hid' (fun W => cstrong15 x ⟨false, m⟩ r hr W)
  rw [hr]
  clear hr
  unfold tA at HC
  have HB1 := hid' (bl_alloc W (.cells #[.bool x.w, .string ⟨x.v.toArray⟩] 31))
  have HX : Hid (Ar (W.alloc (.cells #[.bool x.w, .string ⟨x.v.toArray⟩] 31)) W.heap.size 31 #[.bool x.w, .string ⟨x.v.toArray⟩]) := hid' (heap_alloc_last _ _)
  have k7 := (HB1.out.cell (p := ⟨b7, 0, none⟩) l7).trans h7
  have k0 := (HB1.out.cell (p := ⟨b12, 0, none⟩) l12).trans h0
  have k1 := (HB1.out.cell (p := ⟨b12, 1, none⟩) l12).trans h1
  clear h7 h0 h1 l7 l12
  unfold tV
  go_enter Tryd.func44, Tryd.ntmps44
  go_upto_region 1 with fail
  obtain ⟨xb, hxb⟩ : ∃ xb, W.heap.size = xb := ⟨_, rfl⟩
  rw [hxb] at HX ⊢
  generalize W.alloc (.cells #[.bool x.w, .string ⟨x.v.toArray⟩] 31) = w1 at *
  have p0 := HX.out.cell 0 _ rfl
  have p1 := HX.out.cell 1 _ rfl
  clear hxb
  go_wp2_with fail
  refine (HC.out _).mono ?_
  rintro e w2 ⟨rfl, hb2⟩
  have HB2 := hid' (below_two HB1.out hb2)
  clear hb2
  go_wp2
  go_ret
  exact ⟨rfl, HB2.out⟩

set_option maxHeartbeats 2000000 in
set_option maxRecDepth 20000 in
theorem cnmS15 (s : ByteArray) (l : List UInt8) (hl : s.data.toList = l) (ts : List Tg.Tag) (hts : Tg.tags l = ts) (hst : Tg.star l = false) (hne : 0 < ts.length) (y : ByteArray) (t q : Int) (m : List UInt8) (hm : Tg.mk q y.size = m) (r : Bool) (hr : ts.any (fun x => Tg.strong x ⟨false, m⟩) = r) (w : World) (hs : s.size ≤ 1048576) (hy : y.size ≤ 9223372036854775807) (q0 : -9223372036854775808 ≤ q) (q1 : q ≤ 9223372036854775807) (hT : Lib.TabIs Tryd.prog w "internal/strconv.uint64pow10" .u64 Lib.pow10Tab) :
    Calls Tryd.prog 30 #[.string s, .agg (flC y t q), .bool true, .func (.func 10) #[] #[]] w fun e w' => e = .returned (.bool r) ∧ Below w.heap.size w w' := by
  have HT := hid' hT
  have HP := hid' (fun W => cparse15 s l hl W hs)
  rw [hst, hts] at HP
  have HNE := hid' hne
  unfold flC
  have HO := hid' (fun W (h : Lib.TabIs Tryd.prog W "internal/strconv.uint64pow10" .u64 Lib.pow10Tab) => cown15 y t q m hm W hy q0 q1 h)
  unfold flC tA at HO
  have HR := hid' hr
  clear hT hts hst hm hr hne
  go_enter Tryd.func30, Tryd.ntmps30
  go_upto_region 3 with fail
  have HB1 := hid' (bl_two15 w (.cells #[.string y, .int .i64 t, .int .i64 q] 35) (.cells #[.func (.func 10) #[] #[]] 37))
  have H7 : Hid (Ar ((w.alloc (.cells #[.string y, .int .i64 t, .int .i64 q] 35)).alloc (.cells #[.func (.func 10) #[] #[]] 37)) (w.alloc (.cells #[.string y, .int .i64 t, .int .i64 q] 35)).heap.size 37 #[.func (.func 10) #[] #[]]) := hid' (heap_alloc_last _ _)
  have HF : Hid (Ar ((w.alloc (.cells #[.string y, .int .i64 t, .int .i64 q] 35)).alloc (.cells #[.func (.func 10) #[] #[]] 37)) w.heap.size 35 #[.string y, .int .i64 t, .int .i64 q]) := hid' (Ar.keep (heap_alloc_last w _) (bl_alloc _ _))
  have hsz : (w.alloc (.cells #[.string y, .int .i64 t, .int .i64 q] 35)).heap.size = w.heap.size + 1 := by simp
  rw [hsz] at H7
  obtain ⟨xb, hxb⟩ : ∃ xb, w.heap.size = xb := ⟨_, rfl⟩
  rw [hxb] at H7 HF ⊢
  obtain ⟨b7, hb7⟩ : ∃ b7, xb + 1 = b7 := ⟨_, rfl⟩
  rw [hb7] at H7 ⊢
  generalize (w.alloc (.cells #[.string y, .int .i64 t, .int .i64 q] 35)).alloc (.cells #[.func (.func 10) #[] #[]] 37) = w1 at *
  clear hsz hxb hb7
  go_wp2_with fail
  refine (HP.out _).mono ?_
  rintro e w2 ⟨⟨n, ro, rc, rfl, hn, hown⟩, hb2⟩
  have HB2 := hid' (below_two HB1.out hb2)
  have H72 := hid' (H7.out.keep hb2)
  have HF2 := hid' (HF.out.keep hb2)
  have HW2 := hid' hown
  have HN := hid' hn
  have hsome : ∃ g, ro = some ⟨g, 0, none⟩ := by
    rcases hown.2 with ⟨_, h0⟩ | ⟨g, cap, cur, h1, _⟩
    · have := HNE.out; omega
    · injection h1 with h1 _ _; exact ⟨g, h1⟩
  obtain ⟨g, rfl⟩ := hsome
  clear hb2 hown hn
  have p0 := HF2.out.cell 0 _ rfl
  have p1 := HF2.out.cell 1 _ rfl
  have p2 := HF2.out.cell 2 _ rfl
  go_wp2_with fail
  refine (HO.out _ (tab_below HT.out HB2.out)).mono ?_
  rintro e w3 ⟨rfl, hb3⟩
  have HB3 := hid' (below_two HB2.out hb3)
  have H73 := hid' (H72.out.keep hb3)
  have HW3 := hid' (own_keep15 HW2.out hb3)
  clear hb3 p0 p1 p2 HW2 H72 HF2
  have HB4 := hid' (below_two HB3.out (bl_alloc w3 (.cells #[.bool false, .string ⟨m.toArray⟩] 31)))
  have H12 : Hid (Ar (w3.alloc (.cells #[.bool false, .string ⟨m.toArray⟩] 31)) w3.heap.size 31 #[.bool false, .string ⟨m.toArray⟩]) := hid' (heap_alloc_last _ _)
  have H74 := hid' (H73.out.keep (bl_alloc w3 (.cells #[.bool false, .string ⟨m.toArray⟩] 31)))
  have HW4 := hid' (HW3.out.alloc (.cells #[.bool false, .string ⟨m.toArray⟩] 31))
  go_upto_region 5 with fail
  obtain ⟨b12, hb12⟩ : ∃ b12, w3.heap.size = b12 := ⟨_, rfl⟩
  rw [hb12] at H12 ⊢
  generalize w3.alloc (.cells #[.bool false, .string ⟨m.toArray⟩] 31) = w4 at *
  clear hb12
  have hPred : ∀ W, Below w4.heap.size w4 W → PredBelow Tryd.prog 44 #[.pointer (some ⟨b7, 0, none⟩), .pointer (some ⟨b12, 0, none⟩)] (fun x : Tg.Tag => .agg (tV x).toArray) (fun x => Tg.strong x ⟨false, m⟩) W := fun W hW V x hV => by
    have a7 := (H74.out.keep hW).keep hV
    have a12 := (H12.out.keep hW).keep hV
    refine (cinS15 x m b7 b12 V (a7.cell 0 _ rfl) (a12.cell 0 _ rfl) (a12.cell 1 _ rfl) a7.lt a12.lt).mono ?_
    rintro e w' ⟨rfl, hb⟩
    exact ⟨rfl, below_two hV hb⟩
  have hgl : g < w4.heap.size := own_lt HW4.out g rfl
  have hn9 : n ≤ 9223372036854775807 := by
    rcases HW4.out.2 with ⟨_, h0⟩ | ⟨_, _, _, _, _, _, h4, h5, _⟩
    · omega
    · unfold maxLen at h5; omega
  haveI : Inhabited Tg.Tag := ⟨⟨false, []⟩⟩
  have hcells : ∀ W, Below w4.heap.size w4 W → ∀ j, j < ts.length → ∀ i v, (tV ts[j]!)[i]? = some v → W.cell? ⟨g, 0 + j * 2 + i, none⟩ = some v := fun W hW j hj i v hv => by
    have hi : i < 2 := (List.getElem?_eq_some_iff.1 hv).1
    have hg2 : ts[j]? = some ts[j]! := by rw [List.getElem?_eq_getElem hj, List.getElem!_eq_getElem?_getD, List.getElem?_eq_getElem hj]; rfl
    have h1 := t_at ts j _ hg2 i hi
    have h2 := HW4.out.cells (g := g) rfl _ v (h1.trans hv)
    rw [Addr.add_mid] at h2
    rw [Nat.zero_add] at h2 ⊢
    exact (hW.cell (p := ⟨g, j * 2 + i, none⟩) hgl).trans h2
  have hcon : ∀ W, Below w4.heap.size w4 W → Calls Tryd.prog 43 #[.slice (some ⟨g, 0, none⟩) n rc, .func (.func 44) #[] #[.pointer (some ⟨b7, 0, none⟩), .pointer (some ⟨b12, 0, none⟩)]] W fun e w' => e = .returned (.bool r) ∧ Below W.heap.size W w' := fun W hW => by
    have := AnyQ.slices_ContainsFunc Tryd.lcont 2 Tryd.isAgg31 Tryd.sizeOf31 tV (fun _ => rfl) (fun x => Tg.strong x ⟨false, m⟩) 44 _ (enters_of Tryd.func44 (by kernel_rfl) rfl) g 0 n rc ts W (hPred W hW) (by rw [HN.out]; exact Nat.le_refl _) hn9 (Nat.lt_of_lt_of_le hgl hW.size) (hcells W hW)
    rw [List.take_of_length_le (by rw [HN.out]; exact Nat.le_refl _), HR.out] at this
    exact this
  have HCON := hid' hcon
  clear hcon hcells hgl hPred hn9
  go_wp2_with fail
  refine (HCON.out _ (Below.refl _ _)).mono ?_
  rintro e w5 ⟨rfl, hb5⟩
  have HB5 := hid' (below_two HB4.out hb5)
  clear hb5
  go_wp2
  go_ret
  exact ⟨rfl, HB5.out⟩

set_option maxHeartbeats 2000000 in
set_option maxRecDepth 20000 in
theorem cinW15 (x : Tg.Tag) (m : List UInt8) (b7 b12 : Nat) (W : World) (h7 : W.cell? ⟨b7, 0, none⟩ = some (.func (.func 12) #[] #[])) (h0 : W.cell? ⟨b12, 0, none⟩ = some (.bool false)) (h1 : W.cell? ⟨b12, 1, none⟩ = some (.string ⟨m.toArray⟩)) (l7 : b7 < W.heap.size) (l12 : b12 < W.heap.size) :
    Calls Tryd.prog 44 #[.agg (tV x).toArray, .pointer (some ⟨b7, 0, none⟩), .pointer (some ⟨b12, 0, none⟩)] W fun e w' => e = .returned (.bool (Tg.weak x ⟨false, m⟩)) ∧ Below W.heap.size W w' := by
  obtain ⟨r, hr⟩ : ∃ r, Tg.weak x ⟨false, m⟩ = r := ⟨_, rfl⟩
  have HC := hid' (fun W => cweak15 x ⟨false, m⟩ r hr W)
  rw [hr]
  clear hr
  unfold tA at HC
  have HB1 := hid' (bl_alloc W (.cells #[.bool x.w, .string ⟨x.v.toArray⟩] 31))
  have HX : Hid (Ar (W.alloc (.cells #[.bool x.w, .string ⟨x.v.toArray⟩] 31)) W.heap.size 31 #[.bool x.w, .string ⟨x.v.toArray⟩]) := hid' (heap_alloc_last _ _)
  have k7 := (HB1.out.cell (p := ⟨b7, 0, none⟩) l7).trans h7
  have k0 := (HB1.out.cell (p := ⟨b12, 0, none⟩) l12).trans h0
  have k1 := (HB1.out.cell (p := ⟨b12, 1, none⟩) l12).trans h1
  clear h7 h0 h1 l7 l12
  unfold tV
  go_enter Tryd.func44, Tryd.ntmps44
  go_upto_region 1 with fail
  obtain ⟨xb, hxb⟩ : ∃ xb, W.heap.size = xb := ⟨_, rfl⟩
  rw [hxb] at HX ⊢
  generalize W.alloc (.cells #[.bool x.w, .string ⟨x.v.toArray⟩] 31) = w1 at *
  have p0 := HX.out.cell 0 _ rfl
  have p1 := HX.out.cell 1 _ rfl
  clear hxb
  go_wp2_with fail
  refine (HC.out _).mono ?_
  rintro e w2 ⟨rfl, hb2⟩
  have HB2 := hid' (below_two HB1.out hb2)
  clear hb2
  go_wp2
  go_ret
  exact ⟨rfl, HB2.out⟩

set_option maxHeartbeats 2000000 in
set_option maxRecDepth 20000 in
theorem cnmW15 (s : ByteArray) (l : List UInt8) (hl : s.data.toList = l) (ts : List Tg.Tag) (hts : Tg.tags l = ts) (hst : Tg.star l = false) (hne : 0 < ts.length) (y : ByteArray) (t q : Int) (m : List UInt8) (hm : Tg.mk q y.size = m) (r : Bool) (hr : ts.any (fun x => Tg.weak x ⟨false, m⟩) = r) (w : World) (hs : s.size ≤ 1048576) (hy : y.size ≤ 9223372036854775807) (q0 : -9223372036854775808 ≤ q) (q1 : q ≤ 9223372036854775807) (hT : Lib.TabIs Tryd.prog w "internal/strconv.uint64pow10" .u64 Lib.pow10Tab) :
    Calls Tryd.prog 30 #[.string s, .agg (flC y t q), .bool true, .func (.func 12) #[] #[]] w fun e w' => e = .returned (.bool r) ∧ Below w.heap.size w w' := by
  have HT := hid' hT
  have HP := hid' (fun W => cparse15 s l hl W hs)
  rw [hst, hts] at HP
  have HNE := hid' hne
  unfold flC
  have HO := hid' (fun W (h : Lib.TabIs Tryd.prog W "internal/strconv.uint64pow10" .u64 Lib.pow10Tab) => cown15 y t q m hm W hy q0 q1 h)
  unfold flC tA at HO
  have HR := hid' hr
  clear hT hts hst hm hr hne
  go_enter Tryd.func30, Tryd.ntmps30
  go_upto_region 3 with fail
  have HB1 := hid' (bl_two15 w (.cells #[.string y, .int .i64 t, .int .i64 q] 35) (.cells #[.func (.func 12) #[] #[]] 37))
  have H7 : Hid (Ar ((w.alloc (.cells #[.string y, .int .i64 t, .int .i64 q] 35)).alloc (.cells #[.func (.func 12) #[] #[]] 37)) (w.alloc (.cells #[.string y, .int .i64 t, .int .i64 q] 35)).heap.size 37 #[.func (.func 12) #[] #[]]) := hid' (heap_alloc_last _ _)
  have HF : Hid (Ar ((w.alloc (.cells #[.string y, .int .i64 t, .int .i64 q] 35)).alloc (.cells #[.func (.func 12) #[] #[]] 37)) w.heap.size 35 #[.string y, .int .i64 t, .int .i64 q]) := hid' (Ar.keep (heap_alloc_last w _) (bl_alloc _ _))
  have hsz : (w.alloc (.cells #[.string y, .int .i64 t, .int .i64 q] 35)).heap.size = w.heap.size + 1 := by simp
  rw [hsz] at H7
  obtain ⟨xb, hxb⟩ : ∃ xb, w.heap.size = xb := ⟨_, rfl⟩
  rw [hxb] at H7 HF ⊢
  obtain ⟨b7, hb7⟩ : ∃ b7, xb + 1 = b7 := ⟨_, rfl⟩
  rw [hb7] at H7 ⊢
  generalize (w.alloc (.cells #[.string y, .int .i64 t, .int .i64 q] 35)).alloc (.cells #[.func (.func 12) #[] #[]] 37) = w1 at *
  clear hsz hxb hb7
  go_wp2_with fail
  refine (HP.out _).mono ?_
  rintro e w2 ⟨⟨n, ro, rc, rfl, hn, hown⟩, hb2⟩
  have HB2 := hid' (below_two HB1.out hb2)
  have H72 := hid' (H7.out.keep hb2)
  have HF2 := hid' (HF.out.keep hb2)
  have HW2 := hid' hown
  have HN := hid' hn
  have hsome : ∃ g, ro = some ⟨g, 0, none⟩ := by
    rcases hown.2 with ⟨_, h0⟩ | ⟨g, cap, cur, h1, _⟩
    · have := HNE.out; omega
    · injection h1 with h1 _ _; exact ⟨g, h1⟩
  obtain ⟨g, rfl⟩ := hsome
  clear hb2 hown hn
  have p0 := HF2.out.cell 0 _ rfl
  have p1 := HF2.out.cell 1 _ rfl
  have p2 := HF2.out.cell 2 _ rfl
  go_wp2_with fail
  refine (HO.out _ (tab_below HT.out HB2.out)).mono ?_
  rintro e w3 ⟨rfl, hb3⟩
  have HB3 := hid' (below_two HB2.out hb3)
  have H73 := hid' (H72.out.keep hb3)
  have HW3 := hid' (own_keep15 HW2.out hb3)
  clear hb3 p0 p1 p2 HW2 H72 HF2
  have HB4 := hid' (below_two HB3.out (bl_alloc w3 (.cells #[.bool false, .string ⟨m.toArray⟩] 31)))
  have H12 : Hid (Ar (w3.alloc (.cells #[.bool false, .string ⟨m.toArray⟩] 31)) w3.heap.size 31 #[.bool false, .string ⟨m.toArray⟩]) := hid' (heap_alloc_last _ _)
  have H74 := hid' (H73.out.keep (bl_alloc w3 (.cells #[.bool false, .string ⟨m.toArray⟩] 31)))
  have HW4 := hid' (HW3.out.alloc (.cells #[.bool false, .string ⟨m.toArray⟩] 31))
  go_upto_region 5 with fail
  obtain ⟨b12, hb12⟩ : ∃ b12, w3.heap.size = b12 := ⟨_, rfl⟩
  rw [hb12] at H12 ⊢
  generalize w3.alloc (.cells #[.bool false, .string ⟨m.toArray⟩] 31) = w4 at *
  clear hb12
  have hPred : ∀ W, Below w4.heap.size w4 W → PredBelow Tryd.prog 44 #[.pointer (some ⟨b7, 0, none⟩), .pointer (some ⟨b12, 0, none⟩)] (fun x : Tg.Tag => .agg (tV x).toArray) (fun x => Tg.weak x ⟨false, m⟩) W := fun W hW V x hV => by
    have a7 := (H74.out.keep hW).keep hV
    have a12 := (H12.out.keep hW).keep hV
    refine (cinW15 x m b7 b12 V (a7.cell 0 _ rfl) (a12.cell 0 _ rfl) (a12.cell 1 _ rfl) a7.lt a12.lt).mono ?_
    rintro e w' ⟨rfl, hb⟩
    exact ⟨rfl, below_two hV hb⟩
  have hgl : g < w4.heap.size := own_lt HW4.out g rfl
  have hn9 : n ≤ 9223372036854775807 := by
    rcases HW4.out.2 with ⟨_, h0⟩ | ⟨_, _, _, _, _, _, h4, h5, _⟩
    · omega
    · unfold maxLen at h5; omega
  haveI : Inhabited Tg.Tag := ⟨⟨false, []⟩⟩
  have hcells : ∀ W, Below w4.heap.size w4 W → ∀ j, j < ts.length → ∀ i v, (tV ts[j]!)[i]? = some v → W.cell? ⟨g, 0 + j * 2 + i, none⟩ = some v := fun W hW j hj i v hv => by
    have hi : i < 2 := (List.getElem?_eq_some_iff.1 hv).1
    have hg2 : ts[j]? = some ts[j]! := by rw [List.getElem?_eq_getElem hj, List.getElem!_eq_getElem?_getD, List.getElem?_eq_getElem hj]; rfl
    have h1 := t_at ts j _ hg2 i hi
    have h2 := HW4.out.cells (g := g) rfl _ v (h1.trans hv)
    rw [Addr.add_mid] at h2
    rw [Nat.zero_add] at h2 ⊢
    exact (hW.cell (p := ⟨g, j * 2 + i, none⟩) hgl).trans h2
  have hcon : ∀ W, Below w4.heap.size w4 W → Calls Tryd.prog 43 #[.slice (some ⟨g, 0, none⟩) n rc, .func (.func 44) #[] #[.pointer (some ⟨b7, 0, none⟩), .pointer (some ⟨b12, 0, none⟩)]] W fun e w' => e = .returned (.bool r) ∧ Below W.heap.size W w' := fun W hW => by
    have := AnyQ.slices_ContainsFunc Tryd.lcont 2 Tryd.isAgg31 Tryd.sizeOf31 tV (fun _ => rfl) (fun x => Tg.weak x ⟨false, m⟩) 44 _ (enters_of Tryd.func44 (by kernel_rfl) rfl) g 0 n rc ts W (hPred W hW) (by rw [HN.out]; exact Nat.le_refl _) hn9 (Nat.lt_of_lt_of_le hgl hW.size) (hcells W hW)
    rw [List.take_of_length_le (by rw [HN.out]; exact Nat.le_refl _), HR.out] at this
    exact this
  have HCON := hid' hcon
  clear hcon hcells hgl hPred hn9
  go_wp2_with fail
  refine (HCON.out _ (Below.refl _ _)).mono ?_
  rintro e w5 ⟨rfl, hb5⟩
  have HB5 := hid' (below_two HB4.out hb5)
  clear hb5
  go_wp2
  go_ret
  exact ⟨rfl, HB5.out⟩

end Go.Proofs.YtbnldneejbbhhaaDoor
