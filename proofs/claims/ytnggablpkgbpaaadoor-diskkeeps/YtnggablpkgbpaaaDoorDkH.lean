/-
  The laws' awake, of the disk.
-/
import Derived.Test.YtnggablpkgbpaaaDoorDkL
namespace Go.Proofs.YtnggablpkgbpaaaDoor
open Go.RowKit

theorem CD.keep {w w' : World} {B b : Nat} {K : Nat → Prop} {q : Int} {es : List Dk.En} (h : CD w B b K q es) (hb : Below w.heap.size w w') : CD w' B b K q es :=
  h.other (LF.of_below (S := fun _ => False) hb) (fun _ _ => id)
theorem CS.keep {w w' : World} {B b : Nat} {K : Nat → Prop} {q : Int} {es : List Dk.En} (h : CS w B b K q es) (hb : Below w.heap.size w w') : CS w' B b K q es :=
  h.other (LF.of_below (S := fun _ => False) hb) (fun _ _ => id)
theorem CD.bl {w0 w w' : World} {B b : Nat} {K : Nat → Prop} {q : Int} {es : List Dk.En} (h : CD w B b K q es) (hb : Below B w0 w) (hf : LF K w w') : Below B w0 w' := hb.trans (hf.below h.lb (fun k hk => (h.lt k hk).1))
/-- A snapshot that was made behind the disk's last change shares no block with it. -/
theorem CS.aside {w w' : World} {B' s : Nat} {K Ks : Nat → Prop} {q' : Int} {es' : List Dk.En} (hs : CS w B' s Ks q' es') (hd : ∀ k, K k → k < B') (hf : LF K w w') : CS w' B' s Ks q' es' :=
  hs.other hf (fun k hk hK => by have := (hs.lt k hk).1; have := hd k hK; omega)

/-- The two files of awake. -/
def e1 : Dk.En := ⟨⟨#[47, 98]⟩, ⟨#[120]⟩, 7, 1⟩
def e2 : Dk.En := ⟨⟨#[47, 98]⟩, ⟨#[122]⟩, 9, 2⟩
theorem aw1 : PutOf13 [] 0 ⟨#[47, 98]⟩ ⟨#[120]⟩ 7 0 [e1] 1 := .inr (.inr (.inr (.inr ⟨rfl, ⟨by decide, by decide, ⟨by decide, by decide⟩, .inr (by decide)⟩, rfl, rfl⟩)))
theorem aw2 : PutOf13 [e1] 1 ⟨#[98]⟩ ⟨#[120]⟩ 7 130 [e1] 1 := .inl ⟨rfl, by decide, rfl, rfl⟩
theorem aw3 : PutOf13 [e1] 1 ⟨#[47, 98]⟩ ⟨#[122]⟩ 9 0 [e2] 2 := .inr (.inr (.inr (.inr ⟨rfl, ⟨by decide, by decide, ⟨by decide, by decide⟩, .inr (by decide)⟩, rfl, rfl⟩)))

theorem ag1 : Dk.get [47, 98] [e1] = some e1 ∧ Dk.has [47, 98] [e1] = true := ⟨rfl, rfl⟩
theorem ag2 : Dk.get [47, 98] [e2] = some e2 ∧ Dk.has [47, 98] [e2] = true := ⟨rfl, rfl⟩

set_option maxHeartbeats 4000000 in
set_option maxRecDepth 20000 in
theorem awake13 (w : World) : Calls Tryd.prog 10 #[] w fun e w' => e = .returned (.bool true) ∧ Below w.heap.size w w' := by
  have q1 : ∀ W, (binOp .eql 38 (.agg #[.string ⟨#[120]⟩, .int .i64 7, .int .i64 1]) (.agg #[.string ⟨#[120]⟩, .int .i64 7, .int .i64 1])).run Tryd.prog W = .ok (.bool true) W := fun W => by rw [eq_file]; simp
  have q2 : ∀ W, (binOp .eql 38 (.agg #[.string ⟨#[122]⟩, .int .i64 9, .int .i64 2]) (.agg #[.string ⟨#[122]⟩, .int .i64 9, .int .i64 2])).run Tryd.prog W = .ok (.bool true) W := fun W => by rw [eq_file]; simp
  have hgd := noGuardFi
  go_enter Tryd.func10, Tryd.ntmps10
  go_wp2_with fail
  refine (cnew13 w).mono ?_
  rintro _ w1 ⟨⟨b, K1, rfl, hd⟩, hb⟩
  have HD1 := hid' hd
  have HB1 := hid' hb
  clear hd hb
  go_wp2_with fail
  refine (cput13 aw1 _ b K1 w1 HD1.out (by decide) (by decide) (by decide) (by decide)).mono ?_
  rintro _ w2 ⟨rfl, K2, hd, hf, _⟩
  have HD2 := hid' hd
  have HB2 := hid' (HD1.out.bl HB1.out hf)
  clear hd hf HD1 HB1
  go_wp2_with fail
  refine (cput13 aw2 _ b K2 w2 HD2.out (by decide) (by decide) (by decide) (by decide)).mono ?_
  rintro _ w3 ⟨rfl, K3, hd, hf, _⟩
  have HD3 := hid' hd
  have HB3 := hid' (HD2.out.bl HB2.out hf)
  clear hd hf HD2 HB2
  go_wp2_with fail
  refine (csnap13 _ b K3 1 [e1] w3 HD3.out).mono ?_
  rintro _ w4 ⟨⟨s, Ks, rfl, hs⟩, hb⟩
  have HS4 := hid' hs
  have HD4 := hid' (HD3.out.keep hb)
  have HB4 := hid' (below_from HB3.out hb HB3.out.size)
  have HLT : Hid (∀ k, K3 k → k < w3.heap.size) := hid' (fun k hk => (HD3.out.lt k hk).2)
  clear hs hb HD3 HB3
  go_wp2_with fail
  refine (cput13 aw3 _ b K3 w4 HD4.out (by decide) (by decide) (by decide) (by decide)).mono ?_
  rintro _ w5 ⟨rfl, K5, hd, hf, _⟩
  have HD5 := hid' hd
  have HS5 := hid' (HS4.out.aside HLT.out hf)
  have HB5 := hid' (HD4.out.bl HB4.out hf)
  clear hd hf HD4 HB4 HS4 HLT
  go_wp2_with fail
  refine (sget13 _ s Ks 1 [e1] ⟨#[47, 98]⟩ w5 HS5.out (by decide)).mono ?_
  rw [show (⟨#[47, 98]⟩ : ByteArray).data.toList = [47, 98] from rfl, ag1.1, ag1.2]
  rintro _ w6 ⟨rfl, hb⟩
  have HD6 := hid' (HD5.out.keep hb)
  have HS6 := hid' (HS5.out.keep hb)
  have HB6 := hid' (below_from HB5.out hb HB5.out.size)
  clear hb HD5 HS5 HB5
  simp only [fileV, e1]
  go_upto_region 8 with fail
  have HX : Hid (Ar (w6.alloc (.cells #[.string ⟨#[120]⟩, .int .i64 7, .int .i64 1] 38)) w6.heap.size 38 #[.string ⟨#[120]⟩, .int .i64 7, .int .i64 1]) := hid' (heap_alloc_last w6 _)
  have hb7 : Below w6.heap.size w6 (w6.alloc (.cells #[.string ⟨#[120]⟩, .int .i64 7, .int .i64 1] 38)) := (Below.refl _ _).alloc (Nat.le_refl _) _
  have HD7 := hid' (HD6.out.keep hb7)
  have HS7 := hid' (HS6.out.keep hb7)
  have HB7 := hid' (below_from HB6.out hb7 HB6.out.size)
  obtain ⟨xb, hxb⟩ : ∃ xb, w6.heap.size = xb := ⟨_, rfl⟩
  clear hb7 HD6 HS6 HB6
  rw [hxb] at HX ⊢
  generalize w6.alloc (.cells #[.string ⟨#[120]⟩, .int .i64 7, .int .i64 1] 38) = w7 at *
  clear hxb
  go_wp2_with fail
  refine (csnap13 _ b K5 2 [e2] w7 HD7.out).mono ?_
  rintro _ w8 ⟨⟨s2, Ks2, rfl, hs⟩, hb⟩
  have HT8 := hid' hs
  have HX8 := hid' (HX.out.keep hb)
  have HS8 := hid' (HS7.out.keep hb)
  have HB8 := hid' (below_from HB7.out hb HB7.out.size)
  clear hs hb HD7 HS7 HB7 HX
  go_wp2_with fail
  refine (sget13 _ s2 Ks2 2 [e2] ⟨#[47, 98]⟩ w8 HT8.out (by decide)).mono ?_
  rw [show (⟨#[47, 98]⟩ : ByteArray).data.toList = [47, 98] from rfl, ag2.1, ag2.2]
  rintro _ w9 ⟨rfl, hb⟩
  have HX9 := hid' (HX8.out.keep hb)
  have HS9 := hid' (HS8.out.keep hb)
  have HB9 := hid' (below_from HB8.out hb HB8.out.size)
  clear hb HT8 HS8 HB8 HX8
  simp only [fileV, e2]
  go_upto_region 9 with fail
  have HY : Hid (Ar (w9.alloc (.cells #[.string ⟨#[122]⟩, .int .i64 9, .int .i64 2] 38)) w9.heap.size 38 #[.string ⟨#[122]⟩, .int .i64 9, .int .i64 2]) := hid' (heap_alloc_last w9 _)
  have hb10 : Below w9.heap.size w9 (w9.alloc (.cells #[.string ⟨#[122]⟩, .int .i64 9, .int .i64 2] 38)) := (Below.refl _ _).alloc (Nat.le_refl _) _
  have HX10 := hid' (HX9.out.keep hb10)
  have HS10 := hid' (HS9.out.keep hb10)
  have HB10 := hid' (below_from HB9.out hb10 HB9.out.size)
  obtain ⟨yb, hyb⟩ : ∃ yb, w9.heap.size = yb := ⟨_, rfl⟩
  clear hb10 HX9 HS9 HB9
  rw [hyb] at HY ⊢
  generalize w9.alloc (.cells #[.string ⟨#[122]⟩, .int .i64 9, .int .i64 2] 38) = w10 at *
  clear hyb
  have x0 := HX10.out.cell 0 _ rfl
  have x1 := HX10.out.cell 1 _ rfl
  have x2 := HX10.out.cell 2 _ rfl
  have y0 := HY.out.cell 0 _ rfl
  have y1 := HY.out.cell 1 _ rfl
  have y2 := HY.out.cell 2 _ rfl
  go_wp2_with fail
  refine (slist13 _ s Ks 1 [e1] ⟨#[47]⟩ w10 HS10.out (by decide)).mono ?_
  rintro _ w11 ⟨⟨m, ro, rc, rfl, hm, _⟩, hb⟩
  have HB11 := hid' (below_from HB10.out hb HB10.out.size)
  obtain rfl : m = 1 := by rw [← hm]; rfl
  clear hb hm
  go_wp2
  go_ret
  exact ⟨rfl, HB11.out⟩

end Go.Proofs.YtnggablpkgbpaaaDoor
