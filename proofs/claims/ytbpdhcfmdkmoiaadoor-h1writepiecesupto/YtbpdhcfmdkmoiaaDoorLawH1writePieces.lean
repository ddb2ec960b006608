/-
  H1writePieces: a response's pieces are the document's: by its contract.
-/
import Derived.Test.YtbpdhcfmdkmoiaaDoorPwBD
import Derived.Test.YtbpdhcfmdkmoiaaDoorPwBF
namespace Go.Proofs.YtbpdhcfmdkmoiaaDoor
open Go.RowKit

namespace Hw
theorem rest_len (r : Rp) (o old : Bool) (h : r.b.size ≤ 1073741824) : (rest r o old).length ≤ 65538 := by
  have hp : (parts r.b.data.toList).length ≤ 65537 := by rw [parts_len, ← Lib.size_eq]; unfold pn; omega
  unfold rest
  split
  · rw [List.length_append, List.length_map]; simp; omega
  · omega
theorem pieces_len (r : Rp) (old head last : Bool) (h : r.b.size ≤ 1073741824) : (pieces r old head last).1.length ≤ 65539 := by
  unfold pieces
  split
  · simp
  · split
    · simp
    · split
      · simp
      · simp only [List.length_cons]
        split
        · simp
        · have := rest_len r (opn r head (by assumption)) old h; omega
end Hw
theorem strs_own22 {w : World} {B : Nat} {v : Value} {l : List (List UInt8)} (h : w.ownsRow B 9 1 v l.length (sC l)) : Strs w v l := by
  rcases h.2 with ⟨rfl, hn⟩ | ⟨g, cap, cur, rfl, _⟩
  · exact ⟨none, 0, by rw [hn], fun j hj => absurd hj (by omega)⟩
  · refine ⟨some ⟨g, 0, none⟩, cap, rfl, fun j hj => ⟨g, 0, rfl, ?_⟩⟩
    have := h.cells (g := g) rfl j (.string ⟨l[j].toArray⟩) (Hw.sC_at (List.getElem?_eq_getElem hj))
    rwa [Addr.add_mid] at this
theorem zeroRp22 : (Tryd.prog.info? 24).map (fun i => i.zero) = some (some (.agg #[.int .i64 0, .slice none 0 0, .string ⟨#[]⟩, .slice none 0 0])) := by kernel_rfl
theorem sizeRp22 : (Tryd.prog.info? 24).map (·.size) = some 4 := by kernel_rfl
theorem LN22.set {w : World} {B g cap z : Nat} {l : List Fd} {cs : Array Value} (h : LN22 w B g cap l) (ha : Ar w z 24 cs) (i : Nat) (v : Value) : LN22 (w.setCell ⟨z, i, none⟩ v) B g cap l :=
  ⟨own_same h.own (fun k hk => (upd_setCell w z i v).block k (own_apart h.own ha (by decide) k hk))⟩

set_option maxHeartbeats 8000000 in
set_option maxRecDepth 20000 in
theorem h1writePieces_any (s : Int) (fv : Value) (b : ByteArray) (tv : Value) (fs ts : List Fd) (old head last : Bool) (w : World) (h1 : FW w fv fs) (h2 : FW w tv ts) (k1 : FO22 fs) (k2 : FO22 ts) (hb : b.size ≤ 1073741824) (hT : TB w) (hZ : TZ w) :
    Calls Tryd.prog 3 #[.agg (rp22 s fv b tv), .agg #[.bool old, .bool head, .bool last]] w fun e w' => e = .returned (.bool true) ∧ Below w.heap.size w w' := by
  have HLE1 := hid' (fun W (hw : Below w.heap.size w W) => lent22 fv fs W (h1.keep hw) k1.len)
  have HLE2 := hid' (fun W (hw : Below w.heap.size w W) => lent22 tv ts W (h2.keep hw) k2.len)
  have HFW1 := hid' h1
  have HFW2 := hid' h2
  have HPC := hid' (fun W (fv' tv' : Value) (hw : Below w.heap.size w W) (g1 : FW W fv' fs) (g2 : FW W tv' ts) => cpieces22 s fv' b tv' fs ts old head last W g1 g2 k1 k2 hb (hT.keep hw) (hZ.keep hw))
  have HPR := hid' (fun W (hw : Below w.heap.size w W) => rpieces22 s fv b tv fs ts old head last W (h1.keep hw) (h2.keep hw) k1 k2 hb)
  have HAW := hid' (fun W (hw : Below w.heap.size w W) => awake22 W (hT.keep hw) (hZ.keep hw))
  have HK1 := hid' (fun W (B g cap : Nat) (hw : Below w.heap.size w W) (hl : LN22 W B g cap fs) => kept22 B g cap fv fs W hl (h1.keep hw) k1.len)
  have HK2 := hid' (fun W (B g cap : Nat) (hw : Below w.heap.size w W) (hl : LN22 W B g cap ts) => kept22 B g cap tv ts W hl (h2.keep hw) k2.len)
  obtain ⟨L, hL⟩ : ∃ L, (Hw.pieces ⟨s, fs, b, ts⟩ old head last).1 = L := ⟨_, rfl⟩
  obtain ⟨C, hC⟩ : ∃ C, (Hw.pieces ⟨s, fs, b, ts⟩ old head last).2 = C := ⟨_, rfl⟩
  have HLL : Hid (L.length ≤ 65539) := hid' (by rw [← hL]; exact Hw.pieces_len _ _ _ _ hb)
  rw [hL, hC] at HPC HPR
  have HX := hid' (show Ar (w.alloc (.cells #[.int .i64 s, fv, .string b, tv] 24)) w.heap.size 24 #[.int .i64 s, fv, .string b, tv] from heap_alloc_last w _)
  have HB1 := hid' (bl_alloc w (.cells #[.int .i64 s, fv, .string b, tv] 24))
  clear h1 h2 k1 k2 hb hT hZ hL hC
  unfold rp22 at *
  go_enter Tryd.func3, Tryd.ntmps3
  go_upto_region 1 with fail
  have hsz : (w.alloc (.cells #[.int .i64 s, fv, .string b, tv] 24)).heap.size = w.heap.size + 1 := by simp
  obtain ⟨xb, hxb⟩ : ∃ xb, w.heap.size = xb := ⟨_, rfl⟩
  rw [hxb] at HX hsz ⊢
  generalize w.alloc (.cells #[.int .i64 s, fv, .string b, tv] 24) = w1 at *
  have HY := hid' (show Ar (w1.alloc (.cells #[.bool old, .bool head, .bool last] 26)) w1.heap.size 26 #[.bool old, .bool head, .bool last] from heap_alloc_last w1 _)
  have HX2 := hid' (HX.out.keep (bl_alloc w1 (.cells #[.bool old, .bool head, .bool last] 26)))
  have HB2 := hid' (below_two HB1.out (bl_alloc w1 (.cells #[.bool old, .bool head, .bool last] 26)))
  obtain ⟨yb, hyb⟩ : ∃ yb, xb + 1 = yb := ⟨_, rfl⟩
  rw [hsz, hyb] at HY
  rw [hyb]
  generalize w1.alloc (.cells #[.bool old, .bool head, .bool last] 26) = w2 at *
  have HXB : Hid (w.heap.size ≤ xb) := hid' (by omega)
  clear hxb hyb hsz HX HB1
  have x0 := HX2.out.cell 0 _ rfl
  have x1 := HX2.out.cell 1 _ rfl
  have x2 := HX2.out.cell 2 _ rfl
  have x3 := HX2.out.cell 3 _ rfl
  go_wp2_with (refine wpl_alloc 24 rfl rfl _ zeroRp22 ?_)
  intro zb w3 hzb haz hlz
  have HX3 := hid' (HX2.out.keep hlz)
  have HY3 := hid' (HY.out.keep hlz)
  have HB3 := hid' (below_two HB2.out hlz)
  have HZ3 := hid' haz
  have HZX : Hid (xb ≠ zb) := hid' (fun e => by have h1 := HX2.out.lt; omega)
  have HZY : Hid (yb ≠ zb) := hid' (fun e => by have h1 := HY.out.lt; omega)
  have HZG : Hid (w.heap.size ≤ zb) := hid' (by have h1 := HB2.out.size; omega)
  clear haz hlz hzb x0 x1 x2 x3
  go_wp2_with (refine wpl_store 24 _ _ rfl rfl zb #[.int .i64 s, fv, .string b, tv] (by kernel_rfl) (by kernel_rfl) _ _ HZ3.out sizeRp22 rfl (by
    obtain ⟨ao, cp, e1⟩ := HFW1.out.shape
    obtain ⟨bo, cq, e2⟩ := HFW2.out.shape
    rw [e1, e2]
    simp [Value.oneCell']) ?_)
  intro w4 hay huy
  have HX4 := hid' (huy.keep HX3.out HZX.out)
  have HY4 := hid' (huy.keep HY3.out HZY.out)
  have HB4 := hid' (HB3.out.trans (huy.below HZG.out))
  have HZ4 := hid' hay
  clear hay huy
  have x1 := HX4.out.cell 1 _ rfl
  go_wp2_with (go_at_call 6; refine (HLE1.out _ HB4.out).mono ?_; rintro e w5 ⟨⟨g1, c1, rfl, hl1⟩, hb5⟩; refine Hid.out ?_)
  refine hid' ?_
  have HL1 := hid' hl1
  have HX5 := hid' (HX4.out.keep hb5)
  have HY5 := hid' (HY4.out.keep hb5)
  have HZ5 := hid' (HZ4.out.keep hb5)
  have HB5 := hid' (below_two HB4.out hb5)
  clear hl1 hb5 x1
  have z1 := HZ5.out.cell 1 _ rfl
  have z2 := HZ5.out.free 1
  go_upto_region 3 with fail
  have HL1' := hid' (HL1.out.set HZ5.out 1 (.slice (some ⟨g1, 0, none⟩) fs.length c1))
  have HX6 := hid' (HX5.out.other (fun e => HZX.out e.symm) 1 (.slice (some ⟨g1, 0, none⟩) fs.length c1))
  have HY6 := hid' (HY5.out.other (fun e => HZY.out e.symm) 1 (.slice (some ⟨g1, 0, none⟩) fs.length c1))
  have HZ6 := hid' (HZ5.out.set 1 (.slice (some ⟨g1, 0, none⟩) fs.length c1))
  have HB6 := hid' (HB5.out.setCell (p := ⟨zb, 1, none⟩) HZG.out (.slice (some ⟨g1, 0, none⟩) fs.length c1))
  generalize w5.setCell ⟨zb, 1, none⟩ (.slice (some ⟨g1, 0, none⟩) fs.length c1) = w6 at *
  clear z1 z2
  have x3 := HX6.out.cell 3 _ rfl
  go_wp2_with (go_at_call 6; refine (HLE2.out _ HB6.out).mono ?_; rintro e w7 ⟨⟨g2, c2, rfl, hl2⟩, hb7⟩; refine Hid.out ?_)
  refine hid' ?_
  have HL2 := hid' hl2
  have HL17 := hid' (HL1'.out.keep hb7)
  have HX7 := hid' (HX6.out.keep hb7)
  have HY7 := hid' (HY6.out.keep hb7)
  have HZ7 := hid' (HZ6.out.keep hb7)
  have HB7 := hid' (below_two HB6.out hb7)
  clear hl2 hb7 x3
  have z1 := HZ7.out.cell 3 _ rfl
  have z2 := HZ7.out.free 3
  go_upto_region 4 with fail
  have HL18 := hid' (HL17.out.set HZ7.out 3 (.slice (some ⟨g2, 0, none⟩) ts.length c2))
  have HL28 := hid' (HL2.out.set HZ7.out 3 (.slice (some ⟨g2, 0, none⟩) ts.length c2))
  have HX8 := hid' (HX7.out.other (fun e => HZX.out e.symm) 3 (.slice (some ⟨g2, 0, none⟩) ts.length c2))
  have HY8 := hid' (HY7.out.other (fun e => HZY.out e.symm) 3 (.slice (some ⟨g2, 0, none⟩) ts.length c2))
  have HZ8 := hid' (HZ7.out.set 3 (.slice (some ⟨g2, 0, none⟩) ts.length c2))
  have HB8 := hid' (HB7.out.setCell (p := ⟨zb, 3, none⟩) HZG.out (.slice (some ⟨g2, 0, none⟩) ts.length c2))
  generalize w7.setCell ⟨zb, 3, none⟩ (.slice (some ⟨g2, 0, none⟩) ts.length c2) = w8 at *
  clear z1 z2
  have z0 := HZ8.out.cell 0 (.int .i64 s) rfl
  have z1 := HZ8.out.cell 1 (.slice (some ⟨g1, 0, none⟩) fs.length c1) rfl
  have z2 := HZ8.out.cell 2 (.string b) rfl
  have z3 := HZ8.out.cell 3 (.slice (some ⟨g2, 0, none⟩) ts.length c2) rfl
  have y0 := HY8.out.cell 0 _ rfl
  have y1 := HY8.out.cell 1 _ rfl
  have y2 := HY8.out.cell 2 _ rfl
  go_wp2_with (go_at_call 7; refine (HPC.out _ _ _ HB8.out HL18.out.fw HL28.out.fw).mono ?_; rintro e w9 ⟨po, pc, rfl, hp9, hb9⟩; refine Hid.out ?_)
  refine hid' ?_
  have HP9 := hid' hp9
  have HL19 := hid' (HL18.out.keep hb9)
  have HL29 := hid' (HL28.out.keep hb9)
  have HX9 := hid' (HX8.out.keep hb9)
  have HY9 := hid' (HY8.out.keep hb9)
  have HZ9 := hid' (HZ8.out.keep hb9)
  have HB9 := hid' (below_two HB8.out hb9)
  clear hp9 hb9 z0 z1 z2 z3 y0 y1 y2
  have x0 := HX9.out.cell 0 _ rfl
  have x1 := HX9.out.cell 1 _ rfl
  have x2 := HX9.out.cell 2 _ rfl
  have x3 := HX9.out.cell 3 _ rfl
  have y0 := HY9.out.cell 0 _ rfl
  have y1 := HY9.out.cell 1 _ rfl
  have y2 := HY9.out.cell 2 _ rfl
  go_wp2_with (go_at_call 8; refine (HPR.out _ HB9.out).mono ?_; rintro e wA ⟨qo, qc, rfl, hpA, hbA⟩; refine Hid.out ?_)
  refine hid' ?_
  have HPA := hid' hpA
  have HP9A := hid' (own_same HP9.out (fun k hk => hbA.block k (own_lt HP9.out k hk)))
  have HL1A := hid' (HL19.out.keep hbA)
  have HL2A := hid' (HL29.out.keep hbA)
  have HXA := hid' (HX9.out.keep hbA)
  have HZA := hid' (HZ9.out.keep hbA)
  have HBA := hid' (below_two HB9.out hbA)
  clear hpA hbA x0 x1 x2 x3 y0 y1 y2
  go_wp2_with (go_at_call 9; refine (HAW.out _ HBA.out).mono ?_; rintro e wB ⟨rfl, hbB⟩; refine Hid.out ?_)
  refine hid' ?_
  have HS1 := hid' (strs_own22 (own_same HP9A.out (fun k hk => hbB.block k (own_lt HP9A.out k hk))))
  have HS2 := hid' (strs_own22 (own_same HPA.out (fun k hk => hbB.block k (own_lt HPA.out k hk))))
  have HL1B := hid' (HL1A.out.keep hbB)
  have HL2B := hid' (HL2A.out.keep hbB)
  have HXB2 := hid' (HXA.out.keep hbB)
  have HZB := hid' (HZA.out.keep hbB)
  have HBB := hid' (below_two HBA.out hbB)
  clear hbB
  go_wp2_with (go_at_call 10; refine (sameTexts_any _ _ L L wB HS1.out HS2.out (by have := HLL.out; unfold maxLen; omega) (by have := HLL.out; unfold maxLen; omega)).mono ?_; rintro e wC ⟨rfl, hq⟩; have HWC := hid' hq; clear hq; refine Hid.out ?_)
  refine hid' ?_
  have hbC : Below wB.heap.size wB wC := by obtain ⟨q, hwC⟩ := HWC.out; rw [hwC]; exact below_drewN _ _
  have HL1C := hid' (HL1B.out.keep hbC)
  have HL2C := hid' (HL2B.out.keep hbC)
  have HXC := hid' (HXB2.out.keep hbC)
  have HZC := hid' (HZB.out.keep hbC)
  have HBC := hid' (below_two HBB.out hbC)
  clear hbC HWC
  have z1 := HZC.out.cell 1 (.slice (some ⟨g1, 0, none⟩) fs.length c1) rfl
  have x1 := HXC.out.cell 1 _ rfl
  go_wp2_with (go_at_call 11; refine (HK1.out _ _ _ _ HBC.out HL1C.out).mono ?_; rintro e wD ⟨rfl, hbD⟩; refine Hid.out ?_)
  refine hid' ?_
  have HL2D := hid' (HL2C.out.keep hbD)
  have HXD := hid' (HXC.out.keep hbD)
  have HZD := hid' (HZC.out.keep hbD)
  have HBD := hid' (below_two HBC.out hbD)
  clear hbD z1 x1
  have z3 := HZD.out.cell 3 (.slice (some ⟨g2, 0, none⟩) ts.length c2) rfl
  have x3 := HXD.out.cell 3 _ rfl
  go_wp2_with (go_at_call 11; refine (HK2.out _ _ _ _ HBD.out HL2D.out).mono ?_; rintro e wE ⟨rfl, hbE⟩; refine Hid.out ?_)
  refine hid' ?_
  have HBE := hid' (below_two HBD.out hbE)
  clear hbE z3 x3
  go_wp2
  go_ret
  exact ⟨rfl, HBE.out⟩

end Go.Proofs.YtbpdhcfmdkmoiaaDoor
