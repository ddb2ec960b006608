/-
  Strong and Weak, the code's and the document's; the code's own, names$1, names: by their contracts.
-/
import Derived.Test.YtbnldneejbbhhaaDoorTgE
import Derived.Test.YtbnldneejbbhhaaDoorShCont
import Derived.Shelf.SlicesQ.IndexFunc
import Derived.Laws.StructEq
namespace Go.Proofs.YtbnldneejbbhhaaDoor
open Go.RowKit

namespace Tg
def strong (a b : Tag) : Bool := !a.w && !b.w && (a.v == b.v)
def weak (a b : Tag) : Bool := a.v == b.v
end Tg
def tA (t : Tg.Tag) : Value := .agg #[.bool t.w, .string ⟨t.v.toArray⟩]
theorem noStand15 : Tryd.prog.stoodInHeld 31 = false := by kernel_rfl
theorem fieldsOf15 : Tryd.prog.underlying 31 = some (.struct (Tryd.prog.fieldsOf 31)) := by kernel_rfl
set_option maxRecDepth 20000 in
theorem eqC15 (a b : Tg.Tag) (w : World) : (binOp .eql 31 (.agg #[.bool a.w, .string ⟨a.v.toArray⟩]) (.agg #[.bool b.w, .string ⟨b.v.toArray⟩])).run Tryd.prog w = .ok (.bool (a.w == b.w && a.v == b.v)) w := by
  rw [run_eql_struct, show (10000 : Nat) = 9999 + 1 by rfl, run_equalIn_agg w 9999 31 _ _ fieldsOf15 noStand15]
  simp only [Program.fieldsOf, Tryd.underlying31]
  go_simp
  by_cases h1 : a.w = b.w <;> by_cases h2 : a.v = b.v <;> simp [h1, h2]

theorem bl_two15 (w : World) (x y : Obj) : Below w.heap.size w ((w.alloc x).alloc y) := (bl_alloc w x).trans ((bl_alloc _ y).mono (by simp))

set_option maxHeartbeats 1000000 in
theorem cstrong15 (a b : Tg.Tag) (r : Bool) (hr : Tg.strong a b = r) (w : World) : Calls Tryd.prog 10 #[tA a, tA b] w fun e w' => e = .returned (.bool r) ∧ Below w.heap.size w w' := by
  unfold tA
  have hq := eqC15 a b
  unfold Tg.strong at hr
  cases ha : a.w <;> cases hb : b.w <;> cases hv : (a.v == b.v)
  all_goals
    rw [ha, hb, hv] at hq hr
    subst hr
    go_enter Tryd.func10, Tryd.ntmps10
    go_wp2
    go_ret
    exact ⟨rfl, bl_two15 _ _ _⟩

set_option maxHeartbeats 1000000 in
theorem cweak15 (a b : Tg.Tag) (r : Bool) (hr : Tg.weak a b = r) (w : World) : Calls Tryd.prog 12 #[tA a, tA b] w fun e w' => e = .returned (.bool r) ∧ Below w.heap.size w w' := by
  unfold tA
  unfold Tg.weak at hr
  go_enter Tryd.func12, Tryd.ntmps12
  go_wp2
  go_ret
  exact ⟨by rw [← hr]; rfl, bl_two15 _ _ _⟩

set_option maxHeartbeats 1000000 in
theorem rstrong15 (a b : Tg.Tag) (r : Bool) (hr : Tg.strong a b = r) (w : World) : Calls Tryd.prog 11 #[tA a, tA b] w fun e w' => e = .returned (.bool r) ∧ Below w.heap.size w w' := by
  unfold tA
  unfold Tg.strong at hr
  cases ha : a.w <;> cases hb : b.w <;> cases hv : (a.v == b.v)
  all_goals
    rw [ha, hb, hv] at hr
    subst hr
    go_enter Tryd.func11, Tryd.ntmps11
    go_wp2
    go_ret
    exact ⟨by first | rfl | (simp only [hv]; rfl), bl_two15 _ _ _⟩

set_option maxHeartbeats 1000000 in
theorem rweak15 (a b : Tg.Tag) (r : Bool) (hr : Tg.weak a b = r) (w : World) : Calls Tryd.prog 13 #[tA a, tA b] w fun e w' => e = .returned (.bool r) ∧ Below w.heap.size w w' := by
  unfold tA
  unfold Tg.weak at hr
  go_enter Tryd.func13, Tryd.ntmps13
  go_wp2
  go_ret
  exact ⟨by rw [← hr]; rfl, bl_two15 _ _ _⟩

set_option maxHeartbeats 1000000 in
theorem cown15 (y : ByteArray) (t q : Int) (m : List UInt8) (hm : Tg.mk q y.size = m) (w : World) (hy : y.size ≤ 9223372036854775807) (q0 : -9223372036854775808 ≤ q) (q1 : q ≤ 9223372036854775807) (hT : Lib.TabIs Tryd.prog w "internal/strconv.uint64pow10" .u64 Lib.pow10Tab) :
    Calls Tryd.prog 32 #[.agg (flC y t q)] w fun e w' => e = .returned (tA ⟨false, m⟩) ∧ Below w.heap.size w w' := by
  have HM : Hid (Tg.mkB q y.size = ⟨m.toArray⟩) := hid' (by unfold Tg.mkB; rw [hm])
  have HT := hid' hT
  unfold tA flC
  clear hT hm
  go_enter Tryd.func32, Tryd.ntmps32
  go_upto_region 1 with fail
  have HB1 := hid' (bl_two15 w (.cells #[.string y, .int .i64 t, .int .i64 q] 35) (.cells #[.bool false, .string ⟨#[]⟩] 31))
  have HX : Hid (Ar ((w.alloc (.cells #[.string y, .int .i64 t, .int .i64 q] 35)).alloc (.cells #[.bool false, .string ⟨#[]⟩] 31)) (w.alloc (.cells #[.string y, .int .i64 t, .int .i64 q] 35)).heap.size 31 #[.bool false, .string ⟨#[]⟩]) := hid' (heap_alloc_last _ _)
  have HF : Hid (Ar ((w.alloc (.cells #[.string y, .int .i64 t, .int .i64 q] 35)).alloc (.cells #[.bool false, .string ⟨#[]⟩] 31)) w.heap.size 35 #[.string y, .int .i64 t, .int .i64 q]) := hid' (Ar.keep (heap_alloc_last w _) (bl_alloc _ _))
  have hsz : (w.alloc (.cells #[.string y, .int .i64 t, .int .i64 q] 35)).heap.size = w.heap.size + 1 := by simp
  rw [hsz] at HX
  obtain ⟨xb, hxb⟩ : ∃ xb, w.heap.size = xb := ⟨_, rfl⟩
  have HG : Hid (w.heap.size ≤ xb + 1) := hid' (by omega)
  rw [hxb] at HX HF ⊢
  generalize (w.alloc (.cells #[.string y, .int .i64 t, .int .i64 q] 35)).alloc (.cells #[.bool false, .string ⟨#[]⟩] 31) = w1 at *
  have p0 := HF.out.cell 0 _ rfl
  have p1 := HF.out.cell 1 _ rfl
  have p2 := HF.out.cell 2 _ rfl
  clear hsz hxb
  go_wp2_with fail
  refine (cmake15 y t q _ hy q0 q1 (tab_below HT.out HB1.out)).mono ?_
  rintro e w2 ⟨rfl, hb2⟩
  have HB2 := hid' (below_two HB1.out hb2)
  have HX2 := hid' (HX.out.keep hb2)
  rw [HM.out]
  clear hb2 p0 p1 p2
  go_wp2_with (refine wpl_store 31 _ _ rfl rfl (xb + 1) #[.bool false, .string ⟨m.toArray⟩] (by rfl) (by rfl) _ _ HX2.out sizeC15 rfl (by simp [Value.oneCell']) ?_)
  intro w3 ha3 hu3
  have hld := ldC15 ha3
  have HB3 := hid' (HB2.out.trans (hu3.below HG.out))
  clear ha3 hu3
  go_wp2
  exact bodyPost_ret (v := .agg #[.bool false, .string ⟨m.toArray⟩]) (by simp [results, Tryd.results32, asAddr, hld]) rfl ⟨rfl, HB3.out⟩

end Go.Proofs.YtbnldneejbbhhaaDoor
