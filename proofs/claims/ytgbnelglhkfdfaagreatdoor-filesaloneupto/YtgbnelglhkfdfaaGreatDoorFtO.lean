/-
  The code's Kind, isFolder, placeOf, told: by their contracts.
  The code's stamps, heads; steps of a region that draws.
  The code's whole, single: by their contracts (written by mkfsj.py).
  The code's single: by its contract (as fsgen.py writes such regions).
  The code's several, asked: by their contracts.
  The code's Plain: by its contract.
-/
import Derived.Test.YtgbnelglhkfdfaaGreatDoorFtL
import Derived.Test.YtgbnelglhkfdfaaGreatDoorShelf
import Derived.Test.YtgbnelglhkfdfaaGreatDoorFtA
import Derived.Test.YtgbnelglhkfdfaaGreatDoorFtE
import Derived.Test.YtgbnelglhkfdfaaGreatDoorFtK
import Derived.RegionTactic
import Derived.Deep.RegionHeld3
import Derived.ChangeAlike
import Derived.Test.YtgbnelglhkfdfaaGreatDoorFtH
import Derived.Test.YtgbnelglhkfdfaaGreatDoorFtI
namespace Go.Proofs.YtgbnelglhkfdfaaGreatDoor
open Go.RowKit

namespace Fs
/-- What is still to be looked at of the kinds. -/
def kgo (p : T8) (i : Nat) : T8 := (((kinds.drop i).find? (fun k => Lib.hasSuffix p k.1)).map (·.2)).getD vOC
theorem kgo_0 (p : T8) : kgo p 0 = kind p := rfl
theorem kgo_end (p : T8) : kgo p 6 = vOC := rfl
theorem kgo_yes (p : T8) (i : Nat) (k : T8 × T8) (h : kinds[i]? = some k) (hs : Lib.hasSuffix p k.1 = true) : kgo p i = k.2 := by
  unfold kgo
  obtain ⟨hl, h⟩ := List.getElem?_eq_some_iff.1 h
  rw [List.drop_eq_getElem_cons hl, h, List.find?_cons, hs]
  rfl
theorem kgo_no (p : T8) (i : Nat) (k : T8 × T8) (h : kinds[i]? = some k) (hs : Lib.hasSuffix p k.1 = false) : kgo p (i + 1) = kgo p i := by
  unfold kgo
  obtain ⟨hl, h⟩ := List.getElem?_eq_some_iff.1 h
  rw [List.drop_eq_getElem_cons hl, h, List.find?_cons, hs]
/-- The kinds' cells. -/
def kdC : Array Value := #[
  .string ⟨#[46, 104, 116, 109, 108]⟩, .string ⟨#[116, 101, 120, 116, 47, 104, 116, 109, 108]⟩,
  .string ⟨#[46, 116, 120, 116]⟩, .string ⟨#[116, 101, 120, 116, 47, 112, 108, 97, 105, 110]⟩,
  .string ⟨#[46, 99, 115, 115]⟩, .string ⟨#[116, 101, 120, 116, 47, 99, 115, 115]⟩,
  .string ⟨#[46, 106, 115]⟩, .string ⟨#[116, 101, 120, 116, 47, 106, 97, 118, 97, 115, 99, 114, 105, 112, 116]⟩,
  .string ⟨#[46, 106, 115, 111, 110]⟩, .string ⟨#[97, 112, 112, 108, 105, 99, 97, 116, 105, 111, 110, 47, 106, 115, 111, 110]⟩,
  .string ⟨#[46, 112, 110, 103]⟩, .string ⟨#[105, 109, 97, 103, 101, 47, 112, 110, 103]⟩]
theorem kd_at (i : Nat) (h : i < 6) : ∃ k : T8 × T8, kinds[i]? = some k ∧ k.1.length ≤ 5 ∧ kdC.extract (i * 2) (i * 2 + 2) = #[.string ⟨k.1.toArray⟩, .string ⟨k.2.toArray⟩] := by
  have : i = 0 ∨ i = 1 ∨ i = 2 ∨ i = 3 ∨ i = 4 ∨ i = 5 := by omega
  rcases this with rfl | rfl | rfl | rfl | rfl | rfl <;> exact ⟨_, rfl, by decide, rfl⟩
theorem kind_le (p : T8) : (kind p).length ≤ 24 := by
  have h : ∀ i, i ≤ 6 → (kgo p (6 - i)).length ≤ 24 := by
    intro i
    induction i with
    | zero => intro _; rw [show 6 - 0 = 6 from rfl, kgo_end]; decide
    | succ i ih =>
      intro hi
      have ih := ih (by omega)
      have hk : ∃ k : T8 × T8, kinds[6 - (i + 1)]? = some k ∧ k.2.length ≤ 24 := by
        have : i = 0 ∨ i = 1 ∨ i = 2 ∨ i = 3 ∨ i = 4 ∨ i = 5 := by omega
        rcases this with rfl | rfl | rfl | rfl | rfl | rfl <;> exact ⟨_, rfl, by decide⟩
      obtain ⟨k, hk, hl⟩ := hk
      cases hs : Lib.hasSuffix p k.1
      · rw [← kgo_no p _ k hk hs, show 6 - (i + 1) + 1 = 6 - i by omega]; exact ih
      · rw [kgo_yes p _ k hk hs]; exact hl
  exact h 6 (Nat.le_refl _)
end Fs
theorem index_kd19 (i : Nat) (k : Fs.T8 × Fs.T8) (hi : i < 6) (hk : Fs.kdC.extract (i * 2) (i * 2 + 2) = #[.string ⟨k.1.toArray⟩, .string ⟨k.2.toArray⟩]) (c : Array Value) (hc : c = Fs.kdC) (w : World) : (Instr.index 132 (.agg c) (.int .i64 (i : Int))).run Tryz.prog w = .ok (.agg #[.string ⟨k.1.toArray⟩, .string ⟨k.2.toArray⟩]) w := by
  subst hc
  simp [Instr.index, asIntOf, run_underlying Tryz.underlying132, hi, part, hk]
theorem sizeKd19 : (Tryz.prog.info? 132).map (·.size) = some 12 := by kernel_rfl

set_option maxHeartbeats 4000000 in
set_option maxRecDepth 20000 in
theorem ckind19 (p : ByteArray) (l : Fs.T8) (hp : p.data.toList = l) (hs : p.size ≤ 140737488355328) (w : World) :
    Calls Tryz.prog 57 #[.string p] w fun e w' => e = .returned (.string ⟨(Fs.kind l).toArray⟩) ∧ Below w.heap.size w w' := by
  have HS : Hid (∀ (k : Fs.T8 × Fs.T8) (b : Bool), Lib.hasSuffix l k.1 = b → ∀ W, Calls Tryz.prog 63 #[.string p, .string ⟨k.1.toArray⟩] W fun e w' => e = .returned (.bool b) ∧ w' = W) := hid' (fun k b hb W => by
    have := Tryz.strings_HasSuffix p ⟨k.1.toArray⟩ W (by omega)
    rw [hp, show (⟨k.1.toArray⟩ : ByteArray).data.toList = k.1 from rfl, hb] at this
    exact this)
  clear hp hs
  go_enter Tryz.func57, Tryz.ntmps57
  go_upto_region 2 with fail
  have HX : Hid (Ar (w.alloc (.cells #[.string ⟨#[46, 104, 116, 109, 108]⟩, .string ⟨#[116, 101, 120, 116, 47, 104, 116, 109, 108]⟩, .string ⟨#[46, 116, 120, 116]⟩, .string ⟨#[116, 101, 120, 116, 47, 112, 108, 97, 105, 110]⟩, .string ⟨#[46, 99, 115, 115]⟩, .string ⟨#[116, 101, 120, 116, 47, 99, 115, 115]⟩, .string ⟨#[46, 106, 115]⟩, .string ⟨#[116, 101, 120, 116, 47, 106, 97, 118, 97, 115, 99, 114, 105, 112, 116]⟩, .string ⟨#[46, 106, 115, 111, 110]⟩, .string ⟨#[97, 112, 112, 108, 105, 99, 97, 116, 105, 111, 110, 47, 106, 115, 111, 110]⟩, .string ⟨#[46, 112, 110, 103]⟩, .string ⟨#[105, 109, 97, 103, 101, 47, 112, 110, 103]⟩] 132)) w.heap.size 132 Fs.kdC) := hid' (heap_alloc_last w _)
  have HB := hid' (bl_alloc19 w (.cells #[.string ⟨#[46, 104, 116, 109, 108]⟩, .string ⟨#[116, 101, 120, 116, 47, 104, 116, 109, 108]⟩, .string ⟨#[46, 116, 120, 116]⟩, .string ⟨#[116, 101, 120, 116, 47, 112, 108, 97, 105, 110]⟩, .string ⟨#[46, 99, 115, 115]⟩, .string ⟨#[116, 101, 120, 116, 47, 99, 115, 115]⟩, .string ⟨#[46, 106, 115]⟩, .string ⟨#[116, 101, 120, 116, 47, 106, 97, 118, 97, 115, 99, 114, 105, 112, 116]⟩, .string ⟨#[46, 106, 115, 111, 110]⟩, .string ⟨#[97, 112, 112, 108, 105, 99, 97, 116, 105, 111, 110, 47, 106, 115, 111, 110]⟩, .string ⟨#[46, 112, 110, 103]⟩, .string ⟨#[105, 109, 97, 103, 101, 47, 112, 110, 103]⟩] 132))
  obtain ⟨xb, hxb⟩ : ∃ xb, w.heap.size = xb := ⟨_, rfl⟩
  rw [hxb] at HX ⊢
  generalize w.alloc (.cells #[.string ⟨#[46, 104, 116, 109, 108]⟩, .string ⟨#[116, 101, 120, 116, 47, 104, 116, 109, 108]⟩, .string ⟨#[46, 116, 120, 116]⟩, .string ⟨#[116, 101, 120, 116, 47, 112, 108, 97, 105, 110]⟩, .string ⟨#[46, 99, 115, 115]⟩, .string ⟨#[116, 101, 120, 116, 47, 99, 115, 115]⟩, .string ⟨#[46, 106, 115]⟩, .string ⟨#[116, 101, 120, 116, 47, 106, 97, 118, 97, 115, 99, 114, 105, 112, 116]⟩, .string ⟨#[46, 106, 115, 111, 110]⟩, .string ⟨#[97, 112, 112, 108, 105, 99, 97, 116, 105, 111, 110, 47, 106, 115, 111, 110]⟩, .string ⟨#[46, 112, 110, 103]⟩, .string ⟨#[105, 109, 97, 103, 101, 47, 112, 110, 103]⟩] 132) = w1 at *
  clear hxb
  obtain ⟨c, hc⟩ : ∃ c, c = Fs.kdC := ⟨_, rfl⟩
  rw [← hc] at HX
  have HC := hid' hc
  clear hc
  go_wp2_with (refine wpl_load 132 _ rfl rfl xb (by kernel_rfl) _ _ HX.out _ Tryz.underlying132 rfl (by rw [HC.out]; exact sizeKd19) ?_)
  go_loopw [14] (fun s14 wr => ∃ i : Nat, s14 = .int .i64 (i : Int) ∧ i ≤ 6 ∧ Hid (Fs.kgo l i = Fs.kind l) ∧ Hid (Below w.heap.size w wr)) (fun s14 _ => 6 - (intOf s14).toNat)
  case atStart => exact ⟨0, rfl, by omega, hid' (Fs.kgo_0 l), HB⟩
  case round =>
    clear HB
    obtain ⟨i, rfl, hi, HI, HB⟩ := hrel
    by_cases hlt : i < 6
    · have hlt2 : (i : Int) < 6 := by omega
      obtain ⟨k, hk, hkl, hkx⟩ := Fs.kd_at i hlt
      have HK := hid' hk
      have hix := fun W => index_kd19 i k hlt hkx c HC.out W
      obtain ⟨b, hb⟩ : ∃ b, Lib.hasSuffix l k.1 = b := ⟨_, rfl⟩
      have HSK := hid' (HS.out k b hb)
      have HBV := hid' hb
      have HW : Hid (Ar (wr.alloc (.cells #[.string ⟨k.1.toArray⟩, .string ⟨k.2.toArray⟩] 131)) wr.heap.size 131 #[.string ⟨k.1.toArray⟩, .string ⟨k.2.toArray⟩]) := hid' (heap_alloc_last wr _)
      have HBW := hid' (below_two HB.out (bl_alloc19 wr (.cells #[.string ⟨k.1.toArray⟩, .string ⟨k.2.toArray⟩] 131)))
      clear hk hkl hkx hb HB
      go_upto_region 5 with fail
      obtain ⟨sb, hsb⟩ : ∃ sb, wr.heap.size = sb := ⟨_, rfl⟩
      rw [hsb] at HW ⊢
      generalize wr.alloc (.cells #[.string ⟨k.1.toArray⟩, .string ⟨k.2.toArray⟩] 131) = w2 at *
      clear hsb hix
      have x0 := HW.out.cell 0 _ rfl
      have x1 := HW.out.cell 1 _ rfl
      go_wp2_with fail
      refine (HSK.out w2).mono ?_
      rintro e w3 ⟨rfl, hw3⟩
      subst w3
      cases b
      · have HE : Hid (Fs.kgo l (i + 1) = Fs.kind l) := hid' (by rw [Fs.kgo_no l i k HK.out HBV.out]; exact HI.out)
        go_wp2
        go_roundw
        case rel => exact ⟨i + 1, by go_num, by omega, HE, HBW⟩
        case measure => simp [intOf]; omega
      · have HE : Hid (k.2 = Fs.kind l) := hid' (by rw [← HI.out, Fs.kgo_yes l i k HK.out HBV.out])
        go_wp2
        go_ret
        exact ⟨by rw [← HE.out]; rfl, HBW.out⟩
    · have hlt2 : ¬ (i : Int) < 6 := by omega
      obtain rfl : i = 6 := by omega
      have HE : Hid (Fs.vOC = Fs.kind l) := hid' (by rw [← HI.out, Fs.kgo_end])
      clear hlt
      go_wp2
      go_ret
      exact ⟨by rw [← HE.out]; rfl, HB.out⟩

set_option maxHeartbeats 1000000 in
set_option maxRecDepth 20000 in
theorem cfolder19 (s : ByteArray) (l : Fs.T8) (hp : s.data.toList = l) (hs : s.size ≤ 140737488355328) (w : World) :
    Calls Tryz.prog 40 #[.string s] w fun e w' => e = .returned (.bool (Fs.folder l)) ∧ w' = w := by
  have HS : Hid (∀ W, Calls Tryz.prog 63 #[.string s, .string ⟨#[47]⟩] W fun e w' => e = .returned (.bool (Lib.hasSuffix l [47])) ∧ w' = W) := hid' (fun W => by
    have := Tryz.strings_HasSuffix s ⟨#[47]⟩ W (by omega)
    rw [hp, show (⟨#[47]⟩ : ByteArray).data.toList = [47] from rfl] at this
    exact this)
  have hl : s.toList = l := by rw [ba_list]; exact hp
  cases h : l.isEmpty
  · have he : (s.toList == []) = false := by rw [hl]; cases l <;> simp at h ⊢
    have hf : Fs.folder l = Lib.hasSuffix l [47] := by unfold Fs.folder; rw [h]; rfl
    rw [hf]
    clear hp hs hl h hf
    go_enter Tryz.func40, Tryz.ntmps40
    go_wp2_with fail
    refine (HS.out w).mono ?_
    rintro e w3 ⟨rfl, hw3⟩
    subst w3
    go_wp2
    go_ret
    exact ⟨rfl, rfl⟩
  · have he : (s.toList == []) = true := by rw [hl]; cases l <;> simp at h ⊢
    have hf : Fs.folder l = true := by unfold Fs.folder; rw [h]; rfl
    rw [hf]
    clear hp hs hl h hf HS
    go_enter Tryz.func40, Tryz.ntmps40
    go_wp2
    go_ret
    exact ⟨rfl, rfl⟩

set_option maxHeartbeats 1000000 in
set_option maxRecDepth 20000 in
theorem cplace19 (r s : ByteArray) (hr : r.size ≤ 1048576) (hs : s.size ≤ 1048576) (w : World) :
    ∃ q : ByteArray, q.data.toList = Fs.name r.data.toList s.data.toList ∧ q.size ≤ 2097163 ∧ Calls Tryz.prog 26 #[.string r, .string s] w fun e w' => e = .returned (.string q) ∧ w' = w := by
  have HF := hid' (cfolder19 s _ rfl (by omega) w)
  have e1 : r.size + 1 ≤ 9223372036854775807 := by omega
  have e2 : r.size + 1 + s.size ≤ 9223372036854775807 := by omega
  have e3 : r.size + 1 + s.size + 10 ≤ 9223372036854775807 := by omega
  have g1 : (r ++ ⟨#[47]⟩ : ByteArray).size = r.size + 1 := by rw [ByteArray.size_append]; rfl
  have g2 : ((r ++ ⟨#[47]⟩) ++ s : ByteArray).size = r.size + 1 + s.size := by rw [ByteArray.size_append, g1]
  cases hf : Fs.folder s.data.toList
  · rw [hf] at HF
    refine ⟨(r ++ ⟨#[47]⟩) ++ s, ?_, by omega, ?_⟩
    · unfold Fs.name; rw [hf]; simp [ByteArray.data_append]
    · clear hr hs hf g1 g2
      go_enter Tryz.func26, Tryz.ntmps26
      go_wp2_with fail
      refine HF.out.mono ?_
      rintro e w3 ⟨rfl, hw3⟩
      subst w3
      go_wp2
      go_ret
      exact ⟨rfl, rfl⟩
  · rw [hf] at HF
    refine ⟨((r ++ ⟨#[47]⟩) ++ s) ++ ⟨#[105, 110, 100, 101, 120, 46, 104, 116, 109, 108]⟩, ?_, by rw [ByteArray.size_append, g2]; show r.size + 1 + s.size + 10 ≤ _; omega, ?_⟩
    · unfold Fs.name; rw [hf]; simp [ByteArray.data_append, Fs.vIX]
    · clear hr hs hf g1 g2
      go_enter Tryz.func26, Tryz.ntmps26
      go_wp2_with fail
      refine HF.out.mono ?_
      rintro e w3 ⟨rfl, hw3⟩
      subst w3
      go_wp2
      go_ret
      exact ⟨rfl, rfl⟩

theorem zeroFd19 : (Tryz.prog.info? 42).map (fun i => i.zero) = some (some (.agg #[.string ⟨#[]⟩, .string ⟨#[]⟩])) := by kernel_rfl
theorem sizeFd19 : (Tryz.prog.info? 42).map (·.size) = some 2 := by kernel_rfl
theorem ldFd19 {w : World} {b : Nat} {x0 x1 : Value} (h : Ar w b 42 #[x0, x1]) : (loadVar 42 ⟨b, 0, none⟩).run Tryz.prog w = .ok (.agg #[x0, x1]) w :=
  run_loadVar_row (P := Tryz.prog) w b 42 42 _ (0, 0) _ h Tryz.underlying42 rfl sizeFd19

set_option maxHeartbeats 1000000 in
set_option maxRecDepth 20000 in
theorem ctoldF19 (v : ByteArray) (w : World) :
    Calls Tryz.prog 52 #[.string v] w fun e w' => e = .returned (.agg #[.string ⟨#[99, 111, 110, 116, 101, 110, 116, 45, 114, 97, 110, 103, 101]⟩, .string v]) ∧ Below w.heap.size w w' := by
  go_enter Tryz.func52, Tryz.ntmps52
  go_wp2
  have hA : Ar (w.alloc (.cells #[.string ⟨#[99, 111, 110, 116, 101, 110, 116, 45, 114, 97, 110, 103, 101]⟩, .string v] 42)) w.heap.size 42 #[.string ⟨#[99, 111, 110, 116, 101, 110, 116, 45, 114, 97, 110, 103, 101]⟩, .string v] := heap_alloc_last w _
  have hld := ldFd19 hA
  exact bodyPost_ret (v := .agg #[.string ⟨#[99, 111, 110, 116, 101, 110, 116, 45, 114, 97, 110, 103, 101]⟩, .string v]) (by simp [results, Tryz.results52, asAddr, hld]) rfl ⟨rfl, bl_alloc19 w _⟩

end Go.Proofs.YtgbnelglhkfdfaaGreatDoor

namespace Go.Proofs.YtgbnelglhkfdfaaGreatDoor
open Go.RowKit

section
variable {P : Program} {md : Region.Mode} {Q : Exit → Act → World → Prop} {S : World → Prop}
/-- An operation is taken first, its slot written out. -/
theorem take_d19 {ops : Array Oper} {i : Nat} {oi : Oper} {d : Option Tmp} {v : Value} {fuel : Nat} {listed : Array Bool} {a : Act} {w : World} (hi : ops[i]? = some oi) (hd : oi.dst = d)
    (hs : Region.noSelect ops = true) (hf : Region.free md ops listed i = true) (hr : (Region.ready md ops listed).contains i = true)
    (hQ : ∀ c a w, Q (.panic c) (a.put d v) w → Q (.panic c) a w) (hy : YieldsIf P ops S oi v a) (hS : S w)
    (h : wpAnyH P md ops Q S fuel (listed.setIfInBounds i true) (a.put d v) w) : wpAnyH P md ops Q S (fuel + 1) listed a w := by
  subst hd
  exact wpAnyH_take hi hs hf hr hQ hy hS h
/-- A slice is built of a literal, in a region that draws. -/
theorem step_lit19 {w : World} {ops : Array Oper} {o : Oper} {a : Act} {K : Act → World → Prop} {E : Prop} (hgd : o.guard = none) (d : Option Tmp) (hd : o.dst = d) (e : TypeId) (n : Nat) (cs : Array Value)
    (hrun : (execOp a.eval o).run P w = .ok (.value (.slice (some ⟨w.heap.size, 0, none⟩) n n)) (w.alloc (.cells cs e)))
    (h : K (a.put d (.slice (some ⟨w.heap.size, 0, none⟩) n n)) (w.alloc (.cells cs e))) :
    if Region.wanted o (yielded ops a.tmps) = true then Oper.wp P o a w K Q else E := by
  have hw : Region.wanted o (yielded ops a.tmps) = true := by simp [Region.wanted, hgd]
  rw [if_pos hw]
  unfold Oper.wp
  rw [hrun]
  subst hd
  exact h
theorem step_app19 {w : World} {ops : Array Oper} {o : Oper} {a : Act} {K : Act → World → Prop} {E : Prop} (hgd : o.guard = none) (d : Option Tmp) (hd : o.dst = d) (s x : Operand) (t : TypeId)
    (ho : o.op = .call { callee := .builtin .append, args := #[s, x], argTypes := #[t, t] })
    (base : Nat) (e : TypeId) (i : TypeInfo) (z : Value) (size bytes : Nat) (ht : P.underlying t = some (.slice e)) (hi : P.info? e = some i) (hz : i.zero = some z)
    (hsize : i.size = size) (hby : i.bytes = bytes) (hzs : z.cells.size = size) (hsz : 0 < size)
    (v : Value) (n : Nat) (xs : List Value) (hs : a.eval s = v) (hown : w.ownsRow base e size v n xs)
    (ad : Addr) (m c : Nat) (news : List Value) (hx : a.eval x = .slice (some ad) m c) (hl : news.length = m * size) (hnews : ∀ j u, news[j]? = some u → w.cell? (ad.add j) = some u) (h1 : ∀ u ∈ news, u.oneCell' = true)
    (h63 : n + m ≤ maxLen) (hbytes : (n + m) * bytes ≤ 140737488355328) (hbase : base ≤ w.heap.size)
    (h : ∀ v' w', w'.ownsRow base e size v' (n + m) (xs ++ news) → w.grownBy w' v.ownBlock → K (a.put d v') w') :
    if Region.wanted o (yielded ops a.tmps) = true then Oper.wp P o a w K Q else E := by
  subst hd
  have hw : Region.wanted o (yielded ops a.tmps) = true := by simp [Region.wanted, hgd]
  rw [if_pos hw]
  obtain ⟨v', w', hr, h2, h3, _, _⟩ := run_append_own_at (P := P) w base t o.type e i z size bytes ht hi hz hsize hby hzs hsz v n xs hown ad m c news hl hnews h1 h63 hbytes hbase
  unfold Oper.wp execOp
  simp only [ho, resolve, invoke, builtin, Sem.run_bind, Sem.run_pure, Result.andThen_ok, List.map_toArray, List.map_cons, List.map_nil, hs, hx, hr]
  exact h v' w' h2 h3
theorem step_store19 {w : World} {ops : Array Oper} {o : Oper} {a : Act} {K : Act → World → Prop} {E : Prop} (hgd : o.guard = none) (ty : TypeId) (x y : Operand)
    (ho : o.op = .store ty x y) (b : Nat) (c : Array Value) (hx : a.eval x = .pointer (some ⟨b, 0, none⟩)) (hy : a.eval y = .agg c)
    (t : TypeId) (old : Array Value) (hg : Ar w b t old) (hi : (P.info? ty).map (·.size) = some c.size) (hold : old.size = c.size) (h1 : c.all (·.oneCell') = true)
    (h : ∀ w', Ar w' b t c → Upd b w w' → K (a.put o.dst undef) w') : if Region.wanted o (yielded ops a.tmps) = true then Oper.wp P o a w K Q else E := by
  have hw : Region.wanted o (yielded ops a.tmps) = true := by simp [Region.wanted, hgd]
  rw [if_pos hw]
  exact wp_store_row ty x y ho b c hx hy t old hg hi hold h1 (h _ (setRow_heap w b old c t (0, 0) hg) (upd_setRow w b c))
end
/-- An entry's cells. -/
def etC19 (e : Dk.En) : Array Value := #[.string e.path, .string e.body, .int .i64 e.time, .int .i64 e.seq]
theorem sizeEt19 : (Tryz.prog.info? 48).map (·.size) = some 4 := by kernel_rfl
theorem ldEt19 {w : World} {b : Nat} {x0 x1 x2 x3 : Value} (h : Ar w b 48 #[x0, x1, x2, x3]) : (loadVar 48 ⟨b, 0, none⟩).run Tryz.prog w = .ok (.agg #[x0, x1, x2, x3]) w :=
  run_loadVar_row (P := Tryz.prog) w b 48 48 _ (0, 0) _ h Tryz.underlying48 rfl sizeEt19
theorem fmt19 {t : Int} {l : Fs.T8} (hl : Dt.Dated t l) : Fs.fmt t = l := by
  unfold Fs.fmt
  exact Dt.fmtC_of hl

set_option maxHeartbeats 2000000 in
set_option maxRecDepth 20000 in
theorem cstamps19 (p y : ByteArray) (t q : Int) (he : EN19 ⟨p, y, t, q⟩) (w : World) (hT : TB19 w) :
    Calls Tryz.prog 30 #[.agg #[.string y, .int .i64 t, .int .i64 q]] w fun e w' => (∃ vo vc, e = .returned (.slice vo 2 vc) ∧ w'.ownsRow w.heap.size 42 2 (.slice vo 2 vc) 2 (fC [Fs.fd Fs.nET (Tg.mk q y.size), Fs.fd Fs.nLM (Fs.fmt t)])) ∧ Below w.heap.size w w' := by
  obtain ⟨hy, t0, t1, q0, q1⟩ := he
  simp only at hy t0 t1 q0 q1
  obtain ⟨l, hl⟩ := Dt.dated_ex t t0 t1
  rw [fmt19 hl]
  have HF := hid' (fun W (h : TB19 W) => format_any t l hl W h.1)
  have HM : Hid (∀ W, TB19 W → Calls Tryz.prog 49 #[.agg #[.string y, .int .i64 t, .int .i64 q]] W fun e w' => e = .returned (.string ⟨(Tg.mk q y.size).toArray⟩) ∧ Below W.heap.size W w') := hid' (fun W h => cmake15 y t q W (by omega) (by omega) q1 h.1)
  have HT := hid' hT
  generalize Tg.mk q y.size = m at *
  clear hy t0 t1 q0 q1 hl hT
  go_enter Tryz.func30, Tryz.ntmps30
  go_wp2_with (refine wpl_box 31 _ rfl rfl #[.string y, .int .i64 t, .int .i64 q] (by kernel_rfl) ?_)
  intro xb w1 hg1 ha1 hb1
  have HX1 := hid' ha1
  have HB1 := hid' hb1
  have x1 := HX1.out.cell 1 _ rfl
  clear hg1 ha1 hb1
  go_wp2_with fail
  refine (HF.out w1 (tb_below19 HT.out HB1.out)).mono ?_
  rintro e w2 ⟨rfl, hb2⟩
  have HX2 := hid' (HX1.out.keep hb2)
  have HB2 := hid' (below_two HB1.out hb2)
  have x0 := HX2.out.cell 0 _ rfl
  have x2 := HX2.out.cell 2 _ rfl
  have x1' := HX2.out.cell 1 _ rfl
  clear hb2 HX1 HB1 x1
  go_wp2_with fail
  refine (HM.out w2 (tb_below19 HT.out HB2.out)).mono ?_
  rintro e w3 ⟨rfl, hb3⟩
  have HB3 := hid' (below_two HB2.out hb3)
  clear hb3 HB2 HX2 x0 x1' x2
  have HL : Hid ((w3.alloc (.cells (fC [Fs.fd Fs.nET m, Fs.fd Fs.nLM l]).toArray 42)).ownsRow w.heap.size 42 2 (.slice (some ⟨w3.heap.size, 0, none⟩) 2 2) 2 (fC [Fs.fd Fs.nET m, Fs.fd Fs.nLM l])) := hid' (own_lit19 w3 _ _ 2 2 rfl (by decide) _ HB3.out.size)
  have HB4 := hid' (below_two HB3.out (bl_alloc19 w3 (.cells (fC [Fs.fd Fs.nET m, Fs.fd Fs.nLM l]).toArray 42)))
  go_wp2
  go_ret
  exact ⟨⟨_, _, rfl, HL.out⟩, HB4.out⟩

set_option maxHeartbeats 4000000 in
set_option maxRecDepth 20000 in
theorem cheads19 (p y : ByteArray) (t q : Int) (he : EN19 ⟨p, y, t, q⟩) (kd : ByteArray) (w : World) (hT : TB19 w) :
    Calls Tryz.prog 56 #[.agg #[.string p, .string y, .int .i64 t, .int .i64 q], .string kd] w fun e w' => (∃ vo vc, e = .returned (.slice vo 4 vc) ∧ w'.ownsRow w.heap.size 42 2 (.slice vo 4 vc) 4 (fC (Fs.head kd.data.toList ⟨p, y, t, q⟩))) ∧ Below w.heap.size w w' := by
  have HS := hid' (fun W (h : TB19 W) => cstamps19 p y t q he W h)
  have HT := hid' hT
  have hkd : Fs.fd Fs.nCT kd.data.toList = ⟨Fs.str Fs.nCT, kd⟩ := rfl
  unfold Fs.head
  rw [hkd]
  simp only
  generalize Tg.mk q y.size = m at *
  generalize Fs.fmt t = l at *
  clear hT he hkd
  go_enter Tryz.func56, Tryz.ntmps56
  go_wp2_with (refine wpl_box 48 _ rfl rfl #[.string p, .string y, .int .i64 t, .int .i64 q] (by kernel_rfl) ?_)
  intro xb w1 hg1 ha1 hb1
  have HX1 := hid' ha1
  have HB1 := hid' hb1
  have HO0 : Hid ((w1.alloc (.cells (fC [⟨Fs.str Fs.nCT, kd⟩]).toArray 42)).ownsRow w1.heap.size 42 2 (.slice (some ⟨w1.heap.size, 0, none⟩) 1 1) 1 (fC [⟨Fs.str Fs.nCT, kd⟩])) := hid' (own_lit19 w1 _ _ 1 2 rfl (by decide) _ (Nat.le_refl _))
  have HB2 := hid' (bl_alloc19 w1 (.cells (fC [⟨Fs.str Fs.nCT, kd⟩]).toArray 42))
  have HX2 := hid' (HX1.out.keep HB2.out)
  have HLB : Hid (w.heap.size ≤ w1.heap.size) := hid' HB1.out.size
  clear hg1 ha1 hb1
  go_upto_region 2 with fail
  obtain ⟨w2, hw2⟩ : ∃ w2, w1.alloc (.cells (fC [⟨Fs.str Fs.nCT, kd⟩]).toArray 42) = w2 := ⟨_, rfl⟩
  obtain ⟨fb, hfb⟩ : ∃ fb, w1.heap.size = fb := ⟨_, rfl⟩
  rw [hw2, hfb] at HO0
  rw [hw2] at HB2 HX2
  rw [show w1.alloc (.cells #[.string ⟨#[99, 111, 110, 116, 101, 110, 116, 45, 116, 121, 112, 101]⟩, .string kd] 42) = w2 from hw2, hfb]
  have HFB : Hid (w1.heap.size = fb) := hid' hfb
  clear hw2 hfb
  have x1 := HX2.out.cell 1 _ rfl
  have x2 := HX2.out.cell 2 _ rfl
  have x3 := HX2.out.cell 3 _ rfl
  go_wp2_with fail
  refine (HS.out w2 (tb_below19 (tb_below19 HT.out HB1.out) HB2.out)).mono ?_
  rintro e w3 ⟨⟨so, sc, rfl, hfs⟩, hb3⟩
  have HF3 := hid' (fw_own19 hfs rfl)
  have HO3 := hid' (own_same HO0.out (fun j hj => hb3.block j (own_lt HO0.out j hj)))
  have HB3 := hid' (below_two HB2.out hb3)
  have HBF : Hid (fb ≤ w3.heap.size) := hid' (by have := HB3.out.size; rw [← HFB.out]; exact this)
  clear hfs hb3 HO0 HB2 HX2 x1 x2 x3
  go_wp2_with (at_builtin; refine wpl_appL19 rfl _ _ rfl fb (.slice (some ⟨fb, 0, none⟩) 1 1) 1 (fC [⟨Fs.str Fs.nCT, kd⟩]) rfl HO3.out _ [Fs.fd Fs.nET m, Fs.fd Fs.nLM l] rfl HF3.out (by simp) HBF.out ?_; intro v4 w4 hown4 hgrow4; refine Hid.out ?_)
  refine hid' ?_
  have HB4 : Hid (Below w1.heap.size w1 w4) := hid' (below_grown19 HB3.out HB3.out.size (by rw [HFB.out]; exact HO3.out) hgrow4)
  rw [← fC_append] at hown4
  obtain ⟨v4o, v4c, hv4⟩ := own_shape hown4
  subst hv4
  have HO4 : Hid (w4.ownsRow fb 42 2 (.slice v4o 3 v4c) 3 (fC [⟨Fs.str Fs.nCT, kd⟩, Fs.fd Fs.nET m, Fs.fd Fs.nLM l])) := hid' hown4
  have HL : Hid (FW (w4.alloc (.cells (fC [Fs.fd Fs.nAR Fs.vBY]).toArray 42)) (.slice (some ⟨w4.heap.size, 0, none⟩) 1 1) [Fs.fd Fs.nAR Fs.vBY]) := hid' (fw_lit19 w4 _ 1 rfl (by decide))
  have HB5 := hid' (bl_alloc19 w4 (.cells (fC [Fs.fd Fs.nAR Fs.vBY]).toArray 42))
  have HO5 := hid' (own_same HO4.out (fun j hj => HB5.out.block j (own_lt HO4.out j hj)))
  have HBF5 : Hid (fb ≤ (w4.alloc (.cells (fC [Fs.fd Fs.nAR Fs.vBY]).toArray 42)).heap.size) := hid' (by have h1 := HB4.out.size; have h2 := HB5.out.size; have h3 := HFB.out; omega)
  clear hown4 hgrow4
  go_wp2_with (at_builtin; refine wpl_appL19 rfl _ _ rfl fb (.slice v4o 3 v4c) 3 (fC [⟨Fs.str Fs.nCT, kd⟩, Fs.fd Fs.nET m, Fs.fd Fs.nLM l]) rfl HO5.out _ [Fs.fd Fs.nAR Fs.vBY] rfl HL.out (by simp) HBF5.out ?_; intro v6 w6 hown6 hgrow6; refine Hid.out ?_)
  refine hid' ?_
  have HB6 : Hid (Below w1.heap.size w1 w6) := hid' (below_grown19 (below_two HB4.out HB5.out) (below_two HB4.out HB5.out).size (by rw [HFB.out]; exact HO5.out) hgrow6)
  rw [← fC_append] at hown6
  obtain ⟨v6o, v6c, hv6⟩ := own_shape hown6
  subst hv6
  have HO6 : Hid (w6.ownsRow fb 42 2 (.slice v6o 4 v6c) 4 (fC [⟨Fs.str Fs.nCT, kd⟩, Fs.fd Fs.nET m, Fs.fd Fs.nLM l, Fs.fd Fs.nAR Fs.vBY])) := hid' hown6
  clear hown6 hgrow6
  go_wp2
  go_ret
  exact ⟨⟨_, _, rfl, own_base19 HO6.out (by rw [← HFB.out]; exact HLB.out)⟩, below_two HB1.out HB6.out⟩

end Go.Proofs.YtgbnelglhkfdfaaGreatDoor

namespace Go.Proofs.YtgbnelglhkfdfaaGreatDoor
open Go.RowKit

theorem head_len19 (kd : Fs.T8) (e : Dk.En) : (Fs.head kd e).length = 4 := rfl

set_option maxHeartbeats 4000000 in
set_option maxRecDepth 20000 in
theorem cwhole19 (p y : ByteArray) (t q : Int) (he : EN19 ⟨p, y, t, q⟩) (hp : p.size ≤ 140737488355328) (w : World) (hT : TB19 w) :
    Calls Tryz.prog 33 #[.agg #[.string p, .string y, .int .i64 t, .int .i64 q]] w fun e w' => RP19 w w' e (Fs.whole (Fs.kind p.data.toList) ⟨p, y, t, q⟩) := by
  have HT := hid' hT
  have HK := hid' (fun W => ckind19 p _ rfl hp W)
  obtain ⟨kd, hkd⟩ : ∃ kd : ByteArray, ⟨(Fs.kind p.data.toList).toArray⟩ = kd := ⟨_, rfl⟩
  have hkl : Fs.kind p.data.toList = kd.data.toList := by rw [← hkd]
  rw [hkd] at HK
  have HH := hid' (fun W (h : TB19 W) => cheads19 p y t q he kd W h)
  unfold RP19 Fs.whole
  rw [hkl]
  have HL := hid' (head_len19 kd.data.toList ⟨p, y, t, q⟩)
  generalize Fs.head kd.data.toList ⟨p, y, t, q⟩ = fs at *
  simp only
  rw [show (⟨y.data.toList.toArray⟩ : ByteArray) = y from rfl]
  unfold rpC
  clear hT he hp hkd hkl
  go_enter Tryz.func33, Tryz.ntmps33
  go_wp2_with (refine wpl_box 48 _ rfl rfl #[.string p, .string y, .int .i64 t, .int .i64 q] (by kernel_rfl) ?_)
  intro xb w1 hg1 ha1 hb1
  have HX1 := hid' ha1
  have HB1 := hid' hb1
  clear hg1 ha1 hb1
  go_wp2_with (refine wpl_alloc 24 rfl rfl _ zeroRp19 ?_)
  intro rb w2 hrb ha2 hl2
  have HA2 := hid' ha2
  have HB2 := hid' hl2
  have HRB := hid' hrb
  have HRL := hid' ha2.lt
  clear hrb ha2 hl2
  go_upto_region 1 with fail
  refine wp_region_held_drew (S := fun W => Below w1.heap.size w1 W) (by kernel_rfl) (HB2.out.drew) (fun hHeld => ?_)
  refine take_d19 (i := 0) (d := some 3) (v := ?_) rfl rfl (by kernel_rfl) (by kernel_rfl) (by kernel_rfl) (fun _ _ _ h => h) (Or.inl ⟨by rfl, ?_⟩) (by assumption) ?_
  rotate_left
  · intro w hSw
    (try dsimp only at hSw)
    have ha := HX1.out.keep hSw
    have c0 := ha.cell 0 _ rfl
    have c1 := ha.cell 1 _ rfl
    have c2 := ha.cell 2 _ rfl
    have c3 := ha.cell 3 _ rfl
    go_simp
    try with_reducible rfl
  try simp only [Act.put, List.setIfInBounds_toArray, List.set_cons_zero, List.set_cons_succ]
  refine take_d19 (i := 1) (d := some 4) (v := ?_) rfl rfl (by kernel_rfl) (by kernel_rfl) (by kernel_rfl) (fun _ _ _ h => h) (Or.inl ⟨by rfl, ?_⟩) (by assumption) ?_
  rotate_left
  · intro w hSw
    (try dsimp only at hSw)
    have ha := HX1.out.keep hSw
    have c0 := ha.cell 0 _ rfl
    have c1 := ha.cell 1 _ rfl
    have c2 := ha.cell 2 _ rfl
    have c3 := ha.cell 3 _ rfl
    go_simp
    try with_reducible rfl
  try simp only [Act.put, List.setIfInBounds_toArray, List.set_cons_zero, List.set_cons_succ]
  refine take_d19 (i := 2) (d := some 5) (v := ?_) rfl rfl (by kernel_rfl) (by kernel_rfl) (by kernel_rfl) (fun _ _ _ h => h) (Or.inl ⟨by rfl, ?_⟩) (by assumption) ?_
  rotate_left
  · intro w hSw
    (try dsimp only at hSw)
    have ha := HX1.out.keep hSw
    have c0 := ha.cell 0 _ rfl
    have c1 := ha.cell 1 _ rfl
    have c2 := ha.cell 2 _ rfl
    have c3 := ha.cell 3 _ rfl
    go_simp
    try with_reducible rfl
  try simp only [Act.put, List.setIfInBounds_toArray, List.set_cons_zero, List.set_cons_succ]
  refine take_d19 (i := 5) (d := some 8) (v := ?_) rfl rfl (by kernel_rfl) (by kernel_rfl) (by kernel_rfl) (fun _ _ _ h => h) (Or.inl ⟨by rfl, ?_⟩) (by assumption) ?_
  rotate_left
  · intro w hSw
    (try dsimp only at hSw)
    have ha := HX1.out.keep hSw
    have c0 := ha.cell 0 _ rfl
    have c1 := ha.cell 1 _ rfl
    have c2 := ha.cell 2 _ rfl
    have c3 := ha.cell 3 _ rfl
    go_simp
    try with_reducible rfl
  try simp only [Act.put, List.setIfInBounds_toArray, List.set_cons_zero, List.set_cons_succ]
  refine take_d19 (i := 6) (d := some 9) (v := ?_) rfl rfl (by kernel_rfl) (by kernel_rfl) (by kernel_rfl) (fun _ _ _ h => h) (Or.inl ⟨by rfl, ?_⟩) (by assumption) ?_
  rotate_left
  · intro w hSw
    (try dsimp only at hSw)
    have ha := HX1.out.keep hSw
    have c0 := ha.cell 0 _ rfl
    have c1 := ha.cell 1 _ rfl
    have c2 := ha.cell 2 _ rfl
    have c3 := ha.cell 3 _ rfl
    go_simp
    try with_reducible rfl
  try simp only [Act.put, List.setIfInBounds_toArray, List.set_cons_zero, List.set_cons_succ]
  refine take_d19 (i := 7) (d := some 10) (v := ?_) rfl rfl (by kernel_rfl) (by kernel_rfl) (by kernel_rfl) (fun _ _ _ h => h) (Or.inl ⟨by rfl, ?_⟩) (by assumption) ?_
  rotate_left
  · intro w hSw
    (try dsimp only at hSw)
    have ha := HX1.out.keep hSw
    have c0 := ha.cell 0 _ rfl
    have c1 := ha.cell 1 _ rfl
    have c2 := ha.cell 2 _ rfl
    have c3 := ha.cell 3 _ rfl
    go_simp
    try with_reducible rfl
  try simp only [Act.put, List.setIfInBounds_toArray, List.set_cons_zero, List.set_cons_succ]
  refine wpAnyH_ready (rs := [3]) (by kernel_rfl) (by simp) ?_
  refine AllReadyH.cons rfl (fun K hK => ?_) AllReadyH.nil
  go_simp
  refine (HK.out _).mono ?_
  rintro e wA ⟨rfl, hbA⟩
  have HAA := hid' (Ar.keep (show Ar w2.drew rb _ _ from HA2.out) hbA)
  go_wp2_with fail
  refine hK.out _ _ (below_two hHeld hbA) (fun hHeld2 => ?_)
  clear hK K
  try simp only [Act.put, List.setIfInBounds_toArray, List.set_cons_zero, List.set_cons_succ]
  refine wpAnyH_ready (rs := [4]) (by kernel_rfl) (by simp) ?_
  refine AllReadyH.cons rfl (fun K hK => ?_) AllReadyH.nil
  go_simp
  refine (HH.out _ (tb_below19 (tb_below19 HT.out HB1.out) hHeld2)).mono ?_
  rintro e wC ⟨⟨vo, vc, rfl, hoC⟩, hbC⟩
  have HAC := hid' (HAA.out.keep hbC)
  have HOC := hid' hoC
  have HLA : Hid (rb < wA.heap.size) := hid' HAA.out.lt
  have HWA := hid' (below_two HB1.out hHeld2).size
  clear hoC
  go_wp2_with fail
  refine hK.out _ _ (below_two hHeld2 hbC) (fun hHeld3 => ?_)
  clear hK K
  try simp only [Act.put, List.setIfInBounds_toArray, List.set_cons_zero, List.set_cons_succ]
  refine take_d19 (i := 8) (d := some 11) (v := ?_) rfl rfl (by kernel_rfl) (by kernel_rfl) (by kernel_rfl) (fun _ _ _ h => h) (Or.inl ⟨by rfl, ?_⟩) (by assumption) ?_
  rotate_left
  · intro w hSw
    (try dsimp only at hSw)
    go_simp
    try with_reducible rfl
  try simp only [Act.put, List.setIfInBounds_toArray, List.set_cons_zero, List.set_cons_succ]
  refine wpAnyH_ready (rs := [9]) (by kernel_rfl) (by simp) ?_
  refine AllReadyH.cons rfl (fun K hK => ?_) AllReadyH.nil
  refine step_store19 rfl 24 _ _ rfl rb #[.int .i64 200, .slice vo 4 vc, .string y, .slice none 0 0] rfl rfl 24 _ (HAC.out) sizeRp19 rfl (by simp [Value.oneCell']) ?_
  intro wf hawf huwf
  refine hK.out _ _ (hHeld3.trans (huwf.below HRB.out)) (fun _ => ?_)
  clear hK K
  try simp only [Act.put]
  refine wpAnyH_done (by kernel_rfl) ?_ _
  have HWF := hid' hawf
  have HUF := hid' huwf
  have HBF := hid' ((below_two HB1.out hHeld3).trans (huwf.below (Nat.le_trans HB1.out.size HRB.out)))
  clear hawf huwf hbA hbC hHeld hHeld2 hHeld3
  go_wp2_with fail
  have hld := ldRp19 HWF.out
  exact bodyPost_ret (v := .agg #[.int .i64 200, .slice vo 4 vc, .string y, .slice none 0 0]) (by simp [results, Tryz.results33, asAddr, hld]) rfl ⟨⟨vo, 4, vc, rfl, HL.out, own_upd19 HOC.out HUF.out HLA.out HWA.out⟩, HBF.out⟩

end Go.Proofs.YtgbnelglhkfdfaaGreatDoor

namespace Go.Proofs.YtgbnelglhkfdfaaGreatDoor
open Go.RowKit

theorem sizeRn19 : (Tryz.prog.info? 96).map (·.size) = some 2 := by kernel_rfl
theorem cut19 (y : ByteArray) (A D : Nat) : (⟨((y.data.toList.take D).drop A).toArray⟩ : ByteArray) = y.extract A D := by
  apply ByteArray.ext
  rw [ByteArray.data_extract]
  apply Array.toList_inj.1
  rw [Array.toList_extract, List.extract_eq_take_drop, List.drop_take]
theorem two19 (w : World) (T : TypeId) (x0 x1 : Value) : ∀ j v, [x0, x1][j]? = some v → (w.alloc (.cells #[x0, x1] T)).cell? ((⟨w.heap.size, 0, none⟩ : Addr).add j) = some v := two_new w T x0 x1

set_option maxHeartbeats 8000000 in
set_option maxRecDepth 20000 in
theorem csingle19 (p y : ByteArray) (t q : Int) (he : EN19 ⟨p, y, t, q⟩) (hp : p.size ≤ 140737488355328) (A C : Nat) (hac : A ≤ C) (hc : C < y.size) (w : World) (hT : TB19 w) :
    Calls Tryz.prog 54 #[.agg #[.string p, .string y, .int .i64 t, .int .i64 q], .agg #[.int .i64 (A : Int), .int .i64 (C : Int)]] w fun e w' => RP19 w w' e (Fs.one (Fs.kind p.data.toList) ⟨p, y, t, q⟩ ⟨(A : Int), (C : Int)⟩) := by
  have hy := he.b
  simp only at hy
  have HT := hid' hT
  have HK := hid' (fun W => ckind19 p _ rfl hp W)
  obtain ⟨kd, hkd⟩ : ∃ kd : ByteArray, ⟨(Fs.kind p.data.toList).toArray⟩ = kd := ⟨_, rfl⟩
  have hkl : Fs.kind p.data.toList = kd.data.toList := by rw [← hkd]
  rw [hkd] at HK
  have HH := hid' (fun W (h : TB19 W) => cheads19 p y t q he kd W h)
  have HTD := hid' (fun W (h : TB19 W) => ctold16 ⟨(A : Int), (C : Int)⟩ (y.size : Int) W (by simp only; omega) (by simp only; omega) (by simp only; omega) (by simp only; omega) (by omega) (by omega) h)
  unfold RP19 Fs.one
  rw [hkl]
  have HL := hid' (head_len19 kd.data.toList ⟨p, y, t, q⟩)
  generalize Fs.head kd.data.toList ⟨p, y, t, q⟩ = fs at *
  simp only at HTD ⊢
  obtain ⟨D, hD⟩ : ∃ D : Nat, C + 1 = D := ⟨_, rfl⟩
  have hcu : (⟨((y.data.toList.take ((C : Int) + 1).toNat).drop ((A : Int)).toNat).toArray⟩ : ByteArray) = y.extract A D := by
    rw [show ((C : Int) + 1).toNat = D by omega, show ((A : Int)).toNat = A by omega]
    exact cut19 y A D
  rw [hcu]
  obtain ⟨td, htd⟩ : ∃ td : ByteArray, ⟨(Rg.told ⟨(A : Int), (C : Int)⟩ (y.size : Int)).toArray⟩ = td := ⟨_, rfl⟩
  rw [show Fs.fd Fs.nCR (Rg.told ⟨(A : Int), (C : Int)⟩ (y.size : Int)) = ⟨Fs.str Fs.nCR, td⟩ by rw [← htd]; rfl]
  rw [htd] at HTD
  have hwr : IntKind.i64.wrap ((C : Int) + 1) = (D : Int) := by rw [wrp _ (by omega) (by omega)]; omega
  have had : A ≤ D := by omega
  have hdy : D ≤ y.size := by omega
  have had2 : (A : Int) ≤ (D : Int) := by omega
  have hdy2 : (D : Int) ≤ (y.size : Int) := by omega
  unfold rpC
  clear hT he hp hkd hkl hcu htd hac hc hD
  obtain ⟨i0, hi0, hz0, hz1, hz2⟩ := minfo_parts infoF14
  have HI := hid' hi0
  have HZ0 := hid' hz0
  have HZ1 := hid' hz1
  have HZ2 := hid' hz2
  have HY := hid' hy
  clear hi0 hz0 hz1 hz2 hy
  go_enter Tryz.func54, Tryz.ntmps54
  go_wp2_with (refine wpl_box 48 _ rfl rfl #[.string p, .string y, .int .i64 t, .int .i64 q] (by kernel_rfl) ?_)
  intro xb w1 hg1 ha1 hb1
  have HX1 := hid' ha1
  have HB1 := hid' hb1
  clear hg1 ha1 hb1
  go_wp2_with (refine wpl_box 96 _ rfl rfl #[.int .i64 (A : Int), .int .i64 (C : Int)] (by kernel_rfl) ?_)
  intro zb w2 hg2 ha2 hb2
  have HX2 := hid' (HX1.out.keep hb2)
  have HZ := hid' ha2
  have HB2 := hid' (below_two HB1.out hb2)
  clear hg2 ha2 hb2 HX1 HB1
  go_wp2_with (refine wpl_alloc 24 rfl rfl _ zeroRp19 ?_)
  intro rb w3 hrb ha3 hl3
  have HA3 := hid' ha3
  have HB3 := hid' hl3
  have HRB := hid' hrb
  have HRL := hid' ha3.lt
  have x1 := (HX2.out.keep hl3).cell 1 _ rfl
  clear hrb ha3 hl3
  go_upto_region 2 with fail
  clear x1
  refine wp_region_held_drew (S := fun W => Below w2.heap.size w2 W) (by kernel_rfl) (HB3.out.drew) (fun hHeld => ?_)
  refine take_d19 (i := 0) (d := some 10) (v := ?_) rfl rfl (by kernel_rfl) (by kernel_rfl) (by kernel_rfl) (fun _ _ _ h => h) (Or.inl ⟨by rfl, ?_⟩) (by assumption) ?_
  rotate_left
  · intro w hSw
    (try dsimp only at hSw)
    have ha := HX2.out.keep hSw
    have c0 := ha.cell 0 _ rfl
    have c1 := ha.cell 1 _ rfl
    have c2 := ha.cell 2 _ rfl
    have c3 := ha.cell 3 _ rfl
    go_simp
    try with_reducible rfl
  try simp only [Act.put, List.setIfInBounds_toArray, List.set_cons_zero, List.set_cons_succ]
  refine take_d19 (i := 1) (d := some 11) (v := ?_) rfl rfl (by kernel_rfl) (by kernel_rfl) (by kernel_rfl) (fun _ _ _ h => h) (Or.inl ⟨by rfl, ?_⟩) (by assumption) ?_
  rotate_left
  · intro w hSw
    (try dsimp only at hSw)
    have ha := HX2.out.keep hSw
    have c0 := ha.cell 0 _ rfl
    have c1 := ha.cell 1 _ rfl
    have c2 := ha.cell 2 _ rfl
    have c3 := ha.cell 3 _ rfl
    go_simp
    try with_reducible rfl
  try simp only [Act.put, List.setIfInBounds_toArray, List.set_cons_zero, List.set_cons_succ]
  refine take_d19 (i := 2) (d := some 12) (v := ?_) rfl rfl (by kernel_rfl) (by kernel_rfl) (by kernel_rfl) (fun _ _ _ h => h) (Or.inl ⟨by rfl, ?_⟩) (by assumption) ?_
  rotate_left
  · intro w hSw
    (try dsimp only at hSw)
    have ha := HX2.out.keep hSw
    have c0 := ha.cell 0 _ rfl
    have c1 := ha.cell 1 _ rfl
    have c2 := ha.cell 2 _ rfl
    have c3 := ha.cell 3 _ rfl
    go_simp
    try with_reducible rfl
  try simp only [Act.put, List.setIfInBounds_toArray, List.set_cons_zero, List.set_cons_succ]
  refine wpAnyH_ready (rs := [3]) (by kernel_rfl) (by simp) ?_
  refine AllReadyH.cons rfl (fun K hK => ?_) AllReadyH.nil
  go_simp
  refine (HK.out _).mono ?_
  rintro e wA ⟨rfl, hbA⟩
  have HAA := hid' (Ar.keep (show Ar w3.drew rb _ _ from HA3.out) hbA)
  go_wp2_with fail
  refine hK.out _ _ (below_two hHeld hbA) (fun hHeld2 => ?_)
  clear hK K
  try simp only [Act.put, List.setIfInBounds_toArray, List.set_cons_zero, List.set_cons_succ]
  refine wpAnyH_ready (rs := [4]) (by kernel_rfl) (by simp) ?_
  refine AllReadyH.cons rfl (fun K hK => ?_) AllReadyH.nil
  go_simp
  refine (HH.out _ (tb_below19 (tb_below19 HT.out HB2.out) hHeld2)).mono ?_
  rintro e wC ⟨⟨vo, vc, rfl, hoC⟩, hbC⟩
  have HAC := hid' (HAA.out.keep hbC)
  have HOC := hid' hoC
  have HLA : Hid (rb < wA.heap.size) := hid' HAA.out.lt
  have HWA := hid' (below_two HB2.out hHeld2).size
  have HBC := hid' (below_two hHeld2 hbC)
  have HLC := hid' hbC.size
  have hHA := hid' hHeld2.size
  clear hoC
  go_wp2_with fail
  refine hK.out _ _ (below_two hHeld2 hbC) (fun hHeld3 => ?_)
  clear hK K
  try simp only [Act.put, List.setIfInBounds_toArray, List.set_cons_zero, List.set_cons_succ]
  refine take_d19 (i := 5) (d := some 6) (v := ?_) rfl rfl (by kernel_rfl) (by kernel_rfl) (by kernel_rfl) (fun _ _ _ h => h) (Or.inl ⟨by rfl, ?_⟩) (by assumption) ?_
  rotate_left
  · intro w hSw
    (try dsimp only at hSw)
    go_simp
    try with_reducible rfl
  try simp only [Act.put, List.setIfInBounds_toArray, List.set_cons_zero, List.set_cons_succ]
  try simp only [Act.put]
  refine wpAnyH_done (by kernel_rfl) ?_ _
  clear hHeld hHeld2 hHeld3 hbA hbC
  go_upto_region 3 with fail
  refine wp_region_held_drew (S := fun W => Below w2.heap.size w2 W) (by kernel_rfl) (HBC.out.drew) (fun hG => ?_)
  refine take_d19 (i := 0) (d := some 15) (v := ?_) rfl rfl (by kernel_rfl) (by kernel_rfl) (by kernel_rfl) (fun _ _ _ h => h) (Or.inl ⟨by rfl, ?_⟩) (by assumption) ?_
  rotate_left
  · intro w hSw
    (try dsimp only at hSw)
    go_simp
    try with_reducible rfl
  try simp only [Act.put, List.setIfInBounds_toArray, List.set_cons_zero, List.set_cons_succ]
  refine take_d19 (i := 1) (d := some 16) (v := ?_) rfl rfl (by kernel_rfl) (by kernel_rfl) (by kernel_rfl) (fun _ _ _ h => h) (Or.inl ⟨by rfl, ?_⟩) (by assumption) ?_
  rotate_left
  · intro w hSw
    (try dsimp only at hSw)
    have ha := HZ.out.keep hSw
    have c0 := ha.cell 0 _ rfl
    have c1 := ha.cell 1 _ rfl
    go_simp
    try with_reducible rfl
  try simp only [Act.put, List.setIfInBounds_toArray, List.set_cons_zero, List.set_cons_succ]
  refine take_d19 (i := 2) (d := some 17) (v := ?_) rfl rfl (by kernel_rfl) (by kernel_rfl) (by kernel_rfl) (fun _ _ _ h => h) (Or.inl ⟨by rfl, ?_⟩) (by assumption) ?_
  rotate_left
  · intro w hSw
    (try dsimp only at hSw)
    go_simp
    try with_reducible rfl
  try simp only [Act.put, List.setIfInBounds_toArray, List.set_cons_zero, List.set_cons_succ]
  refine take_d19 (i := 3) (d := some 18) (v := ?_) rfl rfl (by kernel_rfl) (by kernel_rfl) (by kernel_rfl) (fun _ _ _ h => h) (Or.inl ⟨by rfl, ?_⟩) (by assumption) ?_
  rotate_left
  · intro w hSw
    (try dsimp only at hSw)
    go_simp
    try with_reducible rfl
  try simp only [Act.put, List.setIfInBounds_toArray, List.set_cons_zero, List.set_cons_succ]
  refine take_d19 (i := 8) (d := some 23) (v := ?_) rfl rfl (by kernel_rfl) (by kernel_rfl) (by kernel_rfl) (fun _ _ _ h => h) (Or.inl ⟨by rfl, ?_⟩) (by assumption) ?_
  rotate_left
  · intro w hSw
    (try dsimp only at hSw)
    go_simp
    try with_reducible rfl
  try simp only [Act.put, List.setIfInBounds_toArray, List.set_cons_zero, List.set_cons_succ]
  refine take_d19 (i := 9) (d := some 24) (v := ?_) rfl rfl (by kernel_rfl) (by kernel_rfl) (by kernel_rfl) (fun _ _ _ h => h) (Or.inl ⟨by rfl, ?_⟩) (by assumption) ?_
  rotate_left
  · intro w hSw
    (try dsimp only at hSw)
    go_simp
    try with_reducible rfl
  try simp only [Act.put, List.setIfInBounds_toArray, List.set_cons_zero, List.set_cons_succ]
  refine take_d19 (i := 10) (d := some 25) (v := ?_) rfl rfl (by kernel_rfl) (by kernel_rfl) (by kernel_rfl) (fun _ _ _ h => h) (Or.inl ⟨by rfl, ?_⟩) (by assumption) ?_
  rotate_left
  · intro w hSw
    (try dsimp only at hSw)
    have ha := HZ.out.keep hSw
    have c0 := ha.cell 0 _ rfl
    have c1 := ha.cell 1 _ rfl
    go_simp
    try with_reducible rfl
  try simp only [Act.put, List.setIfInBounds_toArray, List.set_cons_zero, List.set_cons_succ]
  refine take_d19 (i := 11) (d := some 26) (v := ?_) rfl rfl (by kernel_rfl) (by kernel_rfl) (by kernel_rfl) (fun _ _ _ h => h) (Or.inl ⟨by rfl, ?_⟩) (by assumption) ?_
  rotate_left
  · intro w hSw
    (try dsimp only at hSw)
    go_simp
    try with_reducible rfl
  try simp only [Act.put, List.setIfInBounds_toArray, List.set_cons_zero, List.set_cons_succ]
  refine take_d19 (i := 12) (d := some 27) (v := ?_) rfl rfl (by kernel_rfl) (by kernel_rfl) (by kernel_rfl) (fun _ _ _ h => h) (Or.inl ⟨by rfl, ?_⟩) (by assumption) ?_
  rotate_left
  · intro w hSw
    (try dsimp only at hSw)
    have ha := HZ.out.keep hSw
    have c0 := ha.cell 0 _ rfl
    have c1 := ha.cell 1 _ rfl
    go_simp
    try with_reducible rfl
  try simp only [Act.put, List.setIfInBounds_toArray, List.set_cons_zero, List.set_cons_succ]
  refine take_d19 (i := 13) (d := some 28) (v := ?_) rfl rfl (by kernel_rfl) (by kernel_rfl) (by kernel_rfl) (fun _ _ _ h => h) (Or.inl ⟨by rfl, ?_⟩) (by assumption) ?_
  rotate_left
  · intro w hSw
    (try dsimp only at hSw)
    go_simp
    try with_reducible rfl
  try simp only [Act.put, List.setIfInBounds_toArray, List.set_cons_zero, List.set_cons_succ]
  refine take_d19 (i := 14) (d := some 29) (v := ?_) rfl rfl (by kernel_rfl) (by kernel_rfl) (by kernel_rfl) (fun _ _ _ h => h) (Or.inl ⟨by rfl, ?_⟩) (by assumption) ?_
  rotate_left
  · intro w hSw
    (try dsimp only at hSw)
    go_simp
    try with_reducible rfl
  try simp only [Act.put, List.setIfInBounds_toArray, List.set_cons_zero, List.set_cons_succ]
  refine wpAnyH_ready (rs := [4]) (by kernel_rfl) (by simp) ?_
  refine AllReadyH.cons rfl (fun K hK => ?_) AllReadyH.nil
  go_simp
  refine (HTD.out _ (tb_below19 (tb_below19 HT.out HB2.out) hG)).mono ?_
  rintro e wE ⟨rfl, hbE⟩
  have HAE := hid' (Ar.keep (show Ar wC.drew rb _ _ from HAC.out) hbE)
  have HOE := hid' (own_same (show wC.drew.ownsRow _ _ _ _ _ _ from HOC.out) (fun j hj => hbE.block j (own_lt HOC.out j hj)))
  go_wp2_with fail
  refine hK.out _ _ (below_two hG hbE) (fun hG2 => ?_)
  clear hK K
  try simp only [Act.put, List.setIfInBounds_toArray, List.set_cons_zero, List.set_cons_succ]
  refine wpAnyH_ready (rs := [5]) (by kernel_rfl) (by simp) ?_
  refine AllReadyH.cons rfl (fun K hK => ?_) AllReadyH.nil
  go_simp
  refine (ctoldF19 td _).mono ?_
  rintro e wF ⟨rfl, hbF⟩
  have HAF := hid' (HAE.out.keep hbF)
  have HOF := hid' (own_same HOE.out (fun j hj => hbF.block j (own_lt HOE.out j hj)))
  go_wp2_with fail
  refine hK.out _ _ (below_two hG2 hbF) (fun hG3 => ?_)
  clear hK K
  try simp only [Act.put, List.setIfInBounds_toArray, List.set_cons_zero, List.set_cons_succ]
  refine wpAnyH_ready (rs := [6]) (by kernel_rfl) (by simp) ?_
  refine AllReadyH.cons rfl (fun K hK => ?_) AllReadyH.nil
  refine step_lit19 rfl (some 21) rfl 42 1 #[.string ⟨#[99, 111, 110, 116, 101, 110, 116, 45, 114, 97, 110, 103, 101]⟩, .string td] (by go_simp) ?_
  have hbG := bl_alloc19 wF (.cells #[.string ⟨#[99, 111, 110, 116, 101, 110, 116, 45, 114, 97, 110, 103, 101]⟩, .string td] 42)
  have HAG := hid' (HAF.out.keep hbG)
  have HOG := hid' (own_same HOF.out (fun j hj => hbG.block j (own_lt HOF.out j hj)))
  have HN := hid' (two19 wF 42 (.string ⟨#[99, 111, 110, 116, 101, 110, 116, 45, 114, 97, 110, 103, 101]⟩) (.string td))
  refine hK.out _ _ (below_two hG3 hbG) (fun hG4 => ?_)
  clear hK K
  try simp only [Act.put, List.setIfInBounds_toArray, List.set_cons_zero, List.set_cons_succ]
  refine wpAnyH_ready (rs := [7]) (by kernel_rfl) (by simp) ?_
  refine AllReadyH.cons rfl (fun K hK => ?_) AllReadyH.nil
  refine step_app19 rfl (some 22) rfl _ _ 22 rfl wA.heap.size 42 i0 (.agg #[.string ⟨#[]⟩, .string ⟨#[]⟩]) 2 32 Tryz.underlying22 HI.out HZ0.out HZ1.out HZ2.out (by rfl) (by decide) (.slice vo 4 vc) 4 (fC fs) (by rfl) HOG.out ⟨wF.heap.size, 0, none⟩ 1 1 [.string ⟨#[99, 111, 110, 116, 101, 110, 116, 45, 114, 97, 110, 103, 101]⟩, .string td] (by rfl) rfl HN.out (by simp [Value.oneCell']) (by decide) (by decide) (Nat.le_trans HLC.out (Nat.le_trans hbE.size (Nat.le_trans hbF.size hbG.size))) ?_
  intro v6 w6 hown6 hgrow6
  have hbH : Below w2.heap.size w2 w6 := below_grown19 hG4 hG4.size (own_base19 HOG.out (Nat.le_trans hHA.out (Nat.le_refl _))) hgrow6
  obtain ⟨v6o, v6c, hv6⟩ := own_shape hown6
  subst hv6
  have HAH : Hid (Ar w6 rb 24 #[.int .i64 0, .slice none 0 0, .string ⟨#[]⟩, .slice none 0 0]) := hid' (ar_grown HAG.out hgrow6 (fun j hj => by have h1 := own_ge19 HOG.out j hj; have h2 := HLA.out; omega))
  have HOH : Hid (w6.ownsRow wA.heap.size 42 2 (.slice v6o 5 v6c) 5 (fC (fs ++ [⟨Fs.str Fs.nCR, td⟩]))) := hid' (by rw [fC_append]; exact hown6)
  refine hK.out _ _ hbH (fun hG5 => ?_)
  clear hK K hown6 hgrow6
  try simp only [Act.put, List.setIfInBounds_toArray, List.set_cons_zero, List.set_cons_succ]
  refine take_d19 (i := 15) (d := some 30) (v := ?_) rfl rfl (by kernel_rfl) (by kernel_rfl) (by kernel_rfl) (fun _ _ _ h => h) (Or.inl ⟨by rfl, ?_⟩) (by assumption) ?_
  rotate_left
  · intro w hSw
    (try dsimp only at hSw)
    go_simp
    try with_reducible rfl
  try simp only [Act.put, List.setIfInBounds_toArray, List.set_cons_zero, List.set_cons_succ]
  refine wpAnyH_ready (rs := [16]) (by kernel_rfl) (by simp) ?_
  refine AllReadyH.cons rfl (fun K hK => ?_) AllReadyH.nil
  refine step_store19 rfl 24 _ _ rfl rb #[.int .i64 206, .slice v6o 5 v6c, .string (y.extract A D), .slice none 0 0] rfl rfl 24 _ (HAH.out) sizeRp19 rfl (by simp [Value.oneCell']) ?_
  intro wf hawf huwf
  refine hK.out _ _ (hG5.trans (huwf.below HRB.out)) (fun _ => ?_)
  clear hK K
  try simp only [Act.put]
  refine wpAnyH_done (by kernel_rfl) ?_ _
  have HWF := hid' hawf
  have HUF := hid' huwf
  have HBF := hid' ((below_two HB2.out hG5).trans (huwf.below (Nat.le_trans HB2.out.size HRB.out)))
  have HL5 : Hid ((fs ++ ([⟨Fs.str Fs.nCR, td⟩] : List Fd)).length = 5) := hid' (by rw [List.length_append, HL.out]; rfl)
  clear hawf huwf hbE hbF hbG hG hG2 hG3 hG4 hG5 hbH
  go_wp2_with fail
  have hld := ldRp19 HWF.out
  exact bodyPost_ret (v := .agg #[.int .i64 206, .slice v6o 5 v6c, .string (y.extract A D), .slice none 0 0]) (by simp [results, Tryz.results54, asAddr, hld]) rfl ⟨⟨v6o, 5, v6c, rfl, HL5.out, own_upd19 HOH.out HUF.out HLA.out HWA.out⟩, HBF.out⟩

end Go.Proofs.YtgbnelglhkfdfaaGreatDoor

namespace Go.Proofs.YtgbnelglhkfdfaaGreatDoor
open Go.RowKit

set_option maxHeartbeats 4000000 in
set_option maxRecDepth 20000 in
theorem cseveral19 (p y : ByteArray) (t q : Int) (he : EN19 ⟨p, y, t, q⟩) (hp : p.size ≤ 140737488355328) (ro : Option Addr) (m rc : Nat) (rs : List Rg.Rn) (hm : rs.length = m) (hmb : m ≤ 1048576) (w : World) (hrs : RW16 w ro rs) (hT : TB19 w) :
    Calls Tryz.prog 55 #[.agg #[.string p, .string y, .int .i64 t, .int .i64 q], .slice ro m rc] w fun e w' => RP19 w w' e (Fs.sev (Fs.kind p.data.toList) ⟨p, y, t, q⟩ rs) := by
  have hy := he.b
  simp only at hy
  obtain ⟨ln, hln⟩ : ∃ ln : ByteArray, ⟨(Fs.line y.data.toList).toArray⟩ = ln := ⟨_, rfl⟩
  have hll : Fs.line y.data.toList = ln.data.toList := by rw [← hln]
  have hls : ln.size ≤ 25 := by
    rw [Lib.size_eq, ← hll]
    obtain ⟨q, hq, e⟩ := Fs.line_ex y.data.toList
    rw [e]
    exact Rg.line_len _ (Nat.lt_of_le_of_lt hq.2.2 (by have := Lib.size_eq y; omega))
  have HLN : Hid (∀ W, TB19 W → Calls Tryz.prog 84 #[.string y] W fun e w' => e = .returned (.string ln) ∧ Below W.heap.size W w') := hid' (fun W h => by
    obtain ⟨q, hq, e⟩ := Fs.line_ex y.data.toList
    have := cline16 y q hq W (by omega) h
    rw [← e, hln] at this
    exact this)
  have HT := hid' hT
  have HK := hid' (fun W => ckind19 p _ rfl hp W)
  obtain ⟨kd, hkd⟩ : ∃ kd : ByteArray, ⟨(Fs.kind p.data.toList).toArray⟩ = kd := ⟨_, rfl⟩
  have hkl : Fs.kind p.data.toList = kd.data.toList := by rw [← hkd]
  have hks : kd.size ≤ 24 := by rw [Lib.size_eq, ← hkl]; exact Fs.kind_le _
  rw [hkd] at HK
  have HP := hid' (fun W (h : TB19 W) (hr : RW16 W ro rs) => cparts16 y kd ln ro m rc rs hm hmb W hr (by omega) (by omega) (by omega) h)
  have HH := hid' (fun W (h : TB19 W) => cheads19 p y t q he (⟨#[109, 117, 108, 116, 105, 112, 97, 114, 116, 47, 98, 121, 116, 101, 114, 97, 110, 103, 101, 115, 59, 32, 98, 111, 117, 110, 100, 97, 114, 121, 61]⟩ ++ ln) W h)
  unfold RP19 Fs.sev
  rw [hll, hkl]
  have hmp : (⟨#[109, 117, 108, 116, 105, 112, 97, 114, 116, 47, 98, 121, 116, 101, 114, 97, 110, 103, 101, 115, 59, 32, 98, 111, 117, 110, 100, 97, 114, 121, 61]⟩ ++ ln : ByteArray).data.toList = Fs.vMP ++ ln.data.toList := by simp [ByteArray.data_append, Fs.vMP]
  rw [hmp] at HH
  have HL := hid' (head_len19 (Fs.vMP ++ ln.data.toList) ⟨p, y, t, q⟩)
  generalize Fs.head (Fs.vMP ++ ln.data.toList) ⟨p, y, t, q⟩ = fs at *
  simp only
  obtain ⟨pt, hpt⟩ : ∃ pt : ByteArray, ⟨(Rg.partsS y.data.toList kd.data.toList ln.data.toList rs).toArray⟩ = pt := ⟨_, rfl⟩
  rw [hpt] at HP ⊢
  generalize Rg.partsE y.data.toList rs = pe at *
  have hsum : 31 + ln.size ≤ 9223372036854775807 := by omega
  have HRS := hid' hrs
  unfold rpC
  clear hT he hp hkd hkl hln hll hpt hls hks hm hmb hmp hrs hy
  go_enter Tryz.func55, Tryz.ntmps55
  go_wp2_with (refine wpl_box 48 _ rfl rfl #[.string p, .string y, .int .i64 t, .int .i64 q] (by kernel_rfl) ?_)
  intro xb w1 hg1 ha1 hb1
  have HX1 := hid' ha1
  have HB1 := hid' hb1
  clear hg1 ha1 hb1
  go_wp2_with (refine wpl_alloc 24 rfl rfl _ zeroRp19 ?_)
  intro rb w2 hrb ha2 hl2
  have HA2 := hid' ha2
  have HB2 := hid' (below_two HB1.out hl2)
  have HRB : Hid (w.heap.size ≤ rb) := hid' (Nat.le_trans HB1.out.size hrb)
  have HX2 := hid' (HX1.out.keep hl2)
  have x1 := HX2.out.cell 1 _ rfl
  clear hrb ha2 hl2 HX1 HB1
  go_wp2_with fail
  refine (HLN.out w2 (tb_below19 HT.out HB2.out)).mono ?_
  rintro e w3 ⟨rfl, hb3⟩
  have HX3 := hid' (HX2.out.keep hb3)
  have HA3 := hid' (HA2.out.keep hb3)
  have HB3 := hid' (below_two HB2.out hb3)
  have x0 := HX3.out.cell 0 _ rfl
  clear hb3 x1 HX2 HA2 HB2
  go_wp2_with fail
  refine (HK.out w3).mono ?_
  rintro e w4 ⟨rfl, hb4⟩
  have HX4 := hid' (HX3.out.keep hb4)
  have HA4 := hid' (HA3.out.keep hb4)
  have HB4 := hid' (below_two HB3.out hb4)
  clear hb4 x0 HX3 HA3 HB3
  go_wp2_with fail
  refine (HP.out w4 (tb_below19 HT.out HB4.out) (HRS.out.below HB4.out)).mono ?_
  rintro e w5 ⟨rfl, hb5⟩
  have HX5 := hid' (HX4.out.keep hb5)
  have HA5 := hid' (HA4.out.keep hb5)
  have HB5 := hid' (below_two HB4.out hb5)
  have x0 := HX5.out.cell 0 _ rfl
  have x1 := HX5.out.cell 1 _ rfl
  have x2 := HX5.out.cell 2 _ rfl
  have x3 := HX5.out.cell 3 _ rfl
  clear hb5 HX4 HA4 HB4
  go_wp2_with fail
  refine (HH.out w5 (tb_below19 HT.out HB5.out)).mono ?_
  rintro e w6 ⟨⟨vo, vc, rfl, ho6⟩, hb6⟩
  have HO6 := hid' ho6
  have HA6 := hid' (HA5.out.keep hb6)
  have HB6 := hid' (below_two HB5.out hb6)
  have HLA := hid' HA5.out.lt
  have HW6 := hid' HB5.out.size
  clear hb6 ho6 x0 x1 x2 x3 HX5 HA5 HB5
  go_wp2_with (refine wpl_store 24 _ _ rfl rfl rb #[.int .i64 206, .slice vo 4 vc, .string pt, .slice none 0 0] (by kernel_rfl) (by kernel_rfl) _ _ HA6.out sizeRp19 rfl (by simp [Value.oneCell']) ?_)
  intro wf hwf huf
  go_wp2
  have hld := ldRp19 hwf
  exact bodyPost_ret (v := .agg #[.int .i64 206, .slice vo 4 vc, .string pt, .slice none 0 0]) (by simp [results, Tryz.results55, asAddr, hld]) rfl ⟨⟨vo, 4, vc, rfl, HL.out, own_upd19 HO6.out huf HLA.out HW6.out⟩, HB6.out.trans (huf.below HRB.out)⟩

namespace Fs
/-- The last of the values, so far. -/
def Lst (k : List T8) (x : ByteArray) : Prop := (k = [] ∧ x = ⟨#[]⟩) ∨ ∃ a, k = a ++ [x.data.toList]
theorem Lst.one {k : List T8} {x : ByteArray} (h : Lst k x) (hk : k.length = 1) : k = [x.data.toList] := by
  rcases h with ⟨rfl, _⟩ | ⟨a, rfl⟩
  · cases hk
  · rw [List.length_append, List.length_cons, List.length_nil] at hk
    rw [List.eq_nil_of_length_eq_zero (show a.length = 0 by omega)]
    rfl
end Fs
/-- What a request asks for: a list of ranges, or the whole file. -/
def AP19 (on : Bool) (vs : List Fs.T8) (e : Ending) : Prop :=
  ∃ (x : ByteArray) (b : Bool), e = .returned (.tuple #[.string x, .bool b]) ∧ x.size ≤ 1048576 ∧ ((b = true ∧ on = true ∧ vs = [x.data.toList]) ∨ (b = false ∧ (on = false ∨ vs.length ≠ 1)))
theorem ap19_no {on : Bool} {vs : List Fs.T8} {x : ByteArray} (hx : x.size ≤ 1048576) (h : on = false ∨ vs.length ≠ 1) : AP19 on vs (.returned (.tuple #[.string x, .bool false])) := ⟨x, false, rfl, hx, .inr ⟨rfl, h⟩⟩
theorem ap19_yes {vs : List Fs.T8} {x : ByteArray} (hx : x.size ≤ 1048576) (h : vs = [x.data.toList]) : AP19 true vs (.returned (.tuple #[.string x, .bool true])) := ⟨x, true, rfl, hx, .inl ⟨rfl, rfl, h⟩⟩
theorem vsz_le19 {l : List Fd} {f : Fd} (h : f ∈ l) : f.v.size ≤ Tg.vsz l := by
  unfold Tg.vsz
  induction l with
  | nil => cases h
  | cons a r ih =>
    rcases List.mem_cons.1 h with rfl | h
    · simp; omega
    · have := ih h; simp only [List.map_cons, List.sum_cons]; omega

set_option maxHeartbeats 4000000 in
set_option maxRecDepth 20000 in
theorem casked19 (mt : ByteArray) (bG : Bool) (g1 : (mt.toList == [71, 69, 84]) = bG) (v : Value) (l : List Fd) (p y : ByteArray) (t q : Int) (he : EN19 ⟨p, y, t, q⟩) (w : World) (h : FW w v l) (hl : l.length ≤ 1048576) (hz : Tg.vsz l ≤ 1048576) (hT : TB19 w) :
    Calls Tryz.prog 31 #[.string mt, v, .agg #[.string y, .int .i64 t, .int .i64 q]] w fun e w' => AP19 (bG && Tg.sam l (Tg.mk q y.size) t) (Tg.vals l Fs.nRG) e ∧ Below w.heap.size w w' := by
  obtain ⟨ao, cap, rfl⟩ := h.shape
  obtain ⟨hy, t0, t1, q0, q1⟩ := he
  simp only at hy t0 t1 q0 q1
  have HSM := hid' (fun W (hh : FW W (.slice ao l.length cap) l) (ht : TB19 W) => csame19 (.slice ao l.length cap) l y t q _ rfl W hh hl hz (by omega) (by omega) q1 ht.1)
  unfold flC at HSM
  obtain ⟨n, hn⟩ : ∃ n, l.length = n := ⟨_, rfl⟩
  rw [hn] at h hl HSM ⊢
  have H := hid' h
  have HN := hid' hn
  have HLL := hid' hl
  have HT := hid' hT
  have HVS : Hid (∀ f ∈ l, f.v.size ≤ 1048576) := hid' (fun f hf => Nat.le_trans (vsz_le19 hf) hz)
  generalize Tg.sam l (Tg.mk q y.size) t = sm at *
  clear h hn hT hz hy t0 t1 q0 q1
  go_enter Tryz.func31, Tryz.ntmps31
  go_wp2_with (refine wpl_box 31 _ rfl rfl #[.string y, .int .i64 t, .int .i64 q] (by kernel_rfl) ?_)
  intro xb w1 hg1 ha1 hb1
  have HX1 := hid' ha1
  have HB1 := hid' hb1
  clear hg1 ha1 hb1
  go_wp2
  go_loopw [8, 9, 14] (fun s8 s9 s14 wr => ∃ (k c : Nat) (x : ByteArray), s14 = .int .i64 (k : Int) ∧ s9 = .int .i64 (c : Int) ∧ s8 = .string x ∧ k ≤ n ∧ Hid (c ≤ k) ∧ Hid (Fs.Lst (Tg.vals (l.take k) Fs.nRG) x) ∧ Hid ((Tg.vals (l.take k) Fs.nRG).length = c) ∧ Hid (x.size ≤ 1048576) ∧ Hid (Below w1.heap.size w1 wr)) (fun _ _ s14 _ => n - (intOf s14).toNat)
  case atStart => exact ⟨0, 0, ⟨#[]⟩, rfl, rfl, rfl, Nat.zero_le _, hid' (Nat.le_refl _), hid' (.inl ⟨rfl, rfl⟩), hid' rfl, hid' (by decide), hid' (Below.refl _ _)⟩
  case round =>
    obtain ⟨k, c, x, rfl, rfl, rfl, hk, HCK, HI, HC, HXS, HB⟩ := hrel
    by_cases hlt : k < n
    · have hlt2 : (k : Int) < (n : Int) := by omega
      obtain ⟨f, hf⟩ : ∃ f, l[k]? = some f := ⟨_, List.getElem?_eq_getElem (by rw [HN.out]; exact hlt)⟩
      obtain ⟨a, hao, y0, y1⟩ := (H.out.keep (below_two HB1.out HB.out)).two k f hf
      subst hao
      have hvt := Tg.vals_take (nm := Fs.nRG) hf
      have HFV := hid' (HVS.out f (List.mem_of_getElem? hf))
      have HB2 := hid' (below_two HB.out (bl_alloc19 wr (.cells #[.string f.n, .string f.v] 42)))
      have HW : Hid (Ar (wr.alloc (.cells #[.string f.n, .string f.v] 42)) wr.heap.size 42 #[.string f.n, .string f.v]) := hid' (heap_alloc_last wr _)
      have hcw : IntKind.i64.wrap ((c : Int) + 1) = ((c + 1 : Nat) : Int) := by rw [wrp _ (by omega) (by have := HCK.out; have := HLL.out; omega)]; omega
      have hnm : (f.n.data.toList == Fs.nRG) = (f.n.toList == [114, 97, 110, 103, 101]) := by rw [ba_list]; rfl
      rw [hnm] at hvt
      go_upto_region 5 with fail
      obtain ⟨fb, hfb⟩ : ∃ fb, wr.heap.size = fb := ⟨_, rfl⟩
      rw [hfb] at HW ⊢
      generalize wr.alloc (.cells #[.string f.n, .string f.v] 42) = w2 at *
      clear hfb hnm hf y0 y1
      have z0 := HW.out.cell 0 _ rfl
      have z1 := HW.out.cell 1 _ rfl
      cases c1 : (f.n.toList == [114, 97, 110, 103, 101])
      · rw [c1] at hvt
        simp only [Bool.false_eq_true, if_false, List.append_nil] at hvt
        have HVT := hid' hvt
        clear hvt hcw
        go_wp2
        go_roundw
        case rel => exact ⟨k + 1, c, x, by go_num, rfl, rfl, by omega, hid' (Nat.le_succ_of_le HCK.out), hid' (by rw [HVT.out]; exact HI.out), hid' (by rw [HVT.out]; exact HC.out), HXS, HB2⟩
        case measure => simp [intOf]; omega
      · rw [c1] at hvt
        simp only [if_true] at hvt
        have HVT := hid' hvt
        clear hvt
        go_wp2
        go_roundw
        case rel => exact ⟨k + 1, c + 1, f.v, by go_num, by simp, rfl, by omega, hid' (Nat.succ_le_succ HCK.out), hid' (.inr ⟨_, HVT.out⟩), hid' (by rw [HVT.out, List.length_append, HC.out]; rfl), HFV, HB2⟩
        case measure => simp [intOf]; omega
    · obtain rfl : k = n := by omega
      have hlt2 : ¬ (k : Int) < (k : Int) := by omega
      have HV : Hid (Fs.Lst (Tg.vals l Fs.nRG) x) := hid' (by have := HI.out; rwa [List.take_of_length_le (by rw [HN.out]; exact Nat.le_refl _)] at this)
      have HVC : Hid ((Tg.vals l Fs.nRG).length = c) := hid' (by have := HC.out; rwa [List.take_of_length_le (by rw [HN.out]; exact Nat.le_refl _)] at this)
      have hx := HX1.out.keep HB.out
      have x0 := hx.cell 0 _ rfl
      have x1 := hx.cell 1 _ rfl
      have x2 := hx.cell 2 _ rfl
      clear hlt HI HC hx
      cases bG
      · go_wp2
        go_ret2
        exact ⟨ap19_no HXS.out (.inl rfl), below_two HB1.out HB.out⟩
      · by_cases hc1 : c = 1
        · have hc2 : ((c : Int) == 1) = true := by rw [hc1]; rfl
          have HVO := hid' (HV.out.one (by rw [HVC.out]; exact hc1))
          clear hc1
          go_wp2_with fail
          refine (HSM.out wr (H.out.keep (below_two HB1.out HB.out)) (tb_below19 HT.out (below_two HB1.out HB.out))).mono ?_
          rintro e w3 ⟨rfl, hb3⟩
          have HB3 := hid' (below_two (below_two HB1.out HB.out) hb3)
          clear hb3
          go_wp2
          go_ret2
          cases sm
          · exact ⟨ap19_no HXS.out (.inl rfl), HB3.out⟩
          · exact ⟨ap19_yes HXS.out HVO.out, HB3.out⟩
        · have hc2 : ((c : Int) == 1) = false := by simp; omega
          have HVO : Hid ((Tg.vals l Fs.nRG).length ≠ 1) := hid' (by rw [HVC.out]; exact hc1)
          clear hc1
          go_wp2
          go_ret2
          exact ⟨ap19_no HXS.out (.inr HVO.out), below_two HB1.out HB.out⟩

end Go.Proofs.YtgbnelglhkfdfaaGreatDoor

namespace Go.Proofs.YtgbnelglhkfdfaaGreatDoor
open Go.RowKit

set_option maxHeartbeats 4000000 in
set_option maxRecDepth 20000 in
theorem cplain19 (s : Int) (v : Value) (l : List Fd) (w : World) (s0 : -9223372036854775808 ≤ s) (s1 : s ≤ 9223372036854775807) (h : FW w v l) (hl : l.length ≤ 1048576) (hTB : TB19 w) :
    Calls Tryz.prog 7 #[.int .i64 s, v] w fun e w' => RP19 w w' e (Fs.plain s l) := by
  unfold RP19 Fs.plain
  simp only
  obtain ⟨ao, cap, rfl⟩ := h.shape
  have H := hid' h
  have HD := hid' (fun W (hT : TB19 W) => decimal_any s s0 s1 W hT.1)
  have HT := hid' hTB
  have HL := hid' hl
  have HA := hid' (str_snoc (Lib.itoa s) 10)
  have hq : (Lib.itoa s).length ≤ 21 := Lib.itoa_length_le s s0 s1
  unfold rpC
  obtain ⟨n, hn⟩ : ∃ n, l.length = n := ⟨_, rfl⟩
  have HN := hid' hn
  rw [hn] at H ⊢
  clear h hl s0 s1 hn hTB
  go_enter Tryz.func7, Tryz.ntmps7
  go_wp2_with (refine wpl_alloc 24 rfl rfl _ zeroRp19 ?_)
  intro rb w1 hrb ha1 hl1
  have HA1 := hid' ha1
  have HB1 := hid' hl1
  have HRB := hid' hrb
  clear ha1 hl1 hrb
  have HO0 : Hid ((w1.alloc (.cells (fC [Fs.fT]).toArray 42)).ownsRow w1.heap.size 42 2 (.slice (some ⟨w1.heap.size, 0, none⟩) 1 1) 1 (fC [Fs.fT])) := hid' (own_lit19 w1 _ _ 1 2 rfl (by decide) _ (Nat.le_refl _))
  have HB0 := hid' (bl_alloc19 w1 (.cells (fC [Fs.fT]).toArray 42))
  go_wp2_with (at_builtin; refine wpl_appL19 rfl _ _ rfl w1.heap.size (.slice (some ⟨w1.heap.size, 0, none⟩) 1 1) 1 (fC [Fs.fT]) rfl HO0.out _ l rfl ((H.out.keep HB1.out).keep HB0.out) (by have := HL.out; omega) HB0.out.size ?_; intro v2 w2 hown2 hgrow2; refine Hid.out ?_)
  refine hid' ?_
  have HB2 : Hid (Below w1.heap.size w1 w2) := hid' (below_grown19 HB0.out HB0.out.size HO0.out hgrow2)
  rw [← fC_append, HN.out] at hown2
  obtain ⟨v2o, v2c, hv2⟩ := own_shape hown2
  subst hv2
  have HO2 := hid' hown2
  clear hown2 hgrow2 HO0 HB0
  have HDC := hid' (HD.out w2 (tb_below19 (tb_below19 HT.out HB1.out) HB2.out))
  go_wp2_with (go_at_call 20; refine HDC.out.mono ?_; rintro e w3 ⟨rfl, hb3⟩; refine Hid.out ?_)
  refine hid' ?_
  have HB3 := hid' (below_two HB2.out hb3)
  have HO3 := hid' (own_same HO2.out (fun j hj => hb3.block j (own_lt HO2.out j hj)))
  have HA3 := hid' (HA1.out.keep HB3.out)
  have HLT := hid' HA1.out.lt
  clear hb3
  go_wp2_with (refine wpl_store 24 _ _ rfl rfl rb #[.int .i64 s, .slice v2o (1 + n) v2c, .string (⟨(Lib.itoa s).toArray⟩ ++ ⟨#[10]⟩), .slice none 0 0] (by kernel_rfl) (by kernel_rfl) _ _ HA3.out sizeRp19 rfl (by simp [Value.oneCell']) ?_)
  intro wf hwf huf
  go_wp2
  have hld := ldRp19 hwf
  refine bodyPost_ret (v := .agg #[.int .i64 s, .slice v2o (1 + n) v2c, .string (⟨(Lib.itoa s).toArray⟩ ++ ⟨#[10]⟩), .slice none 0 0]) (by simp [results, Tryz.results7, asAddr, hld]) rfl ⟨⟨v2o, 1 + n, v2c, ?_, ?_, ?_⟩, ?_⟩
  · rw [HA.out]; rfl
  · have := HN.out; omega
  · exact own_upd19 (l := Fs.fT :: l) HO3.out huf HLT.out HB1.out.size
  · exact (below_two HB1.out HB3.out).trans (huf.below HRB.out)
theorem cplainC19 : PlainC19 := fun s v l w s0 s1 h hl hT => (cplain19 s v l w s0 s1 h hl hT).mono fun _ _ ⟨⟨vo, n, vc, he, hn, ho⟩, hb⟩ => ⟨⟨vo, n, vc, he, fw_own19 ho hn⟩, hb⟩

end Go.Proofs.YtgbnelglhkfdfaaGreatDoor
