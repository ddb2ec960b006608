/-
  The laws' body: by its contract.
-/
import Derived.Test.YtnggablpkgbpaaaDoorDkF
import Derived.Test.YtnggablpkgbpaaaDoorDkCl
import Derived.BigRegion
import Derived.Laws.MakeOwn
namespace Go.Proofs.YtnggablpkgbpaaaDoor
open Go.RowKit

/-- A change's body, made longer. -/
def noughts (m : Nat) : ByteArray := ⟨(List.replicate m (0 : UInt8)).toArray⟩
def bodyOf (c : Cl13) : ByteArray := if c.long ≤ 0 ∨ 70000 < c.long then c.body else c.body ++ noughts c.long.toNat

theorem fold_noughts (m : Nat) : ∀ r : ByteArray, (List.replicate m (0 : Int)).foldl (fun r n => r.push (UInt8.ofNat n.toNat)) r = ⟨r.data ++ (List.replicate m (0 : UInt8)).toArray⟩ := by
  induction m with
  | zero => intro r; simp
  | succ m ih =>
    intro r
    rw [List.replicate_succ, List.foldl_cons, ih, List.replicate_succ]
    have e : (r.push (UInt8.ofNat (0 : Int).toNat)).data = r.data.push 0 := rfl
    rw [e]
    congr 1
    apply Array.ext'
    simp
theorem noughts_size (m : Nat) : (noughts m).size = m := by simp [noughts, ByteArray.size]
theorem made_list13 (v : Value) (m : Nat) : (madeCells #[v] m).toList = List.replicate m v := by
  apply List.ext_getElem
  · simp [size_madeCells]
  · intro i h1 h2
    simp [madeCells, Nat.mod_one]
theorem run_noughts (W : World) (b m : Nat) (h : Ar W b 5 (madeCells #[.int .u8 0] m)) : (convert 60 9 (.slice (some ⟨b, 0, none⟩) m m)).run Tryd.prog W = .ok (.string (noughts m)) W := by
  have hl : (loadCells ⟨b, 0, none⟩ m).run Tryd.prog W = .ok ((List.replicate m (0 : Int)).map (Value.int .u8)).toArray W := by
    have := run_loadCells_list (P := Tryd.prog) W ⟨b, 0, none⟩ ((List.replicate m (0 : Int)).map (Value.int .u8)) (fun j v hv => by
      rw [Addr.add_mid, Nat.zero_add]
      refine h.cell j v ?_
      rw [← Array.getElem?_toList, made_list13]
      simpa using hv)
    simpa using this
  rw [run_convert_bytes_string W 60 9 5 _ m m Tryd.underlying60 Tryd.underlying5 Tryd.underlying9, run_bytesToString W ⟨b, 0, none⟩ m m _ hl, fold_noughts]
  simp [noughts, ByteArray.empty, ByteArray.emptyWithCapacity]
  rfl

set_option maxHeartbeats 2000000 in
set_option maxRecDepth 20000 in
theorem lbody (c : Cl13) (hc : c.body.size ≤ 140737488355328) (w : World) : Calls Tryd.prog 15 #[.agg #[.bool c.take, .string c.path, .string c.body, .int .i64 c.time, .int .i64 c.long]] w fun e w' => e = .returned (.string (bodyOf c)) ∧ Below w.heap.size w w' := by
  by_cases h : c.long ≤ 0 ∨ 70000 < c.long
  · have HE : Hid (bodyOf c = c.body) := hid' (by unfold bodyOf; rw [if_pos h])
    by_cases h1 : c.long ≤ 0
    · clear h
      go_enter Tryd.func15, Tryd.ntmps15
      go_wp2
      go_ret
      exact ⟨by rw [HE.out]; rfl, (Below.refl _ _).alloc (Nat.le_refl _) _⟩
    · have h2 : 70000 < c.long := by omega
      clear h
      go_enter Tryd.func15, Tryd.ntmps15
      go_wp2
      go_ret
      exact ⟨by rw [HE.out]; rfl, (Below.refl _ _).alloc (Nat.le_refl _) _⟩
  · obtain ⟨m, hm⟩ : ∃ m : Nat, c.long = (m : Int) := ⟨c.long.toNat, by omega⟩
    have h1 : ¬ (m : Int) ≤ 0 := by omega
    have h2 : ¬ 70000 < (m : Int) := by omega
    have HE : Hid (bodyOf c = c.body ++ noughts m) := hid' (by unfold bodyOf; rw [if_neg h, hm]; rfl)
    have hmk : ∀ W : World, (Instr.makeSlice 60 (.int .i64 (m : Int)) (.int .i64 (m : Int))).run Tryd.prog W = .ok (.slice (some ⟨W.heap.size, 0, none⟩) m m) (W.alloc (.cells (madeCells #[.int .u8 0] m) 5)) := fun W => by
      obtain ⟨i0, hi0, hz0, hz1, hz2⟩ := dinfo_parts (show (Tryd.prog.info? 5).map (fun i => (i.zero, i.size, i.bytes)) = some (some (.int .u8 0), 1, 1) by kernel_rfl)
      have hr := run_make (P := Tryd.prog) W 60 5 i0 (.int .u8 0) Tryd.underlying60 hi0 hz0 .i64 .i64 (m : Int) (m : Int) (by omega) (by omega) (by rw [hz2]; omega) (by omega)
      rw [hz1, Int.toNat_natCast, Nat.mul_one] at hr
      exact hr
    have hcv := run_noughts (((w.alloc (.cells #[.bool c.take, .string c.path, .string c.body, .int .i64 c.time, .int .i64 (m : Int)] 31)).alloc (.cells (madeCells #[.int .u8 0] m) 5)).drew) (w.heap.size + 1) m (by
      have := heap_alloc_last (w.alloc (.cells #[.bool c.take, .string c.path, .string c.body, .int .i64 c.time, .int .i64 (m : Int)] 31)) (.cells (madeCells #[.int .u8 0] m) 5)
      have e : (w.alloc (.cells #[.bool c.take, .string c.path, .string c.body, .int .i64 c.time, .int .i64 (m : Int)] 31)).heap.size = w.heap.size + 1 := by simp
      rw [e] at this
      exact this)
    have hns := noughts_size m
    have hsum : ¬ (9223372036854775807 : Int) < (c.body.size : Int) + (m : Int) := by omega
    rw [hm]
    clear h hm
    go_enter Tryd.func15, Tryd.ntmps15
    go_wp2
    go_region
    go_wp2
    go_ret
    exact ⟨by rw [HE.out]; rfl, ((Below.refl w.heap.size w).alloc (Nat.le_refl _) _).drew.alloc (by simp) _⟩

end Go.Proofs.YtnggablpkgbpaaaDoor
