/-
  The code's small, isVisible, isPath: by their contracts; a struct that is stored in a region that draws.
  The code's head.addField where a field is laid behind the others: by its contract.
  The reader of requests in memory.
  The code's head.add, head.fault: by their contracts.
  The document's Trailers, Same, SameRequest: by their contracts.
  The document's SameRequest, of requests that are the same: by its contract.
  The code's head.request: by its contract.
-/
import Derived.Deep.RegionHeld3
import Derived.Test.YtbpdhcfmdkmoiaaGreatDoorPnAK
import Derived.RegionTactic
import Derived.ChangeAlike
import Derived.Deep.CutRange
import Derived.Test.YtbpdhcfmdkmoiaaGreatDoorPnAH
import Derived.Test.YtbpdhcfmdkmoiaaGreatDoorPnAI
import Derived.Laws.EntriesVeiled
import Derived.Test.YtbpdhcfmdkmoiaaGreatDoorPnAF
import Derived.Laws.StructEq
import Derived.Test.YtbpdhcfmdkmoiaaGreatDoorPnAA
namespace Go.Proofs.YtbpdhcfmdkmoiaaGreatDoor
open Go.RowKit

section
variable {P : Program} {w : World}
end

theorem sizeF14 : (Tryz.prog.info? 52).map (·.size) = some 2 := by kernel_rfl

set_option maxHeartbeats 2000000 in
set_option maxRecDepth 20000 in
theorem csmall14 (f : Fd) (w : World) (hn : f.n.size ≤ 140737488355328) :
    Calls Tryz.prog 98 #[.agg #[.string f.n, .string f.v]] w fun e w' => e = .returned (.agg #[.string (Ms.small f).n, .string (Ms.small f).v]) ∧ Below w.heap.size w w' := by
  obtain ⟨y, hy⟩ : ∃ y : ByteArray, (⟨(Tx.lower f.n.data.toList).toArray⟩ : ByteArray) = y := ⟨_, rfl⟩
  have e1 : (Ms.small f).n = y := hy
  have e2 : (Ms.small f).v = f.v := rfl
  have HLo : Hid (∀ W, Calls Tryz.prog 88 #[.string f.n] W fun e w' => e = .returned (.string y) ∧ Below W.heap.size W w') := hid' (fun W => by have := lower_any f.n W (by unfold maxLen; omega); rwa [hy] at this)
  rw [e1, e2]
  clear e1 e2 hy
  go_enter Tryz.func98, Tryz.ntmps98
  go_wp2
  have hA1 : Ar (w.alloc (.cells #[.string f.n, .string f.v] 52)) w.heap.size 52 #[.string f.n, .string f.v] := heap_alloc_last w _
  have hB1 := bl_alloc w (.cells #[.string f.n, .string f.v] 52)
  have hsz : (w.alloc (.cells #[.string f.n, .string f.v] 52)).heap.size = w.heap.size + 1 := by simp
  generalize w.alloc (.cells #[.string f.n, .string f.v] 52) = w1 at *
  have hA2 : Ar (w1.alloc (.cells #[.string ⟨#[]⟩, .string ⟨#[]⟩] 52)) (w.heap.size + 1) 52 #[.string ⟨#[]⟩, .string ⟨#[]⟩] := by rw [← hsz]; exact heap_alloc_last w1 _
  have hB2 := bl_alloc w1 (.cells #[.string ⟨#[]⟩, .string ⟨#[]⟩] 52)
  have hB3 := below_two hB1 hB2
  have hA3 := hA1.keep hB2
  generalize w1.alloc (.cells #[.string ⟨#[]⟩, .string ⟨#[]⟩] 52) = w2 at *
  have HB3 := hid' hB3
  obtain ⟨xb, hxb⟩ : ∃ xb, w.heap.size = xb := ⟨_, rfl⟩
  obtain ⟨rb, hrb⟩ : ∃ rb, w.heap.size + 1 = rb := ⟨_, rfl⟩
  have HRB : Hid (w.heap.size ≤ rb) := hid' (by omega)
  have hne : xb ≠ rb := by omega
  rw [hrb] at hA2 ⊢
  rw [hxb] at hA3 ⊢
  have x0 := hA3.cell 0 _ rfl
  have x1 := hA3.cell 1 _ rfl
  have r0 := hA2.cell 0 _ rfl
  have r1 := hA2.cell 1 _ rfl
  have kb : ∀ W W1 : World, (W.cell? ⟨xb, 0, none⟩ = some (.string f.n) ∧ W.cell? ⟨xb, 1, none⟩ = some (.string f.v)) → Below W.heap.size W W1 → W1.cell? ⟨xb, 0, none⟩ = some (.string f.n) ∧ W1.cell? ⟨xb, 1, none⟩ = some (.string f.v) := fun W W1 ⟨h2, h3⟩ hb => ⟨(hb.cell (cell_lt h2)).trans h2, (hb.cell (cell_lt h3)).trans h3⟩
  have ks : ∀ (W : World) (x y : Value), (W.cell? ⟨xb, 0, none⟩ = some (.string f.n) ∧ W.cell? ⟨xb, 1, none⟩ = some (.string f.v)) → ((W.setCell ⟨rb, 0, none⟩ x).setCell ⟨rb, 1, none⟩ y).cell? ⟨xb, 0, none⟩ = some (.string f.n) ∧ ((W.setCell ⟨rb, 0, none⟩ x).setCell ⟨rb, 1, none⟩ y).cell? ⟨xb, 1, none⟩ = some (.string f.v) := fun W x y ⟨h2, h3⟩ => ⟨(World.cell?_of_block (((upd_setCell W rb 0 x).block xb hne).symm ▸ (upd_setCell _ rb 1 y).block xb hne)).trans h2, (World.cell?_of_block (((upd_setCell W rb 0 x).block xb hne).symm ▸ (upd_setCell _ rb 1 y).block xb hne)).trans h3⟩
  have hS : w2.cell? ⟨xb, 0, none⟩ = some (.string f.n) ∧ w2.cell? ⟨xb, 1, none⟩ = some (.string f.v) := ⟨x0, x1⟩
  have hS0 := kb _ _ hS ((Below.refl _ w2).drew)
  have HA2 := hid' hA2
  have kr : ∀ W1 : World, Below w2.drew.heap.size w2.drew W1 → Ar W1 rb 52 #[.string ⟨#[]⟩, .string ⟨#[]⟩] := fun W1 hb => HA2.out.keep (below_two ((Below.refl _ w2).drew) hb)
  clear hA1 hB1 hsz hA2 hB2 hA3 hxb hrb x0 x1 hne
  go_region_held3 (fun W => W.cell? ⟨xb, 0, none⟩ = some (.string f.n) ∧ W.cell? ⟨xb, 1, none⟩ = some (.string f.v))
    (first | assumption | exact kb _ _ (by assumption) (by assumption) | exact ks _ _ _ (by assumption))
    (first
    | (go_at_call 88; refine (HLo.out _).mono ?_; rintro e w3 ⟨rfl, hb3⟩; have har := kr _ hb3; have c0 := har.cell 0 _ rfl; have c1 := har.cell 1 _ rfl; have f0 := har.free 0; have f1 := har.free 1))
  have hA4 : Ar ((w3.setCell ⟨rb, 0, none⟩ (.string y)).setCell ⟨rb, 1, none⟩ (.string f.v)) rb 52 #[.string y, .string f.v] := (har.set 0 _).set 1 _
  have HB4 : Hid (Below w.heap.size w ((w3.setCell ⟨rb, 0, none⟩ (.string y)).setCell ⟨rb, 1, none⟩ (.string f.v))) := hid' (((below_two HB3.out (below_two ((Below.refl _ w2).drew) hb3)).setCell HRB.out _).setCell HRB.out _)
  clear c0 c1 f0 f1 har hb3 kr ks kb hS hS0 r0 r1
  generalize (w3.setCell ⟨rb, 0, none⟩ (.string y)).setCell ⟨rb, 1, none⟩ (.string f.v) = w4 at *
  have x0 := hA4.cell 0 _ rfl
  have x1 := hA4.cell 1 _ rfl
  go_wp2
  exact bodyPost_ret (v := .agg #[.string y, .string f.v]) (by simp [results, Tryz.results98, go_sem, x0, x1]) rfl ⟨rfl, HB4.out⟩

namespace Ms
def vis (c : UInt8) : Bool := decide (33 ≤ c.toNat) && decide (c.toNat ≤ 126)
theorem okc_vis (L : List UInt8) : L.all okc = (L.all vis && !(decide (0 ≤ Lib.indexByte L 35))) := by
  have h2 : decide (0 ≤ Lib.indexByte L 35) = L.contains 35 := (Lib.contains_iff_indexByte L 35).symm
  rw [h2]
  induction L with
  | nil => rfl
  | cons a r ih =>
    rw [List.all_cons, List.all_cons, ih (Lib.contains_iff_indexByte r 35).symm, List.contains_cons]
    unfold okc vis
    have h5 : (35 == a) = (a == 35) := Bool.eq_iff_iff.2 (by rw [beq_iff_eq, beq_iff_eq]; exact eq_comm)
    rw [h5]
    cases decide (33 ≤ a.toNat) <;> cases decide (a.toNat ≤ 126) <;> cases (a == 35) <;> simp
theorem head_pre (L : List UInt8) : (L.head? == some 47) = Lib.hasPrefix L [47] := by
  unfold Lib.hasPrefix
  cases L with
  | nil => rfl
  | cons a r =>
    simp only [List.head?_cons, List.isPrefixOf, Bool.and_true]
    rw [Bool.eq_iff_iff, beq_iff_eq, beq_iff_eq]
    constructor
    · intro h; injection h with h; exact h.symm
    · intro h; rw [h]
end Ms

set_option maxHeartbeats 1000000 in
theorem cvis14 (s : ByteArray) (r : Bool) (hr : (Ms.tx s).all Ms.vis = r) (w : World) (hs : s.size ≤ 140737488355328) : Calls Tryz.prog 94 #[.string s] w fun e w' => e = .returned (.bool r) ∧ w' = w := by
  obtain ⟨L, hL⟩ : ∃ L, Ms.tx s = L := ⟨_, rfl⟩
  have HL := hid' hL
  have HSZ : Hid (L.length = s.size) := hid' (by rw [← hL, Ms.tx_len])
  rw [hL] at hr
  have HR := hid' hr
  clear hr hL
  go_enter Tryz.func94, Tryz.ntmps94
  go_wp2
  go_loopw [6] (fun s6 wr => ∃ k : Nat, s6 = .int .i64 (k : Int) ∧ k ≤ s.size ∧ wr = w ∧ Hid (r = (L.drop k).all Ms.vis)) (fun s6 _ => s.size - (intOf s6).toNat)
  case atStart => exact ⟨0, rfl, Nat.zero_le _, rfl, hid' HR.out.symm⟩
  case round =>
    obtain ⟨k, rfl, hk, hwr, HK⟩ := hrel
    subst wr
    by_cases hlt : k < s.size
    · have hlt2 : (k : Int) < (s.size : Int) := by omega
      have hck : L[k]? = some s[k] := by rw [← HL.out, Ms.tx, List.getElem?_eq_getElem (by rw [← Lib.size_eq]; exact hlt)]; rfl
      have HB2 : Hid (r = (Ms.vis s[k] && (L.drop (k + 1)).all Ms.vis)) := hid' (by rw [HK.out, drop1 L k _ hck, List.all_cons])
      clear hck HK
      by_cases d1 : s[k].toNat < 33
      · have HF : Hid (r = false) := hid' (by rw [HB2.out]; unfold Ms.vis; rw [decide_eq_false (by omega)]; rfl)
        have d1' : (s[k].toNat : Int) < 33 := by omega
        go_wp2
        go_ret
        exact ⟨by rw [HF.out]; rfl, rfl⟩
      have d1' : ¬ (s[k].toNat : Int) < 33 := by omega
      by_cases d2 : 126 < s[k].toNat
      · have HF : Hid (r = false) := hid' (by rw [HB2.out]; unfold Ms.vis; rw [decide_eq_false (show ¬ s[k].toNat ≤ 126 by omega)]; simp)
        have d2' : (126 : Int) < (s[k].toNat : Int) := by omega
        clear d1
        go_wp2
        go_ret
        exact ⟨by rw [HF.out]; rfl, rfl⟩
      have d2' : ¬ (126 : Int) < (s[k].toNat : Int) := by omega
      have HN : Hid (r = (L.drop (k + 1)).all Ms.vis) := hid' (by rw [HB2.out]; unfold Ms.vis; rw [decide_eq_true (show 33 ≤ s[k].toNat by omega), decide_eq_true (show s[k].toNat ≤ 126 by omega)]; rfl)
      clear d1 d2
      go_wp2
      go_roundw
      case rel => exact ⟨k + 1, by go_num, by omega, by first | rfl | trivial, HN⟩
      case measure => simp [intOf]; omega
    · obtain rfl : k = s.size := by omega
      have hlt2 : ¬ (s.size : Int) < (s.size : Int) := by omega
      have HF : Hid (r = true) := hid' (by rw [HK.out, List.drop_of_length_le (by rw [HSZ.out]; exact Nat.le_refl _)]; rfl)
      go_wp2
      go_ret
      exact ⟨by rw [HF.out]; rfl, rfl⟩

set_option maxHeartbeats 2000000 in
theorem cpath14 (m p : ByteArray) (r : Bool) (hr : Ms.goes m p = r) (w : World) (hp : p.size ≤ 140737488355328) :
    Calls Tryz.prog 72 #[.string m, .string p] w fun e w' => e = .returned (.bool r) ∧ w' = w := by
  unfold Ms.goes at hr
  have e1 : (Ms.tx p == [42]) = (p.toList == [42]) := by rw [Ms.tx, Lib.toList_data]
  rw [e1] at hr
  cases s1 : (p.toList == [42])
  · rw [s1, Ms.okc_vis, Ms.head_pre] at hr
    simp only [Bool.false_eq_true, if_false] at hr
    obtain ⟨t1, h1⟩ : ∃ t1, Lib.hasPrefix (Ms.tx p) [47] = t1 := ⟨_, rfl⟩
    obtain ⟨t2, h2⟩ : ∃ t2, (Ms.tx p).all Ms.vis = t2 := ⟨_, rfl⟩
    obtain ⟨t3, h3⟩ : ∃ t3, decide (0 ≤ Lib.indexByte (Ms.tx p) 35) = t3 := ⟨_, rfl⟩
    have HC : Hid (∀ W, Calls Tryz.prog 93 #[.string p, .string ⟨#[47]⟩] W fun e w' => e = .returned (.bool t1) ∧ w' = W) := hid' (fun W => by have := Tryz.strings_HasPrefix p ⟨#[47]⟩ W; rw [← h1]; exact this)
    have HV : Hid (∀ W, Calls Tryz.prog 94 #[.string p] W fun e w' => e = .returned (.bool t2) ∧ w' = W) := hid' (fun W => cvis14 p t2 h2 W hp)
    have HK : Hid (∀ W, Calls Tryz.prog 95 #[.string p, .string ⟨#[35]⟩] W fun e w' => e = .returned (.bool t3) ∧ w' = W) := hid' (fun W => by have := Tryz.strings_Contains_one p 35 W; rw [← h3]; exact this)
    rw [h1, h2, h3] at hr
    have HR := hid' hr
    clear hr h1 h2 h3 e1
    cases t1
    · have HF : Hid (r = false) := hid' (by rw [← HR.out]; rfl)
      go_enter Tryz.func72, Tryz.ntmps72
      go_wp2_with fail
      refine (HC.out _).mono ?_
      rintro e w1 ⟨rfl, hw⟩
      subst w1
      go_wp2
      go_ret
      exact ⟨by rw [HF.out]; rfl, rfl⟩
    cases t2
    · have HF : Hid (r = false) := hid' (by rw [← HR.out]; rfl)
      go_enter Tryz.func72, Tryz.ntmps72
      go_wp2_with fail
      refine (HC.out _).mono ?_
      rintro e w1 ⟨rfl, hw⟩
      subst w1
      go_wp2_with fail
      refine (HV.out _).mono ?_
      rintro e w1 ⟨rfl, hw⟩
      subst w1
      go_wp2
      go_ret
      exact ⟨by rw [HF.out]; rfl, rfl⟩
    have HF : Hid (r = !t3) := hid' (by rw [← HR.out]; rfl)
    go_enter Tryz.func72, Tryz.ntmps72
    go_wp2_with fail
    refine (HC.out _).mono ?_
    rintro e w1 ⟨rfl, hw⟩
    subst w1
    go_wp2_with fail
    refine (HV.out _).mono ?_
    rintro e w1 ⟨rfl, hw⟩
    subst w1
    go_wp2_with fail
    refine (HK.out _).mono ?_
    rintro e w1 ⟨rfl, hw⟩
    subst w1
    go_wp2
    go_ret
    exact ⟨by rw [HF.out]; rfl, rfl⟩
  · rw [s1] at hr
    simp only [if_true] at hr
    have HF : Hid ((m.toList == [79, 80, 84, 73, 79, 78, 83]) = r) := hid' (by rw [← hr, Ms.tx, Lib.toList_data]; rfl)
    clear hr e1
    go_enter Tryz.func72, Tryz.ntmps72
    go_wp2
    go_ret
    exact ⟨by rw [← HF.out]; rfl, rfl⟩

end Go.Proofs.YtbpdhcfmdkmoiaaGreatDoor

namespace Go.Proofs.YtbpdhcfmdkmoiaaGreatDoor
open Go.RowKit

section
variable {P : Program} {w : World}

end

end Go.Proofs.YtbpdhcfmdkmoiaaGreatDoor

namespace Go.Proofs.YtbpdhcfmdkmoiaaGreatDoor
open Go.RowKit

/-- The function of what is read next. -/
def rnum : Hr.Md → Nat
  | (.inl false) => 18
  | (.inl true) => 37
  | (.inr .i8) => 74
  | (.inr .i16) => 118
  | (.inr .i32) => 75
  | (.inr .i64) => 119
  | (.inr .u8) => 125
  | (.inr .u16) => 130
  | (.inr .u32) => 101
  | (.inr .u64) => 41
/-- A method of the reader as a value. -/
def mV (b : Nat) (k : Nat) : Value := .func (.func k) #[.pointer (some ⟨b, 0, none⟩)] #[]
def rnx (b : Nat) (md : Hr.Md) : Value := mV b (rnum md)
def rdC (nv lv fv : Value) (s : Hr.St) : Array Value := #[.int .i64 s.L, .int .i64 s.M, nv, .bool s.bg, lv, .bool s.cr, .string s.m, .string s.t, .bool s.old, fv, .int .i64 (Ms.size s.fs), .int .i64 s.left, .int .i64 s.room, .int .i64 s.st]
def u8s (l : List UInt8) : List Value := l.map fun c => Value.int .u8 (c.toNat : Int)
/-- A reader in memory. -/
structure RN (w : World) (B b : Nat) (nv lv fv : Value) (s : Hr.St) : Prop where
  lo : B ≤ b
  obj : Ar w b 66 (rdC nv lv fv s)
  ln : w.ownsRow B 5 1 lv s.ln.length (u8s s.ln)
  fl : w.ownsRow B 52 2 fv s.fs.length (fC s.fs)
/-- Its blocks. -/
def RS (b : Nat) (lv fv : Value) (k : Nat) : Prop := k = b ∨ lv.ownBlock = some k ∨ fv.ownBlock = some k
/-- Its rows are those that it had, or new ones. -/
def RW (n : Nat) (lv fv lv' fv' : Value) : Prop := (∀ k, lv'.ownBlock = some k → lv.ownBlock = some k ∨ n ≤ k) ∧ (∀ k, fv'.ownBlock = some k → fv.ownBlock = some k ∨ n ≤ k)
theorem RW.refl (n : Nat) (lv fv : Value) : RW n lv fv lv fv := ⟨fun _ h => .inl h, fun _ h => .inl h⟩
theorem RW.trans {n m : Nat} {a b c d e f : Value} (h1 : RW n a b c d) (h2 : RW m c d e f) (hn : n ≤ m) : RW n a b e f :=
  ⟨fun k hk => (h2.1 k hk).elim (h1.1 k) (fun h => .inr (by omega)), fun k hk => (h2.2 k hk).elim (h1.2 k) (fun h => .inr (by omega))⟩
theorem RW.none (n : Nat) (a b : Value) : RW n a b (.slice none 0 0) (.slice none 0 0) := ⟨fun _ h => by simp [Value.ownBlock] at h, fun _ h => by simp [Value.ownBlock] at h⟩
theorem RN.lb {w : World} {B b : Nat} {nv lv fv : Value} {s : Hr.St} (h : RN w B b nv lv fv s) : B ≤ w.heap.size := Nat.le_trans h.lo (Nat.le_of_lt h.obj.lt)
theorem RN.rs {w : World} {B b : Nat} {nv lv fv : Value} {s : Hr.St} (h : RN w B b nv lv fv s) : ∀ k, RS b lv fv k → B ≤ k ∧ k < w.heap.size := by
  rintro k (rfl | hk | hk)
  · exact ⟨h.lo, h.obj.lt⟩
  · exact ⟨(own_ty h.ln k hk).1, own_lt h.ln k hk⟩
  · exact ⟨(own_ty h.fl k hk).1, own_lt h.fl k hk⟩
theorem RN.other {S : Nat → Prop} {w w' : World} {B b : Nat} {nv lv fv : Value} {s : Hr.St} (h : RN w B b nv lv fv s) (hf : LF S w w') (hs : ∀ k, RS b lv fv k → ¬ S k) : RN w' B b nv lv fv s :=
  ⟨h.lo, hf.ar h.obj (hs b (.inl rfl)), own_same h.ln (fun k hk => hf.block k (own_lt h.ln k hk) (hs k (.inr (.inl hk)))), own_same h.fl (fun k hk => hf.block k (own_lt h.fl k hk) (hs k (.inr (.inr hk))))⟩
theorem RN.keep {w w' : World} {B b : Nat} {nv lv fv : Value} {s : Hr.St} (h : RN w B b nv lv fv s) (hb : Below w.heap.size w w') : RN w' B b nv lv fv s :=
  h.other (LF.of_below (S := fun _ => False) hb) (fun _ _ => id)
theorem RN.lnb {w : World} {B b : Nat} {nv lv fv : Value} {s : Hr.St} (h : RN w B b nv lv fv s) : ∀ k, lv.ownBlock = some k → k ≠ b := own_apart h.ln h.obj (by decide)
theorem RN.flb {w : World} {B b : Nat} {nv lv fv : Value} {s : Hr.St} (h : RN w B b nv lv fv s) : ∀ k, fv.ownBlock = some k → k ≠ b := own_apart h.fl h.obj (by decide)
theorem RN.rows {w : World} {B b : Nat} {nv lv fv : Value} {s : Hr.St} (h : RN w B b nv lv fv s) : ∀ k, lv.ownBlock = some k → some k ≠ fv.ownBlock := own_own h.ln h.fl (by decide)
/-- A cell of the reader is written. -/
theorem RN.set {w : World} {B b : Nat} {nv nv' lv fv : Value} {s s' : Hr.St} (h : RN w B b nv lv fv s) (i : Nat) (v : Value) (hc : (rdC nv lv fv s).setIfInBounds i v = rdC nv' lv fv s') (h1 : s'.ln = s.ln) (h2 : s'.fs = s.fs) : RN (w.setCell ⟨b, i, none⟩ v) B b nv' lv fv s' :=
  ⟨h.lo, hc ▸ h.obj.set i v, by rw [h1]; exact own_same h.ln (fun k hk => (upd_setCell w b i v).block k (h.lnb k hk)), by rw [h2]; exact own_same h.fl (fun k hk => (upd_setCell w b i v).block k (h.flb k hk))⟩
theorem RN.lf_set {w : World} {b : Nat} {lv fv : Value} (i : Nat) (v : Value) : LF (RS b lv fv) w (w.setCell ⟨b, i, none⟩ v) := LF.of_upd (upd_setCell w b i v) (.inl rfl)

/-- A piece's cells. -/
def pcC (p : Hr.Pc) (rv tv : Value) : Array Value := #[.int .u8 p.mark, .string p.rq.m, .string p.rq.s, .string p.rq.a, .string p.rq.p, rv, .string ⟨#[]⟩, .slice none 0 0, .bool p.wait, .bool p.last, .bool p.old, .bool p.has, .string p.bd, tv, .int .i64 p.st]
/-- A piece that was read: its rows are its own. -/
def PcW (w : World) (B : Nat) (X : Nat → Prop) (v : Value) (p : Hr.Pc) : Prop :=
  ∃ rv tv, v = .agg (pcC p rv tv) ∧ w.ownsRow B 52 2 rv p.rq.fs.length (fC p.rq.fs) ∧ w.ownsRow B 52 2 tv p.fs.length (fC p.fs) ∧ (∀ k, rv.ownBlock = some k → ¬ X k) ∧ (∀ k, tv.ownBlock = some k → ¬ X k)
def pv0 (p : Hr.Pc) : Value := .agg (pcC p (.slice none 0 0) (.slice none 0 0))
theorem PcW.plain (w : World) (B : Nat) (X : Nat → Prop) (p : Hr.Pc) (h1 : p.rq.fs = []) (h2 : p.fs = []) : PcW w B X (pv0 p) p :=
  ⟨_, _, rfl, by rw [h1]; exact World.ownsRow_nil _ _ _ _, by rw [h2]; exact World.ownsRow_nil _ _ _ _, fun k hk => by simp [Value.ownBlock] at hk, fun k hk => by simp [Value.ownBlock] at hk⟩

end Go.Proofs.YtbpdhcfmdkmoiaaGreatDoor

namespace Go.Proofs.YtbpdhcfmdkmoiaaGreatDoor
open Go.RowKit

namespace Ms
theorem take_snoc {l : List Fd} {k : Nat} {f : Fd} (h : l[k]? = some f) : l.take (k + 1) = l.take k ++ [f] := by rw [List.take_add_one, h]; rfl
end Ms

end Go.Proofs.YtbpdhcfmdkmoiaaGreatDoor

namespace Go.Proofs.YtbpdhcfmdkmoiaaGreatDoor
open Go.RowKit

theorem noStandF14 : Tryz.prog.stoodInHeld 52 = false := by kernel_rfl
theorem noGuardF14 : Tryz.prog.eqGuardType Tryz.prog.depth 52 = false := by kernel_rfl
theorem fieldsOfF14 : Tryz.prog.underlying 52 = some (.struct (Tryz.prog.fieldsOf 52)) := by kernel_rfl
set_option maxRecDepth 20000 in
theorem neq_f14 (f : Fd) (w : World) : (binOp .neq 52 (.agg #[.string f.n, .string f.v]) (.agg #[.string f.n, .string f.v])).run Tryz.prog w = .ok (.bool false) w := by
  rw [run_neq_struct, show (10000 : Nat) = 9999 + 1 by rfl, run_equalIn_agg w 9999 52 _ _ fieldsOfF14 noStandF14]
  simp only [Program.fieldsOf, Tryz.underlying52]
  go_simp

end Go.Proofs.YtbpdhcfmdkmoiaaGreatDoor

namespace Go.Proofs.YtbpdhcfmdkmoiaaGreatDoor
open Go.RowKit

/-- A request's cells. -/
def rqC (m s a p : ByteArray) (fv : Value) (b : ByteArray) (tv : Value) : Array Value := #[.string m, .string s, .string a, .string p, fv, .string b, tv]

end Go.Proofs.YtbpdhcfmdkmoiaaGreatDoor

namespace Go.Proofs.YtbpdhcfmdkmoiaaGreatDoor
open Go.RowKit

theorem rq_zero (w : World) : Ar (w.alloc (.cells (rqC ⟨#[]⟩ ⟨#[]⟩ ⟨#[]⟩ ⟨#[]⟩ (.slice none 0 0) ⟨#[]⟩ (.slice none 0 0)) 47)) w.heap.size 47 (rqC ⟨#[]⟩ ⟨#[]⟩ ⟨#[]⟩ ⟨#[]⟩ (.slice none 0 0) ⟨#[]⟩ (.slice none 0 0)) := heap_alloc_last w _

section
variable {P : Program} {md : Region.Mode} {ops : Array Oper} {Q : Exit → Act → World → Prop} {S : World → Prop}
end

theorem sizeRq14 : (Tryz.prog.info? 47).map (·.size) = some 7 := by kernel_rfl
theorem ar_upd {w w' : World} {a b : Nat} {T : TypeId} {c : Array Value} (h : Ar w a T c) (hu : Upd b w w') (hne : a ≠ b) : Ar w' a T c := by
  unfold Ar at *
  rw [hu.block a hne]
  exact h

end Go.Proofs.YtbpdhcfmdkmoiaaGreatDoor
