/-
  The reader of requests in memory.
  The code's head.add, head.fault: by their contracts.
  The document's Length: by its contract, out of Number's.
  The document's Trailers, Same, SameRequest: by their contracts.
-/
import Derived.Laws.EntriesVeiled
import Derived.Test.YthhpejgpfaikaaaGreatDoorPnAG
import Derived.Test.YthhpejgpfaikaaaGreatDoorPnAP
import Derived.Test.YthhpejgpfaikaaaGreatDoorPnAB
import Derived.Laws.StructEq
namespace Go.Proofs.YthhpejgpfaikaaaGreatDoor
open Go.RowKit

/-- The function of what is read next. -/
def rnum : Hr.Md → Nat
  | (.inl false) => 27
  | (.inl true) => 49
  | (.inr .i8) => 110
  | (.inr .i16) => 166
  | (.inr .i32) => 111
  | (.inr .i64) => 167
  | (.inr .u8) => 173
  | (.inr .u16) => 178
  | (.inr .u32) => 144
  | (.inr .u64) => 58
/-- A method of the reader as a value. -/
def mV (b : Nat) (k : Nat) : Value := .func (.func k) #[.pointer (some ⟨b, 0, none⟩)] #[]
def rnx (b : Nat) (md : Hr.Md) : Value := mV b (rnum md)
def rdC (nv lv fv : Value) (s : Hr.St) : Array Value := #[.int .i64 s.L, .int .i64 s.M, nv, .bool s.bg, lv, .bool s.cr, .string s.m, .string s.t, .bool s.old, fv, .int .i64 (Ms.size s.fs), .int .i64 s.left, .int .i64 s.room, .int .i64 s.st]
def u8s (l : List UInt8) : List Value := l.map fun c => Value.int .u8 (c.toNat : Int)
/-- A reader in memory. -/
structure RN (w : World) (B b : Nat) (nv lv fv : Value) (s : Hr.St) : Prop where
  lo : B ≤ b
  obj : Ar w b 75 (rdC nv lv fv s)
  ln : w.ownsRow B 5 1 lv s.ln.length (u8s s.ln)
  fl : w.ownsRow B 47 2 fv s.fs.length (fC s.fs)
/-- Its blocks. -/
def RS (b : Nat) (lv fv : Value) (k : Nat) : Prop := k = b ∨ lv.ownBlock = some k ∨ fv.ownBlock = some k
/-- Its rows are those that it had, or new ones. -/
def RW (n : Nat) (lv fv lv' fv' : Value) : Prop := (∀ k, lv'.ownBlock = some k → lv.ownBlock = some k ∨ n ≤ k) ∧ (∀ k, fv'.ownBlock = some k → fv.ownBlock = some k ∨ n ≤ k)
theorem RW.refl (n : Nat) (lv fv : Value) : RW n lv fv lv fv := ⟨fun _ h => .inl h, fun _ h => .inl h⟩
theorem RW.trans {n m : Nat} {a b c d e f : Value} (h1 : RW n a b c d) (h2 : RW m c d e f) (hn : n ≤ m) : RW n a b e f :=
  ⟨fun k hk => (h2.1 k hk).elim (h1.1 k) (fun h => .inr (by omega)), fun k hk => (h2.2 k hk).elim (h1.2 k) (fun h => .inr (by omega))⟩
theorem RW.none (n : Nat) (a b : Value) : RW n a b (.slice none 0 0) (.slice none 0 0) := ⟨fun _ h => by simp [Value.ownBlock] at h, fun _ h => by simp [Value.ownBlock] at h⟩
theorem RN.lb {w : World} {B b : Nat} {nv lv fv : Value} {s : Hr.St} (h : RN w B b nv lv fv s) : B ≤ w.heap.size := Nat.le_trans h.lo (Nat.le_of_lt h.obj.lt)
theorem RN.rs {w : World} {B b : Nat} {nv lv fv : Value} {s : Hr.St} (h : RN w B b nv lv fv s) : ∀ k, RS b lv fv k → B ≤ k ∧ k < w.heap.size := by
  rintro k (rfl | hk | hk)
  · exact ⟨h.lo, h.obj.lt⟩
  · exact ⟨(own_ty h.ln k hk).1, own_lt h.ln k hk⟩
  · exact ⟨(own_ty h.fl k hk).1, own_lt h.fl k hk⟩
theorem RN.other {S : Nat → Prop} {w w' : World} {B b : Nat} {nv lv fv : Value} {s : Hr.St} (h : RN w B b nv lv fv s) (hf : LF S w w') (hs : ∀ k, RS b lv fv k → ¬ S k) : RN w' B b nv lv fv s :=
  ⟨h.lo, hf.ar h.obj (hs b (.inl rfl)), own_same h.ln (fun k hk => hf.block k (own_lt h.ln k hk) (hs k (.inr (.inl hk)))), own_same h.fl (fun k hk => hf.block k (own_lt h.fl k hk) (hs k (.inr (.inr hk))))⟩
theorem RN.keep {w w' : World} {B b : Nat} {nv lv fv : Value} {s : Hr.St} (h : RN w B b nv lv fv s) (hb : Below w.heap.size w w') : RN w' B b nv lv fv s :=
  h.other (LF.of_below (S := fun _ => False) hb) (fun _ _ => id)
theorem RN.lnb {w : World} {B b : Nat} {nv lv fv : Value} {s : Hr.St} (h : RN w B b nv lv fv s) : ∀ k, lv.ownBlock = some k → k ≠ b := own_apart h.ln h.obj (by decide)
theorem RN.flb {w : World} {B b : Nat} {nv lv fv : Value} {s : Hr.St} (h : RN w B b nv lv fv s) : ∀ k, fv.ownBlock = some k → k ≠ b := own_apart h.fl h.obj (by decide)
theorem RN.rows {w : World} {B b : Nat} {nv lv fv : Value} {s : Hr.St} (h : RN w B b nv lv fv s) : ∀ k, lv.ownBlock = some k → some k ≠ fv.ownBlock := own_own h.ln h.fl (by decide)
/-- A cell of the reader is written. -/
theorem RN.set {w : World} {B b : Nat} {nv nv' lv fv : Value} {s s' : Hr.St} (h : RN w B b nv lv fv s) (i : Nat) (v : Value) (hc : (rdC nv lv fv s).setIfInBounds i v = rdC nv' lv fv s') (h1 : s'.ln = s.ln) (h2 : s'.fs = s.fs) : RN (w.setCell ⟨b, i, none⟩ v) B b nv' lv fv s' :=
  ⟨h.lo, hc ▸ h.obj.set i v, by rw [h1]; exact own_same h.ln (fun k hk => (upd_setCell w b i v).block k (h.lnb k hk)), by rw [h2]; exact own_same h.fl (fun k hk => (upd_setCell w b i v).block k (h.flb k hk))⟩
theorem RN.lf_set {w : World} {b : Nat} {lv fv : Value} (i : Nat) (v : Value) : LF (RS b lv fv) w (w.setCell ⟨b, i, none⟩ v) := LF.of_upd (upd_setCell w b i v) (.inl rfl)
/-- What holds of a reader between calls. -/
structure Bd (s : Hr.St) (n : Nat) : Prop where
  ok : Hr.Ok s
  L : s.L ≤ 9223372036854775807
  M : s.M ≤ 9223372036854775807
  c : Hr.cost s + n ≤ 1048576

/-- A piece's cells. -/
def pcC (p : Hr.Pc) (rv tv : Value) : Array Value := #[.int .u8 p.mark, .string p.rq.m, .string p.rq.s, .string p.rq.a, .string p.rq.p, rv, .string ⟨#[]⟩, .slice none 0 0, .bool p.wait, .bool p.last, .bool p.old, .bool p.has, .string p.bd, tv, .int .i64 p.st]
/-- A piece that was read: its rows are its own. -/
def PcW (w : World) (B : Nat) (X : Nat → Prop) (v : Value) (p : Hr.Pc) : Prop :=
  ∃ rv tv, v = .agg (pcC p rv tv) ∧ w.ownsRow B 47 2 rv p.rq.fs.length (fC p.rq.fs) ∧ w.ownsRow B 47 2 tv p.fs.length (fC p.fs) ∧ (∀ k, rv.ownBlock = some k → ¬ X k) ∧ (∀ k, tv.ownBlock = some k → ¬ X k)
def pv0 (p : Hr.Pc) : Value := .agg (pcC p (.slice none 0 0) (.slice none 0 0))
theorem PcW.plain (w : World) (B : Nat) (X : Nat → Prop) (p : Hr.Pc) (h1 : p.rq.fs = []) (h2 : p.fs = []) : PcW w B X (pv0 p) p :=
  ⟨_, _, rfl, by rw [h1]; exact World.ownsRow_nil _ _ _ _, by rw [h2]; exact World.ownsRow_nil _ _ _ _, fun k hk => by simp [Value.ownBlock] at hk, fun k hk => by simp [Value.ownBlock] at hk⟩

end Go.Proofs.YthhpejgpfaikaaaGreatDoor

namespace Go.Proofs.YthhpejgpfaikaaaGreatDoor
open Go.RowKit

namespace Ms
/-- What is wrong with the next field of a header list. -/
def step1 (P : List Fd) (f : Fd) : Int := if psd f.n then (if bad1 P (hof P).bg f then 140 else 0) else if bad2 P f then 141 else 0
theorem bg_app (P : List Fd) (f : Fd) : (hof (P ++ [f])).bg = ((hof P).bg || !psd f.n) := any_app P f
theorem take_snoc {l : List Fd} {k : Nat} {f : Fd} (h : l[k]? = some f) : l.take (k + 1) = l.take k ++ [f] := by rw [List.take_add_one, h]; rfl
theorem walk_step {l : List Fd} {k : Nat} {f : Fd} (h : l[k]? = some f) : walk (l.take k) (hof (l.take k)).bg (l.drop k) = if step1 (l.take k) f == 0 then walk (l.take (k + 1)) (hof (l.take (k + 1))).bg (l.drop (k + 1)) else step1 (l.take k) f := by
  rw [walk_drop h, take_snoc h, bg_app]
  unfold step1
  cases psd f.n
  · simp only [Bool.false_eq_true, if_false, Bool.not_false, Bool.or_true]
    cases bad2 (l.take k) f <;> rfl
  · simp only [if_true, Bool.not_true, Bool.or_false]
    cases bad1 (l.take k) (hof (l.take k)).bg f <;> rfl
/-- What is wrong with the whole of a header list. -/
def faultE (H : Hd) : Int :=
  if lines (H.m.getD ⟨#[]⟩) (H.s.getD ⟨#[]⟩) (H.p.getD ⟨#[]⟩) then
    (if H.a.isSome && H.h.isSome && !((H.a.getD ⟨#[]⟩).toList == (H.h.getD ⟨#[]⟩).toList) then 141 else if (lenGo none H.fs).isNone then 142 else 0)
  else 140
theorem twoE_fault (l : List Fd) : twoE l = if walk [] false l == 0 then faultE (hof l) else walk [] false l := by
  unfold twoE faultE clash gd hof
  simp only [lenGo_keep]
  rfl
end Ms

end Go.Proofs.YthhpejgpfaikaaaGreatDoor

namespace Go.Proofs.YthhpejgpfaikaaaGreatDoor
open Go.RowKit

set_option maxHeartbeats 2000000 in
set_option maxRecDepth 20000 in
theorem rlen14 (NM : ∀ (s : ByteArray) (w : World), s.size ≤ maxLen → Calls Tryz.prog 90 #[.string s] w fun e w' => e = .returned (.tuple #[.int .i64 (Tx.num 10 s.data.toList).1, .int .i64 (Tx.num 10 s.data.toList).2]) ∧ Below w.heap.size w w')
    (v : Value) (l : List Fd) (o : Option (Option ByteArray)) (ho : Ms.lenGo none l = o) (w : World) (h : FW w v l) (hl : l.length ≤ 1048576) (hs : ∀ f ∈ l, f.n.size ≤ 140737488355328 ∧ f.v.size ≤ 140737488355328) :
    Calls Tryz.prog 65 #[v] w fun e w' => e = .returned (Ms.lenV o) ∧ Below w.heap.size w w' := by
  obtain ⟨ao, cap, hv⟩ := h.shape
  subst hv
  obtain ⟨n, hn⟩ : ∃ n, l.length = n := ⟨_, rfl⟩
  rw [hn] at h hl ⊢
  have H := hid' h
  have HN := hid' hn
  have HS := hid' hs
  have HO := hid' ho
  have HNM := hid' NM
  clear h hn hs ho NM
  go_enter Tryz.func65, Tryz.ntmps65
  go_wp2
  go_loopw [5, 6, 7] (fun s5 s6 s7 wr => ∃ (k : Nat) (has : Bool) (val : ByteArray), s7 = .int .i64 (k : Int) ∧ s5 = .bool has ∧ s6 = .string val ∧ k ≤ n ∧ Hid (Ms.lenGo (Ms.opt has val) (l.drop k) = o) ∧ Hid (val.size ≤ 140737488355328) ∧ Hid (Below w.heap.size w wr)) (fun _ _ s7 _ => n - (intOf s7).toNat)
  case atStart => exact ⟨0, false, ⟨#[]⟩, rfl, rfl, rfl, Nat.zero_le _, HO, hid' (by decide), hid' (Below.refl _ _)⟩
  case round =>
    obtain ⟨k, has, val, rfl, rfl, rfl, hk, HI, HVS, HB⟩ := hrel
    by_cases hlt : k < n
    · have hlt2 : (k : Int) < (n : Int) := by omega
      obtain ⟨p, hp⟩ : ∃ p, l[k]? = some p := ⟨_, List.getElem?_eq_getElem (by rw [HN.out]; exact hlt)⟩
      obtain ⟨a, hao, y0, y1⟩ := (H.out.keep HB.out).two k p hp
      subst hao
      have hd := Ms.len_drop hp (Ms.opt has val)
      rw [HI.out] at hd
      have HPP := hid' hp
      have HPS := hid' (HS.out p (List.mem_of_getElem? hp))
      obtain ⟨y, hy⟩ : ∃ y : ByteArray, (⟨(Tx.lower p.n.data.toList).toArray⟩ : ByteArray) = y := ⟨_, rfl⟩
      have hyl : (Ms.lo p.n == Ms.sLen) = (y.toList == [99, 111, 110, 116, 101, 110, 116, 45, 108, 101, 110, 103, 116, 104]) := by rw [← hy, ba_list]; rfl
      rw [hyl] at hd
      clear hp hyl
      go_wp2_with fail
      refine (rLower_any p.n wr (by have := HPS.out.1; unfold maxLen; omega)).mono ?_
      rintro e wq ⟨rfl, hbq⟩
      rw [hy]
      have HBq := hid' (below_two HB.out hbq)
      clear hbq y0 y1 HB hy
      obtain ⟨_, hao, y0, y1⟩ := (H.out.keep HBq.out).two k p HPP.out
      injection hao with hao
      subst hao
      cases c1 : (y.toList == [99, 111, 110, 116, 101, 110, 116, 45, 108, 101, 110, 103, 116, 104])
      · rw [c1] at hd
        simp only [Bool.false_eq_true, if_false] at hd
        have HD := hid' hd
        clear hd
        go_wp2
        go_roundw
        case rel => exact ⟨k + 1, has, val, by go_num, rfl, rfl, by omega, hid' HD.out.symm, HVS, HBq⟩
        case measure => simp [intOf]; omega
      · rw [c1] at hd
        simp only [if_true] at hd
        obtain ⟨d, hdc⟩ : ∃ d, Ms.dec p.v = d := ⟨_, rfl⟩
        have HDC := hid' hdc
        rw [hdc] at hd
        have HD := hid' hd
        clear hd hdc
        go_wp2_with fail
        refine (rdec14 p.v d HDC.out wq HPS.out.2).mono ?_
        rintro e wq' ⟨rfl, hwq⟩
        subst wq'
        cases d
        · have HE : Hid (o = none) := hid' (by rw [HD.out]; rfl)
          go_wp2
          go_ret3
          exact ⟨by rw [HE.out]; rfl, HBq.out⟩
        · cases has
          · have HE : Hid (Ms.lenGo (Ms.opt true p.v) (l.drop (k + 1)) = o) := hid' (by rw [HD.out]; rfl)
            go_wp2
            go_roundw
            case rel => exact ⟨k + 1, true, p.v, by go_num, rfl, rfl, by omega, HE, hid' HPS.out.2, HBq⟩
            case measure => simp [intOf]; omega
          · cases c2 : (p.v.toList == val.toList)
            · have HE : Hid (o = none) := hid' (by rw [HD.out]; simp only [Ms.opt, if_true, c2]; rfl)
              go_wp2
              go_ret3
              exact ⟨by rw [HE.out]; rfl, HBq.out⟩
            · have HE : Hid (Ms.lenGo (Ms.opt true p.v) (l.drop (k + 1)) = o) := hid' (by rw [HD.out]; simp only [Ms.opt, if_true, c2]; rfl)
              go_wp2
              go_roundw
              case rel => exact ⟨k + 1, true, p.v, by go_num, rfl, rfl, by omega, HE, hid' HPS.out.2, HBq⟩
              case measure => simp [intOf]; omega
    · obtain rfl : k = n := by omega
      have hlt2 : ¬ (k : Int) < (k : Int) := by omega
      have HE : Hid (o = some (Ms.opt has val)) := hid' (by rw [← HI.out, List.drop_of_length_le (by rw [HN.out]; exact Nat.le_refl _)]; rfl)
      clear hlt
      cases has
      · go_wp2
        go_ret3
        exact ⟨by rw [HE.out]; rfl, HB.out⟩
      · go_wp2_with fail
        refine (HNM.out val wr (by have := HVS.out; unfold maxLen; omega)).mono ?_
        rintro e wq ⟨rfl, hbq⟩
        have HBq := hid' (below_two HB.out hbq)
        clear hbq
        go_wp2
        go_ret3
        exact ⟨by rw [HE.out]; rfl, HBq.out⟩

end Go.Proofs.YthhpejgpfaikaaaGreatDoor

namespace Go.Proofs.YthhpejgpfaikaaaGreatDoor
open Go.RowKit

set_option maxHeartbeats 4000000 in
set_option maxRecDepth 20000 in
theorem rtrail14 (v : Value) (l : List Fd) (c : Int) (hc : Ms.trail l = c) (w : World) (h : FW w v l) (hl : l.length ≤ 1048576) (hs : ∀ f ∈ l, f.n.size ≤ 140737488355328 ∧ f.v.size ≤ 140737488355328) :
    Calls Tryz.prog 54 #[v] w fun e w' => e = .returned (.int .i64 c) ∧ Below w.heap.size w w' := by
  obtain ⟨ao, cap, hv⟩ := h.shape
  subst hv
  obtain ⟨n, hn⟩ : ∃ n, l.length = n := ⟨_, rfl⟩
  rw [hn] at h hl ⊢
  have H := hid' h
  have HN := hid' hn
  have HS := hid' hs
  have HC := hid' hc
  clear h hn hs hc
  go_enter Tryz.func54, Tryz.ntmps54
  go_upto_region 3 with fail
  have HA : Hid (Ar (w.alloc (.cells (sC Ms.noTr).toArray 9)) w.heap.size 9 (sC Ms.noTr).toArray) := hid' (heap_alloc_last w _)
  have HB0 : Hid (Below w.heap.size w (w.alloc (.cells (sC Ms.noTr).toArray 9))) := hid' ((Below.refl _ _).alloc (Nat.le_refl _) _)
  change Code.wp _ _ _ _ (w.alloc (.cells (sC Ms.noTr).toArray 9))
  obtain ⟨bk, hbk⟩ : ∃ bk, w.heap.size = bk := ⟨_, rfl⟩
  rw [hbk] at HA ⊢
  generalize w.alloc (.cells (sC Ms.noTr).toArray 9) = w0 at *
  clear hbk
  go_loopw [4] (fun s4 wr => ∃ k : Nat, s4 = .int .i64 (k : Int) ∧ k ≤ n ∧ Hid (Ms.trail (l.drop k) = c) ∧ Hid (Below w0.heap.size w0 wr)) (fun s4 _ => n - (intOf s4).toNat)
  case atStart => exact ⟨0, rfl, Nat.zero_le _, HC, hid' (Below.refl _ _)⟩
  case round =>
    obtain ⟨k, rfl, hk, HI, HB⟩ := hrel
    have HBW := hid' (below_two HB0.out HB.out)
    by_cases hlt : k < n
    · have hlt2 : (k : Int) < (n : Int) := by omega
      obtain ⟨p, hp⟩ : ∃ p, l[k]? = some p := ⟨_, List.getElem?_eq_getElem (by rw [HN.out]; exact hlt)⟩
      obtain ⟨a, hao, y0, y1⟩ := (H.out.keep HBW.out).two k p hp
      subst hao
      have hd := Ms.trail_drop hp
      rw [HI.out] at hd
      have HD := hid' hd
      have HPS := hid' (HS.out p (List.mem_of_getElem? hp))
      have HPP := hid' hp
      obtain ⟨pd, hpd⟩ : ∃ pd, Ms.psd p.n = pd := ⟨_, rfl⟩
      have HPD := hid' hpd
      obtain ⟨pl, hpl⟩ : ∃ pl, Ms.plain p = pl := ⟨_, rfl⟩
      have HPL := hid' hpl
      obtain ⟨g, hg⟩ : ∃ g, Ms.noTr.contains p.n.toList = g := ⟨_, rfl⟩
      have HG := hid' hg
      clear hp hd hpd hpl hg
      go_wp2_with fail
      refine (rpsd14 p.n pd HPD.out wr HPS.out.1).mono ?_
      rintro e w1 ⟨rfl, hw1⟩
      subst w1
      cases pd
      · go_wp2_with fail
        refine (rplain14 p pl HPL.out wr HPS.out.1 HPS.out.2).mono ?_
        rintro e w2 ⟨rfl, hb2⟩
        have HB2 := hid' (below_two HB.out hb2)
        have HBW2 := hid' (below_two HBW.out hb2)
        clear hb2 y0 y1
        obtain ⟨_, hao, y0, y1⟩ := (H.out.keep HBW2.out).two k p HPP.out
        injection hao with hao
        subst hao
        cases pl
        · have HE : Hid (c = 143) := hid' (by rw [HD.out, HPD.out, HPL.out]; rfl)
          go_wp2
          go_ret
          exact ⟨by rw [HE.out]; rfl, HBW2.out⟩
        · go_wp2_with fail
          refine (rin14 bk 11 Ms.noTr rfl p.n g HG.out w2 (HA.out.keep HB2.out) (by omega)).mono ?_
          rintro e w3 ⟨rfl, hw3⟩
          subst w3
          cases g
          · have HE : Hid (Ms.trail (l.drop (k + 1)) = c) := hid' (by rw [HD.out, HPD.out, HPL.out, HG.out]; rfl)
            go_wp2
            go_roundw
            case rel => exact ⟨k + 1, by go_num, by omega, HE, HB2⟩
            case measure => simp [intOf]; omega
          · have HE : Hid (c = 143) := hid' (by rw [HD.out, HPD.out, HPL.out, HG.out]; rfl)
            go_wp2
            go_ret
            exact ⟨by rw [HE.out]; rfl, HBW2.out⟩
      · have HE : Hid (c = 140) := hid' (by rw [HD.out, HPD.out]; rfl)
        go_wp2
        go_ret
        exact ⟨by rw [HE.out]; rfl, HBW.out⟩
    · obtain rfl : k = n := by omega
      have hlt2 : ¬ (k : Int) < (k : Int) := by omega
      have HE : Hid (c = 0) := hid' (by rw [← HI.out, List.drop_of_length_le (by rw [HN.out]; exact Nat.le_refl _)]; rfl)
      clear hlt
      go_wp2
      go_ret
      exact ⟨by rw [HE.out]; rfl, HBW.out⟩

theorem noStandF14 : Tryz.prog.stoodInHeld 47 = false := by kernel_rfl
theorem noGuardF14 : Tryz.prog.eqGuardType Tryz.prog.depth 47 = false := by kernel_rfl
theorem fieldsOfF14 : Tryz.prog.underlying 47 = some (.struct (Tryz.prog.fieldsOf 47)) := by kernel_rfl
set_option maxRecDepth 20000 in
theorem neq_f14 (f : Fd) (w : World) : (binOp .neq 47 (.agg #[.string f.n, .string f.v]) (.agg #[.string f.n, .string f.v])).run Tryz.prog w = .ok (.bool false) w := by
  rw [run_neq_struct, show (10000 : Nat) = 9999 + 1 by rfl, run_equalIn_agg w 9999 47 _ _ fieldsOfF14 noStandF14]
  simp only [Program.fieldsOf, Tryz.underlying47]
  go_simp

set_option maxHeartbeats 2000000 in
set_option maxRecDepth 20000 in
theorem rsame14 (va vb : Value) (l : List Fd) (w : World) (h1 : FW w va l) (h2 : FW w vb l) (hl : l.length ≤ 140737488355328) :
    Calls Tryz.prog 26 #[va, vb] w fun e w' => e = .returned (.bool true) ∧ ∃ m, w' = w.drewN m := by
  obtain ⟨ao, ca, hv⟩ := h1.shape
  subst hv
  obtain ⟨bo, cb, hv⟩ := h2.shape
  subst hv
  obtain ⟨n, hn⟩ : ∃ n, l.length = n := ⟨_, rfl⟩
  rw [hn] at h1 h2 hl ⊢
  have H1 := hid' h1
  have H2 := hid' h2
  have HN := hid' hn
  have hee : ((n : Int) == (n : Int)) = true := beq_self_eq_true _
  have hgd := noGuardF14
  clear h1 h2 hn
  go_enter Tryz.func26, Tryz.ntmps26
  go_wp2
  go_loopw [5] (fun s5 wr => ∃ i q : Nat, s5 = .int .i64 (i : Int) ∧ i ≤ n ∧ wr = w.drewN q) (fun s5 _ => n - (intOf s5).toNat)
  case atStart => exact ⟨0, 0, rfl, Nat.zero_le _, rfl⟩
  case round =>
    obtain ⟨i, q, rfl, hi, hwr⟩ := hrel
    subst hwr
    by_cases hlt : i < n
    · have hlt2 : (i : Int) < (n : Int) := by omega
      obtain ⟨p, hp⟩ : ∃ p, l[i]? = some p := ⟨_, List.getElem?_eq_getElem (by rw [HN.out]; exact hlt)⟩
      obtain ⟨a, hao, x0, x1⟩ := H1.out.two i p hp
      obtain ⟨a2, hbo, y0, y1⟩ := H2.out.two i p hp
      subst hao hbo
      have hne : ∀ W, (binOp .neq 47 (.agg #[.string p.n, .string p.v]) (.agg #[.string p.n, .string p.v])).run Tryz.prog W = .ok (.bool false) W := fun W => neq_f14 p W
      have HLT := hid' hlt
      clear hp hlt
      go_wp2
      go_quiet (fail)
      go_wp2
      go_roundw
      case rel => exact ⟨i + 1, _, by go_num, by have := HLT.out; omega, by first | rfl | simp⟩
      case measure => have := HLT.out; simp [intOf]; omega
    · have hlt2 : ¬ (i : Int) < (n : Int) := by omega
      clear hlt
      go_wp2
      go_ret
      exact ⟨rfl, _, rfl⟩

end Go.Proofs.YthhpejgpfaikaaaGreatDoor
