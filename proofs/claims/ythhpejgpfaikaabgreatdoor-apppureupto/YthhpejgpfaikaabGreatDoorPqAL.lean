/-
  What the row stands on.
-/
import Derived.Test.YthhpejgpfaikaabGreatDoorPqAB
import Derived.Test.YthhpejgpfaikaabGreatDoorPqAK
import Derived.Test.YthhpejgpfaikaabGreatDoorShSortI
import Derived.Deep.QuietTactic
import Derived.Test.YthhpejgpfaikaabGreatDoorPqAI
import Derived.Test.YthhpejgpfaikaabGreatDoorPqAJ
namespace Go.Proofs.YthhpejgpfaikaabGreatDoor
set_option maxHeartbeats 64000000
open Go.RowKit

theorem ext_size (s : ByteArray) (a b : Nat) : (s.extract a b).size ≤ s.size := by simp; omega
theorem u8_eq {c : UInt8} {n : Nat} (h : ((c.toNat : Int) == (n : Int)) = true) (hn : n < 256) : c = UInt8.ofNat n := by
 rw [beq_iff_eq] at h;apply UInt8.toNat_inj.1;rw [UInt8.toNat_ofNat', Nat.mod_eq_of_lt hn]; omega
theorem u8_ne {c : UInt8} {n : Nat} (h : ((c.toNat : Int) == (n : Int)) = false) (hn : n < 256) : c ≠ UInt8.ofNat n := by
 rw [beq_eq_false_iff_ne] at h;intro e; apply h; rw [e, UInt8.toNat_ofNat', Nat.mod_eq_of_lt hn]

theorem list_any (s : ByteArray) (w : World) (hs : s.size + 2 ≤ 8796093022208) :
  Calls Tryz.prog 187 #[.string s] w fun e w' => ∃ v, e = .returned v ∧ w'.ownsRow w.heap.size 9 1 v (Tx.list s.data.toList).length (strCells (Tx.list s.data.toList)) ∧ Below w.heap.size w w' := by
 go_enter Tryz.func187, Tryz.ntmps187;go_wp2;go_loopw [3, 4, 5, 6] (fun m st q i wr => ∃ (k sn : Nat) (qv : Bool) (ms : List (List UInt8)), k ≤ s.size + 1 ∧ i = .int .i64 k ∧ st = .int .i64 sn ∧ q = .bool qv ∧ wr.ownsRow w.heap.size 9 1 m ms.length (strCells ms) ∧ Below w.heap.size w wr ∧ Tx.ListRel s.data.toList ms sn k qv) (fun _ _ _ i _ => s.size + 1 - (intOf i).toNat)
 case atStart => exact ⟨0, 0, false, [], Nat.zero_le _, rfl, rfl, rfl, World.ownsRow_nil _ _ _ _, Below.refl _ _, Tx.ListRel.start _⟩
 case round =>
  obtain ⟨k, sn, qv, ms, hk, rfl, rfl, rfl, hown, hbel, hlr⟩ := hrel;have hsk := hlr.stk;have hle : sn ≤ s.size := by have := hlr.le; rw [← Lib.size_eq] at this; exact this
  have hmany := hlr.many;have hsz := hbel.size;have HL := hid hlr;have HB := hid hbel;clear hlr hbel;by_cases hlt : k < s.size
  ·have hl : k < s.data.toList.length := by rw [← Lib.size_eq]; exact hlt
   have HC : Hid (s.data.toList[k] = s[k]) := hid rfl;by_cases c34 : ((s[k].toNat : Int) == 34) = true
   ·have HN : Hid (Tx.ListRel s.data.toList ms sn (k + 1) (!qv)) := HL.out.quote hl (by rw [HC.out]; exact u8_eq c34 (by decide));go_wp2;go_roundw
    case rel => exact ⟨k + 1, sn, !qv, ms, by omega, by go_num, rfl, rfl, hown, HB.out, HN.out⟩
    case measure => simp [intOf]; omega
   ·replace c34 : ((s[k].toNat : Int) == 34) = false := by simpa using c34
    cases qv
    ·by_cases c44 : ((s[k].toNat : Int) == 44) = true
     ·have HN : Hid (Tx.ListRel s.data.toList (ms ++ Tx.addm (s.extract sn k).data.toList) (k + 1) (k + 1) false) := by
       rw [Lib.extract_data];exact HL.out.comma hl (by rw [HC.out]; exact u8_eq c44 (by decide))
      have hes := ext_size s sn k;have hesm : (s.extract sn k).size ≤ maxLen := by unfold maxLen; omega
      go_wp2_with (go_at_call 211; refine (addMember_any w.heap.size _ ms (s.extract sn k) _ hesm hown hsz (by omega)).mono ?_; rintro e w1 ⟨v', rfl, hown', hb'⟩);go_roundw
      case rel => exact ⟨k + 1, k + 1, false, _, by omega, by go_num, by go_num, rfl, hown', HB.out.trans hb', HN.out⟩
      case measure => simp [intOf]; omega
     ·replace c44 : ((s[k].toNat : Int) == 44) = false := by simpa using c44
      have HN : Hid (Tx.ListRel s.data.toList ms sn (k + 1) false) := HL.out.plain hl (by rw [HC.out]; exact u8_ne c34 (by decide)) rfl (by rw [HC.out]; simpa using u8_ne c44 (by decide));go_wp2;go_roundw
      case rel => exact ⟨k + 1, sn, false, ms, by omega, by go_num, rfl, rfl, hown, HB.out, HN.out⟩
      case measure => simp [intOf]; omega
    ·by_cases c92 : ((s[k].toNat : Int) == 92) = true
     ·have HN : Hid (Tx.ListRel s.data.toList ms sn (k + 2) true) := HL.out.slash hl (by rw [HC.out]; exact u8_eq c92 (by decide));go_wp2;go_roundw
      case rel => exact ⟨k + 2, sn, true, ms, by omega, by go_num, rfl, rfl, hown, HB.out, HN.out⟩
      case measure => simp [intOf]; omega
     ·replace c92 : ((s[k].toNat : Int) == 92) = false := by simpa using c92
      have HN : Hid (Tx.ListRel s.data.toList ms sn (k + 1) true) := HL.out.plain hl (by rw [HC.out]; exact u8_ne c34 (by decide)) (by rw [HC.out]; simpa using u8_ne c92 (by decide)) rfl;go_wp2;go_roundw
      case rel => exact ⟨k + 1, sn, true, ms, by omega, by go_num, rfl, rfl, hown, HB.out, HN.out⟩
      case measure => simp [intOf]; omega
  ·have HN : Hid (Tx.list s.data.toList = ms ++ Tx.addm (s.extract sn s.size).data.toList) := by
    rw [Lib.extract_data, List.take_of_length_le (by rw [List.length_drop, ← Lib.size_eq]; omega)];exact HL.out.stop (by rw [← Lib.size_eq]; omega)
   have hes := ext_size s sn s.size;have hesm : (s.extract sn s.size).size ≤ maxLen := by unfold maxLen; omega
   go_wp2_with (go_at_call 211; refine (addMember_any w.heap.size _ ms (s.extract sn s.size) _ hesm hown hsz (by omega)).mono ?_; rintro e w1 ⟨v', rfl, hown', hb'⟩);go_ret;exact ⟨v', rfl, by rw [HN.out]; exact hown', HB.out.trans hb'⟩

namespace Tx

def keepB (c : UInt8) : Bool := c != 44 && !blkB c
def keep (l : List UInt8) : List UInt8 := l.filter keepB

theorem addm_le (p : List UInt8) : (addm p).flatten.length ≤ p.length := by
 unfold addm;split
 ·simp
 ·have := trim_le p; simpa using this
theorem flat_mems (r : List UInt8) : ∀ (cur : List UInt8) (q e : Bool), (mems cur q e r).flatten.length ≤ cur.length + r.length := by
 induction r with
 | nil => intro cur q e; have := addm_le cur; rw [mems]; omega
 | cons c r ih =>
  intro cur q e;rw [mems, List.length_cons];have h1 : ∀ q' e', (mems (cur ++ [c]) q' e' r).flatten.length ≤ cur.length + (r.length + 1) := fun q' e' => by
   have := ih (cur ++ [c]) q' e'; rw [List.length_append] at this; simp at this ⊢; omega
  repeat' split
  ·exact h1 _ _
  ·exact h1 _ _
  ·exact h1 _ _
  ·have h2 := ih [] q false;have h3 := addm_le cur;rw [List.flatten_append, List.length_append]; rw [List.length_nil] at h2; omega
  ·exact h1 _ _
theorem flat_list (l : List UInt8) : (list l).flatten.length ≤ l.length := by
 have := flat_mems l [] false false; simpa [list] using this

theorem addm_mem (p m : List UInt8) (h : m ∈ addm p) : m = trim p ∧ m ≠ [] := by
 unfold addm at h;split at h
 ·simp at h
 ·rename_i he;simp only [List.mem_singleton] at h;subst h;exact ⟨rfl, fun e => he (by rw [e]; rfl)⟩
theorem mems_good (r : List UInt8) : ∀ (cur : List UInt8) (q e : Bool), ∀ m ∈ mems cur q e r, m ≠ [] ∧ trim m = m := by
 have ha : ∀ p : List UInt8, ∀ m ∈ addm p, m ≠ [] ∧ trim m = m := fun p m hm => by
  obtain ⟨rfl, h⟩ := addm_mem p m hm;exact ⟨h, trim_trim p⟩
 induction r with
 | nil => intro cur q e m hm; exact ha cur m hm
 | cons c r ih =>
  intro cur q e m hm;rw [mems] at hm
  repeat' split at hm
  ·exact ih _ _ _ m hm
  ·exact ih _ _ _ m hm
  ·exact ih _ _ _ m hm
  ·rcases List.mem_append.1 hm with hm | hm
   ·exact ha cur m hm
   ·exact ih _ _ _ m hm
  ·exact ih _ _ _ m hm
theorem list_good (l : List UInt8) : ∀ m ∈ list l, m ≠ [] ∧ trim m = m := mems_good l [] false false

end Tx


namespace Rg
theorem mems_len (r : List UInt8) : ∀ (cur : List UInt8) (q e : Bool), (Tx.mems cur q e r).length ≤ r.length + 1 := by
 induction r with
 | nil =>
  intro cur q e;simp only [Tx.mems, Tx.addm];split <;> simp
 | cons c r ih =>
  intro cur q e;simp only [Tx.mems];split
  ·have := ih (cur ++ [c]) q false; simp only [List.length_cons]; omega
  ·split
   ·have := ih (cur ++ [c]) (!q) false; simp only [List.length_cons]; omega
   ·split
    ·have := ih (cur ++ [c]) q true; simp only [List.length_cons]; omega
    ·split
     ·have := ih [] q false;have h2 : (Tx.addm cur).length ≤ 1 := by unfold Tx.addm; split <;> simp
      simp only [List.length_cons, List.length_append]; omega
     ·have := ih (cur ++ [c]) q false; simp only [List.length_cons]; omega
theorem list_len (l : List UInt8) : (Tx.list l).length ≤ l.length + 1 := mems_len l [] false false
theorem mem_flat {ms : List (List UInt8)} {m : List UInt8} (h : m ∈ ms) : m.length ≤ ms.flatten.length := by
 induction ms with
 | nil => cases h
 | cons x r ih =>
  simp only [List.flatten_cons, List.length_append];rcases List.mem_cons.1 h with rfl | h
  ·omega
  ·have := ih h; omega
theorem list_mem {l m : List UInt8} (h : m ∈ Tx.list l) : m.length ≤ l.length := Nat.le_trans (mem_flat h) (Tx.flat_list l)
theorem pre_eq (l : T8) : Lib.hasPrefix l head6 = (l.take 6 == head6) := by
 unfold Lib.hasPrefix;rw [Bool.eq_iff_iff, List.isPrefixOf_iff_prefix, beq_iff_eq, List.prefix_iff_eq_take];exact ⟨fun h => h.symm, fun h => h.symm⟩
theorem rd_bad {p : T8} {n : Int} {r : Rn} (h : rd p n = (r, false)) : (pc p n).2.2 = false := by
 unfold rd at h;split at h
 ·injection h with _ h; cases h
 ·rename_i hq; exact Bool.eq_false_iff.2 hq
theorem rd_good {p : T8} {n : Int} {r : Rn} (n0 : 0 ≤ n) (h : rd p n = (r, true)) : (pc p n).2.2 = true ∧ (pc p n).1 = r ∧ (pc p n).2.1 = wth r n := by
 unfold rd at h;split at h
 ·rename_i hq;injection h with h _;exact ⟨hq, h, by rw [← h]; exact (pc_wth n0 hq).symm⟩
 ·injection h with _ h; cases h
end Rg

set_option maxRecDepth 20000 in
theorem cparse16 (s : ByteArray) (l : List UInt8) (hl : s.data.toList = l) (n : Int) (n1 : n ≤ 9223372036854775807) (w : World) (hs : s.size ≤ 1048576) (hT : TB16 w) :
  Calls Tryz.prog 154 #[.string s, .int .i64 n] w fun e w' => (∃ m ro rc, e = .returned (.tuple #[.slice ro m rc, .int .i64 (Rg.err l n)]) ∧ (Rg.res l n).length = m ∧ w'.ownsRow w.heap.size 227 2 (.slice ro m rc) m (rgC (Rg.res l n))) ∧ Below w.heap.size w w' := by
 obtain ⟨i0, hi0, hz0, hz1, hz2⟩ := minfo16 infoRg16;have HI := hid' hi0;have HZ0 := hid' hz0;have HZ1 := hid' hz1;have HZ2 := hid' hz2;clear hi0 hz0 hz1 hz2;have hno : ∀ c : Int, Rg.err l n = c → (c == 0) = false → Rg.res l n = [] := fun c h1 h2 => by unfold Rg.res; rw [h1, h2]; rfl
 have HNO := hid' hno;have HSZ : Hid (s.size = l.length) := hid' (by rw [Lib.size_eq, hl]);have HT := hid' hT;clear hno hT;by_cases n0 : n < 0
 ·have HE : Hid (Rg.err l n = 1) := hid' (by unfold Rg.err; rw [if_pos n0]);have HR := hid' (HNO.out 1 HE.out (by decide));go_enter Tryz.func154, Tryz.ntmps154;go_wp2;go_ret2;exact ⟨⟨0, none, 0, by rw [HE.out]; rfl, by rw [HR.out]; rfl, by rw [HR.out]; exact World.ownsRow_nil _ _ _ _⟩, Below.refl _ _⟩
 have HCP := hid' (Tryz.strings_CutPrefix s ⟨#[98, 121, 116, 101, 115, 61]⟩ w);rw [hl, show (⟨#[98, 121, 116, 101, 115, 61]⟩ : ByteArray).data.toList = Rg.head6 from rfl, Rg.pre_eq] at HCP;obtain ⟨y, hy⟩ : ∃ y : ByteArray, (⟨(Lib.trimPrefix l Rg.head6).toArray⟩ : ByteArray) = y := ⟨_, rfl⟩;have HYL : Hid (y.data.toList = Lib.trimPrefix l Rg.head6) := hid' (by rw [← hy]);have HTL : Hid ((Lib.trimPrefix l Rg.head6).length ≤ l.length) := hid' (by unfold Lib.trimPrefix; split <;> simp);have hys : y.size ≤ 1048576 := by rw [Lib.size_eq, HYL.out]; have := HTL.out; have := HSZ.out; omega
 rw [hy] at HCP;have HLI := hid' (fun W => list_any y W (by omega));obtain ⟨ps, hps⟩ : ∃ ps, Tx.list y.data.toList = ps := ⟨_, rfl⟩;rw [hps] at HLI;have HPZ : Hid (∀ p ∈ ps, p.length ≤ 1048576) := hid' (fun p hp => by
  rw [← hps] at hp;have h1 := Rg.list_mem hp;rw [← Lib.size_eq] at h1;omega)
 have hmb2 : ps.length ≤ 1048577 := by
  rw [← hps]; have := Rg.list_len y.data.toList; rw [← Lib.size_eq] at this; omega
 have HPSE := hid' hps;clear hl hy hps;cases hh : (l.take 6 == Rg.head6)
 ·have HE : Hid (Rg.err l n = 160) := hid' (by unfold Rg.err; rw [if_neg n0, hh]; rfl);have HR := hid' (HNO.out 160 HE.out (by decide));rw [hh] at HCP;clear hh;go_enter Tryz.func154, Tryz.ntmps154;go_wp2_with fail;refine HCP.out.mono ?_;rintro e w0 ⟨rfl, hw⟩;subst w0;go_wp2_with fail;refine (HLI.out _).mono ?_;rintro e w1 ⟨pv, rfl, hown, hb1⟩;obtain ⟨po, pc, hpv⟩ := own_shape16 hown;subst hpv;have HB1 := hid' hb1;clear hb1 hown;go_wp2;go_ret2;exact ⟨⟨0, none, 0, by rw [HE.out]; rfl, by rw [HR.out]; rfl, by rw [HR.out]; exact World.ownsRow_nil _ _ _ _⟩, HB1.out⟩
 rw [hh] at HCP;have HYD : Hid (y.data.toList = l.drop 6) := hid' (by rw [HYL.out]; unfold Lib.trimPrefix; rw [Rg.pre_eq, hh]; rfl);have hel := Rg.err_list n0 hh;rw [← HYD.out, HPSE.out] at hel;have HER := hid' hel.1;have HRS := hid' hel.2;have hn0 : 0 ≤ n := by omega
 obtain ⟨m, hm⟩ : ∃ m, ps.length = m := ⟨_, rfl⟩;rw [hm] at hmb2 HLI;have HM := hid' hm;clear hh hel hm;go_enter Tryz.func154, Tryz.ntmps154;go_wp2_with fail;refine HCP.out.mono ?_;rintro e w0 ⟨rfl, hw⟩;subst w0;go_wp2_with fail;refine (HLI.out _).mono ?_;rintro e w1 ⟨pv, rfl, hown, hb1⟩;obtain ⟨po, pc, hpv⟩ := own_shape16 hown;subst hpv;have HP : Hid (w1.ownsRow w.heap.size 9 1 (.slice po m pc) m (sC16 ps)) := hid' hown;have HB1 := hid' hb1;clear hown hb1;by_cases hm0 : m = 0
 ·have hmB : ((m : Int) == 0) = true := by rw [beq_iff_eq]; omega
  have HE : Hid (Rg.err l n = 160) := hid' (by
   have : ps = [] := List.eq_nil_of_length_eq_zero (HM.out.trans hm0);rw [HER.out, this]; rfl)
  have HR := hid' (HNO.out 160 HE.out (by decide));clear hm0;go_wp2;go_ret2;exact ⟨⟨0, none, 0, by rw [HE.out]; rfl, by rw [HR.out]; rfl, by rw [HR.out]; exact World.ownsRow_nil _ _ _ _⟩, HB1.out⟩
 have hmB : ((m : Int) == 0) = false := by rw [beq_eq_false_iff_ne]; omega
 have HNE : Hid (ps.isEmpty = false) := hid' (by
  cases hq : ps with
  | nil => exact absurd (HM.out.symm.trans (by rw [hq]; rfl)) hm0
  | cons a b => rfl)
 clear hm0;go_wp2;go_loopw [9, 32] (fun s9 s32 wr => ∃ (k c : Nat) (ro : Option Addr) (rc : Nat), s32 = .int .i64 (k : Int) ∧ s9 = .slice ro c rc ∧ k ≤ m ∧ c ≤ k ∧ Hid ((ps.take k).all (fun p => (Rg.pc p n).2.2) = true) ∧ Hid ((Rg.outs (ps.take k) n).length = c) ∧ Hid (wr.ownsRow w.heap.size 227 2 (.slice ro c rc) c (rgC (Rg.outs (ps.take k) n))) ∧ Hid (wr.ownsRow w.heap.size 9 1 (.slice po m pc) m (sC16 ps)) ∧ Hid (Below w.heap.size w wr)) (fun _ s32 _ => m - (intOf s32).toNat)
 case atStart => exact ⟨0, 0, none, 0, rfl, rfl, Nat.zero_le _, Nat.le_refl _, hid' rfl, hid' rfl, hid' (World.ownsRow_nil _ _ _ _), HP, HB1⟩
 case round =>
  obtain ⟨k, c, ro, rc, rfl, rfl, hk, hck, HGD, HCL, HO, HPr, HB⟩ := hrel;by_cases hlt : k < m
  ·have hlt2 : (k : Int) < (m : Int) := by omega
   obtain ⟨p, hp⟩ : ∃ p, ps[k]? = some p := ⟨_, List.getElem?_eq_getElem (by rw [HM.out]; exact hlt)⟩;obtain ⟨g, rfl, y0⟩ := own_str16 HPr.out k p hp;have HOT := hid' (Rg.outs_take n hp);have HAT := hid' (Rg.all_take (fun p => (Rg.pc p n).2.2) hp);have HPL := hid' (HPZ.out p (List.mem_of_getElem? hp));have HMEM := hid' (List.mem_of_getElem? hp);have HPI := hid' (fun W (h : TB16 W) => cread16 ⟨p.toArray⟩ p rfl n hn0 n1 W (by rw [size_l16]; exact HPL.out) h);unfold rdV16 at HPI;obtain ⟨q, hq⟩ : ∃ q, Rg.rd p n = q := ⟨_, rfl⟩;obtain ⟨⟨qa, qb⟩, qg⟩ := q;rw [hq] at HPI;simp only at HPI;have HTr := hid' (HT.out.keep HB.out);have HQ := hid' hq;clear hp hq;go_wp2_with fail;refine (HPI.out _ HTr.out).mono ?_;rintro e wq ⟨rfl, hbq⟩;have HBq := hid' (below_two HB.out hbq);have HOq := hid' (own_kp16 HO.out hbq);have HPq := hid' (own_kp16 HPr.out hbq);have HBa := hid' (below_two HBq.out (bl_alloc wq (.cells #[.int .i64 qa, .int .i64 qb] 227)));have HOa := hid' (HOq.out.alloc (.cells #[.int .i64 qa, .int .i64 qb] 227));have HPa := hid' (HPq.out.alloc (.cells #[.int .i64 qa, .int .i64 qb] 227));have HLa : Hid (Ar (wq.alloc (.cells #[.int .i64 qa, .int .i64 qb] 227)) wq.heap.size 227 #[.int .i64 qa, .int .i64 qb]) := hid' (heap_alloc_last wq _);clear hbq y0 HOq HPq;cases qg
   ·have HE : Hid (Rg.err l n = 160) := hid' (by
     rw [HER.out];have : ps.all (fun p => (Rg.pc p n).2.2) = false := by
      rw [Bool.eq_false_iff]; intro ht;have := List.all_eq_true.1 ht p HMEM.out;rw [Rg.rd_bad HQ.out] at this; cases this
     rw [this, Bool.not_false, Bool.or_true]; rfl)
    have HR := hid' (HNO.out 160 HE.out (by decide));go_wp2;go_ret2;exact ⟨⟨0, none, 0, by rw [HE.out]; rfl, by rw [HR.out]; rfl, by rw [HR.out]; exact World.ownsRow_nil _ _ _ _⟩, HBa.out⟩
   have HQG := hid' (Rg.rd_good hn0 HQ.out);have HG2 : Hid ((ps.take (k + 1)).all (fun p => (Rg.pc p n).2.2) = true) := hid' (by rw [HAT.out, HGD.out, HQG.out.1]; rfl);rw [HQG.out.2.1, HQG.out.2.2] at HOT;have HWT := hid' (fun W => cwth16 ⟨qa, qb⟩ n W);generalize Rg.wth ⟨qa, qb⟩ n = qi at HWT HOT;go_upto_region 14 with fail;obtain ⟨fb, hfb⟩ : ∃ fb, wq.heap.size = fb := ⟨_, rfl⟩;rw [hfb] at HLa ⊢;generalize wq.alloc (.cells #[.int .i64 qa, .int .i64 qb] 227) = w2 at *;have p0 := HLa.out.cell 0 _ rfl;have p1 := HLa.out.cell 1 _ rfl;clear hfb;go_wp2_with fail;refine (HWT.out _).mono ?_;rintro e w3 ⟨rfl, hb3⟩;have HB3 := hid' (below_two HBa.out hb3);have HO3 := hid' (own_kp16 HOa.out hb3);have HP3 := hid' (own_kp16 HPa.out hb3);have HL3 := hid' (HLa.out.keep hb3);clear hb3 p0 p1 HOa HPa HLa;cases qi
   ·have hot := HOT.out;rw [if_neg (by decide), List.append_nil] at hot;have s1 : Hid ((Rg.outs (ps.take (k + 1)) n).length = c) := hid' (by rw [hot]; exact HCL.out);have s2 : Hid (w3.ownsRow w.heap.size 227 2 (.slice ro c rc) c (rgC (Rg.outs (ps.take (k + 1)) n))) := hid' (by rw [hot]; exact HO3.out);clear hot;go_wp2;go_roundw
    case rel => exact ⟨k + 1, c, ro, rc, by go_num, rfl, by omega, by omega, HG2, s1, s2, HP3, HB3⟩
    case measure => simp [intOf]; omega
   ·have HKF : Hid (Rg.outs (ps.take (k + 1)) n = Rg.outs (ps.take k) n ++ [⟨qa, qb⟩]) := hid' (by have hh := HOT.out; rwa [if_pos rfl] at hh);have p0 := HL3.out.cell 0 _ rfl;have p1 := HL3.out.cell 1 _ rfl;have HA : Hid ((w3.alloc (.cells #[.int .i64 qa, .int .i64 qb] 227)).ownsRow w.heap.size 227 2 (.slice ro c rc) c (rgC (Rg.outs (ps.take k) n))) := hid' (HO3.out.alloc _);have HPb : Hid ((w3.alloc (.cells #[.int .i64 qa, .int .i64 qb] 227)).ownsRow w.heap.size 9 1 (.slice (some ⟨g, 0, none⟩) m pc) m (sC16 ps)) := hid' (HP3.out.alloc _);go_wp2_with (at_builtin; refine wpList_append_own_at _ rfl _ _ 221 rfl w.heap.size 227 i0 (.agg #[.int .i64 0, .int .i64 0]) 2 16 Tryz.underlying221 HI.out HZ0.out HZ1.out HZ2.out rfl (by decide) (.slice ro c rc) c (rgC (Rg.outs (ps.take k) n)) rfl HA.out ⟨w3.heap.size, 0, none⟩ 1 1 [.int .i64 qa, .int .i64 qb] rfl rfl (two_new16 _ _ _ _) (by simp [Value.oneCell']) (by unfold maxLen; omega) (by have := hmb2; omega) (by simp; have := HB3.out.size; omega) ?_; intro v4 w4 hown4 hgrow4 _ _; refine Hid.out ?_);refine hid' ?_;have e : rgC (Rg.outs (ps.take k) n) ++ [Value.int .i64 qa, .int .i64 qb] = rgC (Rg.outs (ps.take (k + 1)) n) := by rw [HKF.out, rgC_app]; simp [rgC, rgV]
    rw [e] at hown4;obtain ⟨v4o, v4c, hv4⟩ := own_shape16 hown4;subst hv4;have HO4 := hid' hown4;have HP4 := hid' (own_grown HPb.out hgrow4 (fun j hj e => own_diff16 HPb.out HA.out (by decide) j hj e.symm));have HB4 : Hid (Below w.heap.size w w4) := hid' ((HB3.out.alloc HB3.out.size _).grown hgrow4 (by simp; have := HB3.out.size; omega) (fun k hk => (HA.out.lt k hk).1));clear hown4 hgrow4 e p0 p1;go_wp2;go_roundw
    case rel => exact ⟨k + 1, c + 1, v4o, v4c, by go_num, rfl, by omega, by omega, HG2, hid' (by rw [HKF.out, List.length_append, HCL.out]; rfl), HO4, HP4, HB4⟩
    case measure => simp [intOf]; omega
  ·have hkm : m = k := by omega
   subst hkm;have hlt2 : ¬ (m : Int) < (m : Int) := by omega
   have HTk : Hid (ps.take m = ps) := hid' (List.take_of_length_le (by rw [HM.out]; exact Nat.le_refl _));rw [HTk.out] at HGD HCL HO;have HE0 : Hid (Rg.err l n = if 8 < m then 4 else if (Rg.outs ps n).isEmpty then 161 else 0) := hid' (by rw [HER.out, HNE.out, HGD.out, HM.out]; rfl);clear hlt;by_cases h8 : 8 < m
   ·have h8I : (8 : Int) < (m : Int) := by omega
    have HE : Hid (Rg.err l n = 4) := hid' (by rw [HE0.out, if_pos h8]);have HR := hid' (HNO.out 4 HE.out (by decide));go_wp2;go_ret2;exact ⟨⟨0, none, 0, by rw [HE.out]; rfl, by rw [HR.out]; rfl, by rw [HR.out]; exact World.ownsRow_nil _ _ _ _⟩, HB.out⟩
   have h8I : ¬ (8 : Int) < (m : Int) := by omega
   by_cases hc0 : c = 0
   ·have hcB : ((c : Int) == 0) = true := by rw [beq_iff_eq]; omega
    have HE : Hid (Rg.err l n = 161) := hid' (by
     have : Rg.outs ps n = [] := List.eq_nil_of_length_eq_zero (HCL.out.trans hc0);rw [HE0.out, if_neg h8, this]; rfl)
    have HR := hid' (HNO.out 161 HE.out (by decide));clear hc0;go_wp2;go_ret2;exact ⟨⟨0, none, 0, by rw [HE.out]; rfl, by rw [HR.out]; rfl, by rw [HR.out]; exact World.ownsRow_nil _ _ _ _⟩, HB.out⟩
   ·have hcB : ((c : Int) == 0) = false := by rw [beq_eq_false_iff_ne]; omega
    have HE : Hid (Rg.err l n = 0) := hid' (by
     rw [HE0.out, if_neg h8];cases hq : Rg.outs ps n with
     | nil => rw [hq] at HCL; exact absurd HCL.out.symm hc0
     | cons a b => rfl)
    have HR := hid' (HRS.out HE.out);clear hc0;go_wp2;go_ret2;exact ⟨⟨c, ro, rc, by rw [HE.out]; rfl, by rw [HR.out]; exact HCL.out, by rw [HR.out]; exact HO.out⟩, HB.out⟩

open Go.RowKit Go.Sort

def zC16 (l : List Int) : List Value := l.map fun n => .int .i64 n
theorem nz16 (l : List Nat) : nC16 l = zC16 (l.map fun (n : Nat) => (n : Int)) := by unfold nC16 zC16; rw [List.map_map]; rfl
theorem map_block16 {w : World} {g : Nat} {cur : Array Value} {T : TypeId} (f : Array Value → Array Value) (hh : w.heap[g]? = some (.cells cur T (0, 0))) : (mapBlock w g f).heap[g]? = some (.cells (f cur) T (0, 0)) := by
 unfold mapBlock;simp only [Array.getElem?_modify, if_true, hh, Option.map_some, onCells]
theorem map_other16 {w : World} {g k : Nat} (f : Array Value → Array Value) (hk : k ≠ g) : (mapBlock w g f).heap[k]? = w.heap[k]? := by
 unfold mapBlock;simp only [Array.getElem?_modify];rw [if_neg (fun e => hk e.symm)]
theorem map_size16 {w : World} {g : Nat} (f : Array Value → Array Value) : (mapBlock w g f).heap.size = w.heap.size := by simp [mapBlock]
theorem holds_own16 {w : World} {g m : Nat} {cur : Array Value} {T : TypeId} {l : List Int} (hl : l.length = m) (hh : w.heap[g]? = some (.cells cur T (0, 0))) (hc : cur.toList.take m = zC16 l) : Holds (Value.int .i64) w g 0 l.toArray := by
 intro j hj;have hj2 : j < m := by simp at hj; omega
 have hA : Ar w g T cur := hh;rw [Nat.zero_add];refine ⟨hA.cell j _ ?_, hA.free j⟩;have h1 : (zC16 l)[j]? = cur[j]? := by rw [← hc, List.getElem?_take, if_pos hj2, Array.getElem?_toList]
 rw [← h1, getElem!_pos l.toArray j hj];unfold zC16;rw [List.getElem?_map, List.getElem?_eq_getElem (by simpa using hj)];rfl
theorem put_take16 (n : Nat) (l : List Int) (c : Array Value) (hl : l.length = n) (hc : n ≤ c.size) : (putCells (Value.int .i64) 0 l.toArray c).toList.take n = zC16 l := by
 apply List.ext_getElem?;intro t;rw [List.getElem?_take];by_cases ht : t < n
 ·rw [if_pos ht];have hs : t < l.toArray.size := by simp; omega
  rw [Array.getElem?_toList];unfold putCells zC16;rw [Array.getElem?_mapIdx, Array.getElem?_eq_getElem (by omega), Option.map_some, if_pos ⟨Nat.zero_le _, by omega⟩, Nat.sub_zero, getElem!_pos _ t hs, List.getElem?_map, List.getElem?_eq_getElem (by simpa using hs)];rfl
 ·rw [if_neg ht, List.getElem?_eq_none (by simp [zC16]; omega)]
theorem sort_back16 (xs : List Nat) (s : List Int) (hs : s.Pairwise (· ≤ ·)) (hp : s.Perm (xs.map fun (n : Nat) => (n : Int))) : ∃ t : List Nat, s = t.map (fun (n : Nat) => (n : Int)) ∧ t.Pairwise (· ≤ ·) ∧ t.Perm xs := by
 have h0 : ∀ z ∈ s, 0 ≤ z := fun z hz => by
  obtain ⟨n, _, rfl⟩ := List.mem_map.1 (hp.mem_iff.1 hz);omega
 have e : s = (s.map Int.toNat).map (fun (n : Nat) => (n : Int)) := by
  rw [List.map_map]
  conv => lhs; rw [← List.map_id s]
  apply List.map_congr_left;intro z hz;simp only [id, Function.comp];have := h0 z hz;omega
 refine ⟨s.map Int.toNat, e, ?_, ?_⟩
 ·rw [List.pairwise_map];exact hs.imp (fun h => by omega)
 ·have := hp.map Int.toNat;rw [List.map_map] at this;have e2 : xs.map (Int.toNat ∘ fun (n : Nat) => (n : Int)) = xs := by
   conv => rhs; rw [← List.map_id xs]
   apply List.map_congr_left;intro z _;simp
  rwa [e2] at this

theorem csort16 (B n cap : Nat) (ao : Option Addr) (xs : List Nat) (hn : xs.length = n) (w : World) (h : w.ownsRow B 3 1 (.slice ao n cap) n (nC16 xs)) (hnb : n ≤ 1048576) (hB : B ≤ w.heap.size) :
  Calls Tryz.prog 233 #[.slice ao n cap] w fun e w' => e = .returned (.tuple #[]) ∧ (∃ t : List Nat, t.Pairwise (· ≤ ·) ∧ t.Perm xs ∧ w'.ownsRow B 3 1 (.slice ao n cap) n (nC16 t)) ∧ Below B w w' := by
 rcases h.2 with ⟨h1, h0⟩ | ⟨g, cap', cur, h1, hB1, hh, h2, h3, h4, h5⟩
 ·obtain rfl : xs = [] := List.eq_nil_of_length_eq_zero (hn.trans h0);obtain rfl : n = 0 := h0;refine Calls.mono (show Calls Tryz.prog 233 _ _ _ from Any.slices_Sort_int_none Tryz.lsorti ao cap w) ?_;rintro e w' ⟨he, rfl⟩;exact ⟨he, ⟨[], List.Pairwise.nil, List.Perm.refl _, h⟩, Below.refl _ _⟩
 ·injection h1 with h1 _ h6;subst h1 h6;rw [Nat.mul_one] at h4 h5;have hg : g < w.heap.size := (Array.getElem?_eq_some_iff.1 hh).1;have hzl : (xs.map fun (n : Nat) => (n : Int)).length = n := by rw [List.length_map, hn]
  rw [nz16] at h5;have hcon := Any.slices_Sort_int Tryz.lsorti g 0 cap (xs.map fun (n : Nat) => (n : Int)) w (holds_own16 hzl hh h5) hg (by omega);rw [hzl] at hcon;refine Calls.mono (show Calls Tryz.prog 233 _ _ _ from hcon) ?_;rintro e w' ⟨he, k, os, hw⟩;have hp := List.mergeSort_perm (xs.map fun (n : Nat) => (n : Int)) (fun x y => decide (x ≤ y));have hs := List.pairwise_mergeSort (le := fun (x y : Int) => decide (x ≤ y)) (fun a b c h1 h2 => by simp at *; omega) (fun a b => by simp; omega) (xs.map fun (n : Nat) => (n : Int));obtain ⟨sl, hsl⟩ : ∃ sl, (xs.map fun (n : Nat) => (n : Int)).mergeSort (fun x y => decide (x ≤ y)) = sl := ⟨_, rfl⟩;rw [hsl] at hw hp hs;obtain ⟨t, rfl, ht1, ht2⟩ := sort_back16 xs sl (hs.imp (fun h => of_decide_eq_true h)) hp;have htl : t.length = n := ht2.length_eq.trans hn;have hsz : (putRow (Value.int .i64) (Sort.ahead w k) g 0 (t.map fun (n : Nat) => (n : Int)).toArray).heap.size = w.heap.size := map_size16 _;have hw2 : w'.heap[g]? = some (.cells (putCells (Value.int .i64) 0 (t.map fun (n : Nat) => (n : Int)).toArray cur) 3 (0, 0)) := by
   rw [hw, heap_grow_old _ _ (by rw [hsz]; exact hg)];exact map_block16 _ hh
  refine ⟨he, ⟨t, ht1, ht2, by rw [show (nC16 t).length = t.length by simp [nC16], htl, Nat.mul_one], .inr ⟨g, cap, _, rfl, hB1, hw2, h2, h3, ?_, ?_⟩⟩, ?_⟩
  ·simp [putCells, h4]
  ·rw [nz16, Nat.mul_one];exact put_take16 n _ cur (by rw [List.length_map]; exact htl) (by omega)
  ·have hsw : w'.heap.size = w.heap.size + os.size := by rw [hw, size_grow, hsz]
   refine ⟨by rw [hw]; rfl, by rw [hw]; rfl, by rw [hw]; rfl, by omega, ?_⟩;intro j hj;have hjw : j < w.heap.size := by omega
   rw [hw, heap_grow_old _ _ (by rw [hsz]; exact hjw)];exact map_other16 _ (by omega)

theorem own_num16 {w : World} {B : Nat} {e : TypeId} {ao : Option Addr} {n m cap : Nat} {l : List Nat} (h : w.ownsRow B e 1 (.slice ao n cap) m (nC16 l)) (i p : Nat) (hp : l[i]? = some p) : ∃ g, ao = some ⟨g, 0, none⟩ ∧ w.cell? ⟨g, i, none⟩ = some (.int .i64 (p : Int)) := by
 have hx : (nC16 l)[i]? = some (.int .i64 (p : Int)) := by unfold nC16; rw [List.getElem?_map, hp]; rfl
 have hlt := (List.getElem?_eq_some_iff.1 hx).1;rcases h.2 with ⟨_, h0⟩ | ⟨g, cap', cur, h1, h2⟩
 ·rw [h.1, h0] at hlt; omega
 ·injection h1 with h1 h3 h4;subst h1;have := h.cells (g := g) rfl i _ hx;rw [Addr.add_mid, Nat.zero_add] at this;exact ⟨g, rfl, this⟩

set_option maxRecDepth 20000 in
theorem cfree16 (B n cap : Nat) (ao : Option Addr) (xs : List Nat) (hn : xs.length = n) (w : World) (h : w.ownsRow B 3 1 (.slice ao n cap) n (nC16 xs)) (hnb : n ≤ 1048576) (hB : B ≤ w.heap.size) :
  Calls Tryz.prog 213 #[.slice ao n cap] w fun e w' => (∃ t : List Nat, t.Pairwise (· ≤ ·) ∧ t.Perm xs ∧ e = .returned (.int .i64 (Rg.lf t 0 : Int))) ∧ Below B w w' := by
 have HS := hid' (csort16 B n cap ao xs hn w h hnb hB);have HN := hid' hn;clear h hB hn;go_enter Tryz.func213, Tryz.ntmps213;go_wp2_with fail;refine HS.out.mono ?_;rintro e w1 ⟨rfl, ⟨t, ht1, ht2, hown⟩, hb1⟩;have HO := hid' hown;have HB := hid' hb1;have HT1 := hid' ht1;have HT2 := hid' ht2;have HTL : Hid (t.length = n) := hid' (ht2.length_eq.trans HN.out);clear HS ht1 ht2 hown hb1;go_wp2;go_loopw [3, 5, 10] (fun s3 s5 s10 wr => ∃ (f i : Nat), s3 = .int .i64 (f : Int) ∧ s10 = .int .i64 (i : Int) ∧ i ≤ n ∧ f ≤ i ∧ Hid (Rg.lf t 0 = Rg.lf (t.drop i) f) ∧ wr = w1) (fun _ _ s10 _ => n - (intOf s10).toNat)
 case atStart => exact ⟨0, 0, rfl, rfl, Nat.zero_le _, Nat.le_refl _, hid' (by rw [List.drop_zero]), rfl⟩
 case round =>
  obtain ⟨f, i, rfl, rfl, hi, hf, HL, hwr⟩ := hrel;subst hwr;by_cases hlt : i < n
  ·have hlt2 : (i : Int) < (n : Int) := by omega
   obtain ⟨p, hp⟩ : ∃ p, t[i]? = some p := ⟨_, List.getElem?_eq_getElem (by rw [HTL.out]; exact hlt)⟩;obtain ⟨g, rfl, y0⟩ := own_num16 HO.out i p hp;have HD : Hid (t.drop i = p :: t.drop (i + 1)) := hid' (by
    obtain ⟨h1, h2⟩ := List.getElem?_eq_some_iff.1 hp;rw [List.drop_eq_getElem_cons h1, h2])
   rw [HD.out, Rg.lf] at HL;clear hp;by_cases hpf : p = f
   ·have hpB : ((p : Int) == (f : Int)) = true := by rw [beq_iff_eq]; omega
    rw [if_pos hpf] at HL;clear hpf;go_wp2;go_roundw
    case rel => exact ⟨f + 1, i + 1, by go_num, by go_num, by omega, by omega, HL, by trivial⟩
    case measure => simp [intOf]; omega
   ·have hpB : ((p : Int) == (f : Int)) = false := by rw [beq_eq_false_iff_ne]; omega
    rw [if_neg hpf] at HL;clear hpf;go_wp2;go_roundw
    case rel => exact ⟨f, i + 1, by go_num, by go_num, by omega, by omega, HL, by trivial⟩
    case measure => simp [intOf]; omega
  ·have hlt2 : ¬ (i : Int) < (n : Int) := by omega
   have HE : Hid (Rg.lf t 0 = f) := hid' (by rw [HL.out, List.drop_eq_nil_of_le (by have := HTL.out; omega)]; rfl);clear hlt;go_wp2;go_ret;exact ⟨⟨t, HT1.out, HT2.out, by rw [HE.out]; rfl⟩, HB.out⟩

namespace Rg
theorem line_len (n : Nat) (h : n < 10000000000000000000) : (line n).length ≤ 25 := by
 unfold line;have := Tx.itoa_le (n : Int) 19 (by omega);simp [sPart]; omega
end Rg


theorem line_cat16 (c : List UInt8) : (⟨#[112, 97, 114, 116]⟩ : ByteArray) ++ ⟨c.toArray⟩ = ⟨(Rg.sPart ++ c).toArray⟩ := by
 apply ByteArray.ext; simp [Rg.sPart]


namespace Rg
def IsFree (l : T8) (q : Nat) : Prop := stands (line q) l = false ∧ (∀ m, m < q → stands (line m) l = true) ∧ q ≤ l.length
theorem free_ex (l : T8) : ∃ q, IsFree l q := by
 have hp := List.mergeSort_perm (taken l.length l) (fun x y => decide (x ≤ y));have hs := List.pairwise_mergeSort (le := fun (x y : Nat) => decide (x ≤ y)) (fun a b c h1 h2 => by simp at *; omega) (fun a b => by simp; omega) (taken l.length l);exact ⟨_, lf_line l _ (hs.imp (fun h => of_decide_eq_true h)) hp⟩
theorem free_one {l : T8} {q q' : Nat} (h : IsFree l q) (h' : IsFree l q') : q = q' := by
 obtain ⟨a1, a2, _⟩ := h;obtain ⟨b1, b2, _⟩ := h';rcases Nat.lt_trichotomy q q' with h | h | h
 ·rw [b2 q h] at a1; cases a1
 ·exact h
 ·rw [a2 q' h] at b1; cases b1
end Rg

theorem cline16 (x : ByteArray) (q : Nat) (hq : Rg.IsFree x.data.toList q) (w : World) (hx : x.size ≤ 1048576) (hT : TB16 w) :
  Calls Tryz.prog 191 #[.string x] w fun e w' => e = .returned (.string ⟨(Rg.line q).toArray⟩) ∧ Below w.heap.size w w' := by
 have HTK := hid' (ctaken16 x x.data.toList rfl w hx hT);have HT := hid' hT;have HQ := hid' hq;have hqb : q ≤ 1048576 := by have := hq.2.2; rw [← Lib.size_eq] at this; omega
 obtain ⟨c, hc⟩ : ∃ c, Lib.itoa (q : Int) = c := ⟨_, rfl⟩;have lc : c.length ≤ 21 := by rw [← hc]; exact Tx.itoa_le _ 19 (by omega)
 have HD := hid' (fun W (h : TB16 W) => decimal_any (q : Int) (by omega) (by omega) W h.1);rw [hc] at HD;have k1 : ¬ 9223372036854775807 < 4 + c.length := by omega
 have HYE : Hid ((⟨#[112, 97, 114, 116]⟩ : ByteArray) ++ ⟨c.toArray⟩ = ⟨(Rg.line q).toArray⟩) := hid' (by rw [line_cat16]; unfold Rg.line; rw [hc]);clear hT hq hc;go_enter Tryz.func191, Tryz.ntmps191;go_wp2_with fail;refine HTK.out.mono ?_;rintro e w1 ⟨⟨m, ro, rc, rfl, hm, hown⟩, hb1⟩;have HB1 := hid' hb1;have HFR := hid' (cfree16 w.heap.size m rc ro _ hm w1 hown (by
  have := (Rg.taken_bound x.data.toList.length _ x.data.toList (Nat.le_refl _)).1;rw [hm, ← Lib.size_eq] at this;omega) hb1.size)
 clear hm hown hb1 HTK;go_wp2_with fail;refine HFR.out.mono ?_;rintro e w2 ⟨⟨t, ht1, ht2, rfl⟩, hb2⟩;have hfq : Rg.lf t 0 = q := Rg.free_one (Rg.lf_line x.data.toList t ht1 ht2) HQ.out;rw [hfq];have HB2 := hid' (HB1.out.trans hb2);have HT2 := hid' (HT.out.keep HB2.out);clear ht1 ht2 hb2 hfq HFR;go_wp2_with fail;refine (HD.out _ HT2.out).mono ?_;rintro e w3 ⟨rfl, hb3⟩;have HB3 := hid' (below_two HB2.out hb3);clear hb3;go_wp2;go_ret;exact ⟨by rw [HYE.out]; rfl, HB3.out⟩

end Go.Proofs.YthhpejgpfaikaabGreatDoor
