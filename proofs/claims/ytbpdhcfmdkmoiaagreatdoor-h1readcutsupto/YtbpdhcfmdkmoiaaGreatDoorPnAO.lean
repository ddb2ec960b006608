/-
  The reader's has, holds, expectsMore, isDigit, isVersion: by their contracts.
  List, by its contract.
-/
import Derived.Test.YtbpdhcfmdkmoiaaGreatDoorPnAN
import Derived.Test.YtbpdhcfmdkmoiaaGreatDoorPnAJ
namespace Go.Proofs.YtbpdhcfmdkmoiaaGreatDoor
open Go.RowKit

theorem own_keep21 {w w' : World} {B : Nat} {e : TypeId} {s : Nat} {v : Value} {n : Nat} {xs : List Value} (h : w.ownsRow B e s v n xs) (hb : Below w.heap.size w w') : w'.ownsRow B e s v n xs :=
  own_same h (fun k hk => (LF.of_below (S := fun _ => False) hb).block k (own_lt h k hk) id)
theorem str_at21 {w : World} {B : Nat} {e : TypeId} {ao : Option Addr} {n cap : Nat} {l : List (List UInt8)} (h : w.ownsRow B e 1 (.slice ao n cap) n (strCells l)) (i : Nat) (f : List UInt8) (hf : l[i]? = some f) : ∃ g, ao = some ⟨g, 0, none⟩ ∧ w.cell? ⟨g, i, none⟩ = some (.string ⟨f.toArray⟩) := by
  have k0 : (strCells l)[i]? = some (.string ⟨f.toArray⟩) := by simp [strCells, hf]
  have hlt := (List.getElem?_eq_some_iff.1 k0).1
  rcases h.2 with ⟨_, h0⟩ | ⟨g, cap', cur, h1, h2⟩
  · rw [h.1, h0] at hlt; omega
  · injection h1 with h1 h3 h4
    subst h1
    have c0 := h.cells (g := g) rfl _ _ k0
    rw [Addr.add_mid, Nat.zero_add] at c0
    exact ⟨g, rfl, c0⟩
theorem Hr.any_drop {α : Type} {l : List α} {i : Nat} {p : α} (q : α → Bool) (h : l[i]? = some p) : (l.drop i).any q = (q p || (l.drop (i + 1)).any q) := by
  obtain ⟨hl, rfl⟩ := List.getElem?_eq_some_iff.1 h
  rw [List.drop_eq_getElem_cons hl, List.any_cons]

set_option maxHeartbeats 2000000 in
set_option maxRecDepth 20000 in
theorem chas21 (v : Value) (l : List Fd) (x : ByteArray) (r : Bool) (hr : Hr.hasB l x.toList = r) (w : World) (h : FW w v l) (hl : l.length ≤ 1048576) :
    Calls Tryz.prog 56 #[v, .string x] w fun e w' => e = .returned (.bool r) ∧ Below w.heap.size w w' := by
  obtain ⟨ao, cap, hv⟩ := h.shape
  subst hv
  obtain ⟨n, hn⟩ : ∃ n, l.length = n := ⟨_, rfl⟩
  rw [hn] at h hl ⊢
  have H := hid' h
  have HN := hid' hn
  have HR := hid' hr
  clear h hn hr
  go_enter Tryz.func56, Tryz.ntmps56
  go_wp2
  go_loopw [9] (fun s9 wr => ∃ i : Nat, s9 = .int .i64 (i : Int) ∧ i ≤ n ∧ Hid (Hr.hasB (l.drop i) x.toList = r) ∧ Hid (Below w.heap.size w wr)) (fun s9 _ => n - (intOf s9).toNat)
  case atStart => exact ⟨0, rfl, Nat.zero_le _, HR, hid' (Below.refl _ _)⟩
  case round =>
    obtain ⟨i, rfl, hi, HI, HBR⟩ := hrel
    by_cases hlt : i < n
    · have hlt2 : (i : Int) < (n : Int) := by omega
      obtain ⟨f, hfi⟩ : ∃ f, l[i]? = some f := ⟨_, List.getElem?_eq_getElem (by rw [HN.out]; exact hlt)⟩
      obtain ⟨a, hfo, y0, y1⟩ := (H.out.keep HBR.out).two i f hfi
      subst hfo
      have HD : Hid (((f.n.toList == x.toList) || Hr.hasB (l.drop (i + 1)) x.toList) = r) := hid' (by rw [← HI.out]; exact (Hr.any_drop (fun g : Fd => g.n.toList == x.toList) hfi).symm)
      have HLT := hid' hlt
      clear hfi hlt
      have HW : Hid (Ar (wr.alloc (.cells #[.string f.n, .string f.v] 52)) wr.heap.size 52 #[.string f.n, .string f.v]) := hid' (heap_alloc_last wr _)
      have HBW := hid' (below_two HBR.out (bl_alloc wr (.cells #[.string f.n, .string f.v] 52)))
      go_upto_region 4 with fail
      obtain ⟨sb, hsb⟩ : ∃ sb, wr.heap.size = sb := ⟨_, rfl⟩
      rw [hsb] at HW ⊢
      generalize wr.alloc (.cells #[.string f.n, .string f.v] 52) = w2 at *
      clear hsb y0 y1
      have z0 := HW.out.cell 0 _ rfl
      cases c1 : (f.n.toList == x.toList)
      · have HE : Hid (Hr.hasB (l.drop (i + 1)) x.toList = r) := hid' (by have := HD.out; rwa [c1, Bool.false_or] at this)
        go_wp2
        go_roundw
        case rel => exact ⟨i + 1, by go_num, by have := HLT.out; omega, HE, HBW⟩
        case measure => have := HLT.out; simp [intOf]; omega
      · have HE : Hid (true = r) := hid' (by have := HD.out; rwa [c1, Bool.true_or] at this)
        go_wp2
        go_ret
        exact ⟨by rw [← HE.out]; rfl, HBW.out⟩
    · obtain rfl : i = n := by omega
      have hlt2 : ¬ (i : Int) < (i : Int) := by omega
      have HE : Hid (false = r) := hid' (by have := HI.out; rwa [List.drop_of_length_le (by rw [HN.out]; exact Nat.le_refl _)] at this)
      clear hlt
      go_wp2
      go_ret
      exact ⟨by rw [← HE.out]; rfl, HBR.out⟩

set_option maxHeartbeats 2000000 in
set_option maxRecDepth 20000 in
theorem cexp21 (v : Value) (l : List Fd) (r : Bool) (hr : Hr.expE l = r) (w : World) (h : FW w v l) (hl : l.length ≤ 1048576) (hs : ∀ f ∈ l, f.v.size ≤ 140737488355328) :
    Calls Tryz.prog 68 #[v] w fun e w' => e = .returned (.bool r) ∧ Below w.heap.size w w' := by
  obtain ⟨ao, cap, hv⟩ := h.shape
  subst hv
  obtain ⟨n, hn⟩ : ∃ n, l.length = n := ⟨_, rfl⟩
  rw [hn] at h hl ⊢
  have H := hid' h
  have HN := hid' hn
  have HR := hid' hr
  have HS := hid' hs
  clear h hn hr hs
  go_enter Tryz.func68, Tryz.ntmps68
  go_wp2
  go_loopw [7] (fun s7 wr => ∃ i : Nat, s7 = .int .i64 (i : Int) ∧ i ≤ n ∧ Hid (Hr.expE (l.drop i) = r) ∧ Hid (Below w.heap.size w wr)) (fun s7 _ => n - (intOf s7).toNat)
  case atStart => exact ⟨0, rfl, Nat.zero_le _, HR, hid' (Below.refl _ _)⟩
  case round =>
    obtain ⟨i, rfl, hi, HI, HBR⟩ := hrel
    by_cases hlt : i < n
    · have hlt2 : (i : Int) < (n : Int) := by omega
      obtain ⟨f, hfi⟩ : ∃ f, l[i]? = some f := ⟨_, List.getElem?_eq_getElem (by rw [HN.out]; exact hlt)⟩
      obtain ⟨a, hfo, y0, y1⟩ := (H.out.keep HBR.out).two i f hfi
      subst hfo
      have HD : Hid (((f.n.toList == Hr.sExp && !(Tx.lower f.v.data.toList == Hr.sCont)) || Hr.expE (l.drop (i + 1))) = r) := hid' (by rw [← HI.out]; exact (Hr.any_drop (fun g : Fd => g.n.toList == Hr.sExp && !(Tx.lower g.v.data.toList == Hr.sCont)) hfi).symm)
      have HV := hid' (HS.out f (List.mem_of_getElem? hfi))
      have HLT := hid' hlt
      clear hfi hlt
      have HW : Hid (Ar (wr.alloc (.cells #[.string f.n, .string f.v] 52)) wr.heap.size 52 #[.string f.n, .string f.v]) := hid' (heap_alloc_last wr _)
      have HBW := hid' (below_two HBR.out (bl_alloc wr (.cells #[.string f.n, .string f.v] 52)))
      go_upto_region 4 with fail
      obtain ⟨sb, hsb⟩ : ∃ sb, wr.heap.size = sb := ⟨_, rfl⟩
      rw [hsb] at HW ⊢
      generalize wr.alloc (.cells #[.string f.n, .string f.v] 52) = w2 at *
      clear hsb y0 y1
      have z0 := HW.out.cell 0 _ rfl
      have z1 := HW.out.cell 1 _ rfl
      cases c1 : (f.n.toList == [101, 120, 112, 101, 99, 116])
      · have HE : Hid (Hr.expE (l.drop (i + 1)) = r) := hid' (by have := HD.out; unfold Hr.sExp at this; rwa [c1, Bool.false_and, Bool.false_or] at this)
        go_wp2_with fail
        go_roundw
        case rel => exact ⟨i + 1, by go_num, by have := HLT.out; omega, HE, HBW⟩
        case measure => have := HLT.out; simp [intOf]; omega
      · obtain ⟨t, ht⟩ : ∃ t, (Tx.lower f.v.data.toList == Hr.sCont) = t := ⟨_, rfl⟩
        have HT : Hid (∀ W, Calls Tryz.prog 89 #[.string f.v, .string ⟨#[49, 48, 48, 45, 99, 111, 110, 116, 105, 110, 117, 101]⟩] W fun e w' => e = .returned (.bool t) ∧ Below W.heap.size W w') := hid' (fun W => csame14 f.v _ t (by rw [← ht]; rfl) W HV.out (by decide))
        have HE : Hid ((!t || Hr.expE (l.drop (i + 1))) = r) := hid' (by have := HD.out; unfold Hr.sExp at this; rwa [c1, Bool.true_and, ht] at this)
        clear ht
        cases t
        · have HE2 : Hid (true = r) := hid' HE.out
          go_wp2_with (refine (HT.out _).mono ?_; rintro e w3 ⟨rfl, hb3⟩)
          go_ret
          exact ⟨by rw [← HE2.out]; rfl, below_two HBW.out hb3⟩
        · go_wp2_with (refine (HT.out _).mono ?_; rintro e w3 ⟨rfl, hb3⟩)
          go_roundw
          case rel => exact ⟨i + 1, by go_num, by have := HLT.out; omega, hid' HE.out, hid' (below_two HBW.out hb3)⟩
          case measure => have := HLT.out; simp [intOf]; omega
    · obtain rfl : i = n := by omega
      have hlt2 : ¬ (i : Int) < (i : Int) := by omega
      have HE : Hid (false = r) := hid' (by have := HI.out; rwa [List.drop_of_length_le (by rw [HN.out]; exact Nat.le_refl _)] at this)
      clear hlt
      go_wp2
      go_ret
      exact ⟨by rw [← HE.out]; rfl, HBR.out⟩

set_option maxHeartbeats 2000000 in
set_option maxRecDepth 20000 in
theorem cholds21 (B : Nat) (v : Value) (l : List (List UInt8)) (x : ByteArray) (r : Bool) (hr : Hr.holds l (Tx.lower x.data.toList) = r) (w : World) (h : w.ownsRow B 9 1 v l.length (strCells l)) (hl : l.length ≤ 9223372036854775806) (hs : ∀ f ∈ l, f.length ≤ 140737488355328) (hx : x.size ≤ 140737488355328) :
    Calls Tryz.prog 78 #[v, .string x] w fun e w' => e = .returned (.bool r) ∧ Below w.heap.size w w' := by
  obtain ⟨ao, cap, hv⟩ := own_shape h
  subst hv
  obtain ⟨n, hn⟩ : ∃ n, l.length = n := ⟨_, rfl⟩
  rw [hn] at h hl ⊢
  have H := hid' h
  have HN := hid' hn
  have HR := hid' hr
  have HS := hid' hs
  have HX := hid' hx
  clear h hn hr hs hx
  go_enter Tryz.func78, Tryz.ntmps78
  go_wp2
  go_loopw [9] (fun s9 wr => ∃ i : Nat, s9 = .int .i64 (i : Int) ∧ i ≤ n ∧ Hid (Hr.holds (l.drop i) (Tx.lower x.data.toList) = r) ∧ Hid (Below w.heap.size w wr)) (fun s9 _ => n - (intOf s9).toNat)
  case atStart => exact ⟨0, rfl, Nat.zero_le _, HR, hid' (Below.refl _ _)⟩
  case round =>
    obtain ⟨i, rfl, hi, HI, HBR⟩ := hrel
    by_cases hlt : i < n
    · have hlt2 : (i : Int) < (n : Int) := by omega
      obtain ⟨f, hfi⟩ : ∃ f, l[i]? = some f := ⟨_, List.getElem?_eq_getElem (by rw [HN.out]; exact hlt)⟩
      obtain ⟨g, hfo, y0⟩ := str_at21 (own_keep21 H.out HBR.out) i f hfi
      subst hfo
      obtain ⟨t, ht⟩ : ∃ t, (Tx.lower f == Tx.lower x.data.toList) = t := ⟨_, rfl⟩
      have HD : Hid ((t || Hr.holds (l.drop (i + 1)) (Tx.lower x.data.toList)) = r) := hid' (by rw [← HI.out, ← ht]; exact (Hr.any_drop (fun g : List UInt8 => Tx.lower g == Tx.lower x.data.toList) hfi).symm)
      have HT : Hid (∀ W, Calls Tryz.prog 89 #[.string ⟨f.toArray⟩, .string x] W fun e w' => e = .returned (.bool t) ∧ Below W.heap.size W w') := hid' (fun W => csame14 _ _ t ht W (by have := HS.out f (List.mem_of_getElem? hfi); rw [Lib.size_eq]; exact this) HX.out)
      have HLT := hid' hlt
      clear hfi hlt ht
      cases t
      · have HE : Hid (Hr.holds (l.drop (i + 1)) (Tx.lower x.data.toList) = r) := hid' (by have := HD.out; rwa [Bool.false_or] at this)
        go_wp2_with (refine (HT.out _).mono ?_; rintro e w3 ⟨rfl, hb3⟩)
        go_roundw
        case rel => exact ⟨i + 1, by go_num, by have := HLT.out; omega, HE, hid' (below_two HBR.out hb3)⟩
        case measure => have := HLT.out; simp [intOf]; omega
      · have HE : Hid (true = r) := hid' (by have := HD.out; rwa [Bool.true_or] at this)
        go_wp2_with (refine (HT.out _).mono ?_; rintro e w3 ⟨rfl, hb3⟩)
        go_ret
        exact ⟨by rw [← HE.out]; rfl, below_two HBR.out hb3⟩
    · obtain rfl : i = n := by omega
      have hlt2 : ¬ (i : Int) < (i : Int) := by omega
      have HE : Hid (false = r) := hid' (by have := HI.out; rwa [List.drop_of_length_le (by rw [HN.out]; exact Nat.le_refl _)] at this)
      clear hlt
      go_wp2
      go_ret
      exact ⟨by rw [← HE.out]; rfl, HBR.out⟩

theorem cdig21 (c : UInt8) (w : World) : Calls Tryz.prog 44 #[.int .u8 (c.toNat : Int)] w fun e w' => e = .returned (.bool (Tx.digC (c.toNat : Int))) ∧ w' = w := by
  by_cases h1 : (48 : Int) ≤ (c.toNat : Int)
  · by_cases h2 : (c.toNat : Int) ≤ 57
    · have h3 : Tx.digC (c.toNat : Int) = true := by simp [Tx.digC, h1, h2]
      rw [h3]
      go_enter Tryz.func44, Tryz.ntmps44
      go_wp2
      go_ret
      exact ⟨rfl, rfl⟩
    · have h3 : Tx.digC (c.toNat : Int) = false := by simp [Tx.digC, h1, h2]
      rw [h3]
      go_enter Tryz.func44, Tryz.ntmps44
      go_wp2
      go_ret
      exact ⟨rfl, rfl⟩
  · have h3 : Tx.digC (c.toNat : Int) = false := by simp [Tx.digC, h1]
    rw [h3]
    go_enter Tryz.func44, Tryz.ntmps44
    go_wp2
    go_ret
    exact ⟨rfl, rfl⟩

end Go.Proofs.YtbpdhcfmdkmoiaaGreatDoor

namespace Go.Proofs.YtbpdhcfmdkmoiaaGreatDoor
open Go.RowKit

theorem ext_size (s : ByteArray) (a b : Nat) : (s.extract a b).size ≤ s.size := by simp; omega
theorem u8_eq {c : UInt8} {n : Nat} (h : ((c.toNat : Int) == (n : Int)) = true) (hn : n < 256) : c = UInt8.ofNat n := by
  rw [beq_iff_eq] at h
  apply UInt8.toNat_inj.1
  rw [UInt8.toNat_ofNat', Nat.mod_eq_of_lt hn]; omega
theorem u8_ne {c : UInt8} {n : Nat} (h : ((c.toNat : Int) == (n : Int)) = false) (hn : n < 256) : c ≠ UInt8.ofNat n := by
  rw [beq_eq_false_iff_ne] at h
  intro e; apply h; rw [e, UInt8.toNat_ofNat', Nat.mod_eq_of_lt hn]

set_option maxHeartbeats 2000000 in
theorem list_any (s : ByteArray) (w : World) (hs : s.size + 2 ≤ 8796093022208) :
    Calls Tryz.prog 102 #[.string s] w fun e w' => ∃ v, e = .returned v ∧ w'.ownsRow w.heap.size 9 1 v (Tx.list s.data.toList).length (strCells (Tx.list s.data.toList)) ∧ Below w.heap.size w w' := by
  go_enter Tryz.func102, Tryz.ntmps102
  go_wp2
  go_loopw [3, 4, 5, 6] (fun m st q i wr => ∃ (k sn : Nat) (qv : Bool) (ms : List (List UInt8)), k ≤ s.size + 1 ∧ i = .int .i64 k ∧ st = .int .i64 sn ∧ q = .bool qv ∧ wr.ownsRow w.heap.size 9 1 m ms.length (strCells ms) ∧ Below w.heap.size w wr ∧ Tx.ListRel s.data.toList ms sn k qv) (fun _ _ _ i _ => s.size + 1 - (intOf i).toNat)
  case atStart => exact ⟨0, 0, false, [], Nat.zero_le _, rfl, rfl, rfl, World.ownsRow_nil _ _ _ _, Below.refl _ _, Tx.ListRel.start _⟩
  case round =>
    obtain ⟨k, sn, qv, ms, hk, rfl, rfl, rfl, hown, hbel, hlr⟩ := hrel
    have hsk := hlr.stk
    have hle : sn ≤ s.size := by have := hlr.le; rw [← Lib.size_eq] at this; exact this
    have hmany := hlr.many
    have hsz := hbel.size
    have HL := hid hlr
    have HB := hid hbel
    clear hlr hbel
    by_cases hlt : k < s.size
    · have hl : k < s.data.toList.length := by rw [← Lib.size_eq]; exact hlt
      have HC : Hid (s.data.toList[k] = s[k]) := hid rfl
      by_cases c34 : ((s[k].toNat : Int) == 34) = true
      · have HN : Hid (Tx.ListRel s.data.toList ms sn (k + 1) (!qv)) := HL.out.quote hl (by rw [HC.out]; exact u8_eq c34 (by decide))
        go_wp2
        go_roundw
        case rel => exact ⟨k + 1, sn, !qv, ms, by omega, by go_num, rfl, rfl, hown, HB.out, HN.out⟩
        case measure => simp [intOf]; omega
      · replace c34 : ((s[k].toNat : Int) == 34) = false := by simpa using c34
        cases qv
        · by_cases c44 : ((s[k].toNat : Int) == 44) = true
          · have HN : Hid (Tx.ListRel s.data.toList (ms ++ Tx.addm (s.extract sn k).data.toList) (k + 1) (k + 1) false) := by
              rw [Lib.extract_data]
              exact HL.out.comma hl (by rw [HC.out]; exact u8_eq c44 (by decide))
            have hes := ext_size s sn k
            have hesm : (s.extract sn k).size ≤ maxLen := by unfold maxLen; omega
            go_wp2_with (go_at_call 120; refine (addMember_any w.heap.size _ ms (s.extract sn k) _ hesm hown hsz (by omega)).mono ?_; rintro e w1 ⟨v', rfl, hown', hb'⟩)
            go_roundw
            case rel => exact ⟨k + 1, k + 1, false, _, by omega, by go_num, by go_num, rfl, hown', HB.out.trans hb', HN.out⟩
            case measure => simp [intOf]; omega
          · replace c44 : ((s[k].toNat : Int) == 44) = false := by simpa using c44
            have HN : Hid (Tx.ListRel s.data.toList ms sn (k + 1) false) := HL.out.plain hl (by rw [HC.out]; exact u8_ne c34 (by decide)) rfl (by rw [HC.out]; simpa using u8_ne c44 (by decide))
            go_wp2
            go_roundw
            case rel => exact ⟨k + 1, sn, false, ms, by omega, by go_num, rfl, rfl, hown, HB.out, HN.out⟩
            case measure => simp [intOf]; omega
        · by_cases c92 : ((s[k].toNat : Int) == 92) = true
          · have HN : Hid (Tx.ListRel s.data.toList ms sn (k + 2) true) := HL.out.slash hl (by rw [HC.out]; exact u8_eq c92 (by decide))
            go_wp2
            go_roundw
            case rel => exact ⟨k + 2, sn, true, ms, by omega, by go_num, rfl, rfl, hown, HB.out, HN.out⟩
            case measure => simp [intOf]; omega
          · replace c92 : ((s[k].toNat : Int) == 92) = false := by simpa using c92
            have HN : Hid (Tx.ListRel s.data.toList ms sn (k + 1) true) := HL.out.plain hl (by rw [HC.out]; exact u8_ne c34 (by decide)) (by rw [HC.out]; simpa using u8_ne c92 (by decide)) rfl
            go_wp2
            go_roundw
            case rel => exact ⟨k + 1, sn, true, ms, by omega, by go_num, rfl, rfl, hown, HB.out, HN.out⟩
            case measure => simp [intOf]; omega
    · have HN : Hid (Tx.list s.data.toList = ms ++ Tx.addm (s.extract sn s.size).data.toList) := by
        rw [Lib.extract_data, List.take_of_length_le (by rw [List.length_drop, ← Lib.size_eq]; omega)]
        exact HL.out.stop (by rw [← Lib.size_eq]; omega)
      have hes := ext_size s sn s.size
      have hesm : (s.extract sn s.size).size ≤ maxLen := by unfold maxLen; omega
      go_wp2_with (go_at_call 120; refine (addMember_any w.heap.size _ ms (s.extract sn s.size) _ hesm hown hsz (by omega)).mono ?_; rintro e w1 ⟨v', rfl, hown', hb'⟩)
      go_ret
      exact ⟨v', rfl, by rw [HN.out]; exact hown', HB.out.trans hb'⟩

end Go.Proofs.YtbpdhcfmdkmoiaaGreatDoor
