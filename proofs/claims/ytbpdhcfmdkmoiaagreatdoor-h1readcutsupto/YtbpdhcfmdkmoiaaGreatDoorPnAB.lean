/-
  Messages on lists: lengths as decimals. What is of no program.
  Messages on lists: which request a header list is, and which a request line and fields are. What is of no program.
  The members of a list (P1.7): plain functions and lemmas, with no program in sight.
-/
import Derived.Test.YtbpdhcfmdkmoiaaGreatDoorPnAA
namespace Go.Proofs.YtbpdhcfmdkmoiaaGreatDoor
namespace Ms
open Tx

def dg (c : UInt8) : Bool := decide (48 ≤ c.toNat) && decide (c.toNat ≤ 57)
theorem dg_dgt (c : UInt8) : decide (dgt (c.toNat : Int) < 10) = dg c := by
  unfold dgt digC dg
  by_cases h1 : 48 ≤ c.toNat ∧ c.toNat ≤ 57
  · rw [if_pos (by simp; omega)]
    rw [decide_eq_true (by omega), decide_eq_true h1.1, decide_eq_true h1.2]; rfl
  · rw [if_neg (by simp; omega)]
    have : (decide (48 ≤ c.toNat) && decide (c.toNat ≤ 57)) = false := by simp; omega
    rw [this]
    apply decide_eq_false
    split
    · rename_i h; simp at h; omega
    · split
      · rename_i h; simp at h; omega
      · omega
theorem digs_dg (L : List UInt8) : digs 10 L = L.all dg := by
  unfold digs allC
  congr 1
  funext c
  exact dg_dgt c
theorem dgt_dg {c : UInt8} (h : dg c = true) : dgt (c.toNat : Int) = ((c.toNat - 48 : Nat) : Int) := by
  unfold dg at h
  simp at h
  unfold dgt digC
  rw [if_pos (by simp; omega)]
  omega
theorem of_dg {c : UInt8} (h : dg c = true) : UInt8.ofNat (48 + (c.toNat - 48)) = c := by
  unfold dg at h
  simp at h
  apply UInt8.toNat_inj.1
  rw [UInt8.toNat_ofNat', Nat.mod_eq_of_lt] <;> omega
theorem snoc_of {L : List UInt8} {n : Nat} (h : L.length = n + 1) : ∃ r c, L = r ++ [c] ∧ r.length = n := by
  have hne : L ≠ [] := by intro e; rw [e] at h; simp at h
  exact ⟨L.dropLast, L.getLast hne, (List.dropLast_concat_getLast hne).symm, by rw [List.length_dropLast]; omega⟩
/-- A decimal without noughts ahead is written as it is read. -/
theorem dec_back : ∀ (n : Nat) (L : List UInt8), L.length = n + 1 → L.all dg = true → (L.head? = some 48 → n = 0) → ∃ u : Nat, numv 10 L = (u : Int) ∧ Lib.decDigits u = L ∧ (L.head? ≠ some 48 → 1 ≤ u) ∧ u < 10 ^ (n + 1)
  | 0, L, hl, ha, _ => by
    obtain ⟨c, rfl⟩ := List.length_eq_one_iff.1 hl
    have hc : dg c = true := by simpa using ha
    refine ⟨c.toNat - 48, ?_, ?_, ?_, ?_⟩
    · unfold numv
      simp only [List.foldl_cons, List.foldl_nil]
      rw [dgt_dg hc]; omega
    · rw [Lib.decDigits_one (by unfold dg at hc; simp at hc; omega), of_dg hc]
    · intro hh
      unfold dg at hc
      simp at hc hh
      have : c.toNat ≠ 48 := fun e => hh (UInt8.toNat_inj.1 e)
      omega
    · unfold dg at hc; simp at hc; omega
  | n + 1, L, hl, ha, hh => by
    obtain ⟨r, c, rfl, hr⟩ := snoc_of hl
    rw [List.all_append, Bool.and_eq_true] at ha
    have hc : dg c = true := by simpa using ha.2
    have hhd : (r ++ [c]).head? = r.head? := by
      cases r with
      | nil => simp at hr
      | cons a b => rfl
    have h48 : r.head? ≠ some 48 := fun e => by have := hh (hhd.trans e); omega
    obtain ⟨u, hu, hd, h1, hb⟩ := dec_back n r hr ha.1 (fun e => absurd e h48)
    have hu1 := h1 h48
    have hc9 : c.toNat - 48 < 10 := by unfold dg at hc; simp at hc; omega
    refine ⟨u * 10 + (c.toNat - 48), ?_, ?_, fun _ => by omega, by rw [Nat.pow_succ]; omega⟩
    · rw [numv_snoc, hu, dgt_dg hc]; omega
    · rw [Lib.decDigits, dif_neg (by omega), show (u * 10 + (c.toNat - 48)) / 10 = u by omega, show (u * 10 + (c.toNat - 48)) % 10 = c.toNat - 48 by omega, hd, of_dg hc]
theorem dd_head : ∀ (m u : Nat), u ≤ m → 1 ≤ u → (Lib.decDigits u).head? ≠ some 48
  | 0, u, h, h1 => by omega
  | m + 1, u, h, h1 => by
    by_cases hs : u < 10
    · rw [Lib.decDigits_one hs]
      intro e
      simp only [List.head?_cons, Option.some.injEq] at e
      have := congrArg UInt8.toNat e
      rw [UInt8.toNat_ofNat', Nat.mod_eq_of_lt (by omega)] at this
      have h48 : (48 : UInt8).toNat = 48 := rfl
      omega
    · have ih := dd_head m (u / 10) (by omega) (by omega)
      rw [Lib.decDigits, dif_neg hs]
      have hne := (decDigits_reads (u / 10) (u / 10) (Nat.le_refl _)).2.2
      intro e
      apply ih
      cases hq : Lib.decDigits (u / 10) with
      | nil => rw [hq] at hne; simp at hne
      | cons a b => rw [hq] at e; exact e
theorem dec_eq (b : ByteArray) : dec b = (!(tx b == []) && decide (b.size ≤ 15) && !(((tx b).head? == some 48) && decide (1 < b.size)) && (tx b).all dg) := rfl
theorem tx_len (b : ByteArray) : (tx b).length = b.size := by rw [tx, ← Lib.size_eq]
/-- What a text that is a decimal reads as, and that it is written so. -/
theorem dec_num {b : ByteArray} (h : dec b = true) : ∃ u : Nat, num 10 (tx b) = ((u : Int), 0) ∧ Lib.decDigits u = tx b ∧ u < 1000000000000000 := by
  rw [dec_eq] at h
  simp only [Bool.and_eq_true, Bool.not_eq_true', decide_eq_true_eq] at h
  obtain ⟨⟨⟨h1, h2⟩, h3⟩, h4⟩ := h
  have hl := tx_len b
  have h0 : tx b ≠ [] := by intro e; rw [e] at h1; simp at h1
  have hp : 0 < (tx b).length := List.length_pos_iff.2 h0
  obtain ⟨n, hn⟩ : ∃ n, (tx b).length = n + 1 := ⟨(tx b).length - 1, by omega⟩
  obtain ⟨u, hu, hd, _, hb⟩ := dec_back n (tx b) hn h4 (fun e => by
    rw [e] at h3
    simp at h3
    omega)
  have hlt : u < 1000000000000000 := Nat.lt_of_lt_of_le hb (Nat.le_trans (Nat.pow_le_pow_right (by omega) (show n + 1 ≤ 15 by omega)) (by decide))
  refine ⟨u, ?_, hd, hlt⟩
  unfold num
  rw [if_neg (by rw [digs_dg, h4]; simp [h0]), if_neg (by rw [top_eq, hu]; omega), hu]
theorem dec_of {b : ByteArray} (h2 : (num 10 (tx b)).2 = 0) (hs : b.size ≤ 15) (hi : Lib.itoa (num 10 (tx b)).1 = tx b) : dec b = true := by
  have hq : (tx b).isEmpty = false ∧ digs 10 (tx b) = true ∧ num 10 (tx b) = (numv 10 (tx b), 0) := by
    unfold num at h2 ⊢
    split at h2
    · simp at h2
    · rename_i hx
      rw [if_neg hx]
      simp only [Bool.or_eq_true, Bool.not_eq_true', not_or, Bool.not_eq_true, Bool.not_eq_false] at hx
      split at h2
      · simp at h2
      · rename_i hy
        rw [if_neg hy]
        exact ⟨hx.1, hx.2, rfl⟩
  obtain ⟨q1, q2, q3⟩ := hq
  rw [q3] at hi
  obtain ⟨u, hu⟩ := Int.eq_ofNat_of_zero_le (numv_nonneg 10 (by decide) (tx b))
  simp only [hu, Lib.itoa_nonneg] at hi
  rw [dec_eq]
  have hl := tx_len b
  have a1 : (tx b == []) = false := by cases hq : tx b with | nil => rw [hq] at q1; simp at q1 | cons a r => rfl
  have a3 : (((tx b).head? == some 48) && decide (1 < b.size)) = false := by
    by_cases hz : 1 ≤ u
    · have := dd_head u u (Nat.le_refl _) hz
      rw [hi] at this
      rw [show ((tx b).head? == some 48) = false from beq_false_of_ne this]
      rfl
    · have hz0 : u = 0 := by omega
      subst hz0
      rw [Lib.decDigits_one (by omega)] at hi
      rw [← hl, ← hi]
      rfl
  rw [a1, a3, decide_eq_true hs, ← digs_dg, q2]
  rfl
theorem dec_inj {x y : ByteArray} (hx : dec x = true) (hy : dec y = true) (h : (num 10 (tx x)).1 = (num 10 (tx y)).1) : tx x = tx y := by
  obtain ⟨u, hu, hd, _⟩ := dec_num hx
  obtain ⟨v, hv, he, _⟩ := dec_num hy
  rw [hu, hv] at h
  simp only at h
  rw [← hd, ← he]
  congr 1
  omega

end Ms
end Go.Proofs.YtbpdhcfmdkmoiaaGreatDoor

namespace Go.Proofs.YtbpdhcfmdkmoiaaGreatDoor
namespace Ms

def e0 : ByteArray := ⟨#[]⟩
/-- A request's parts. -/
structure Rq where
  m : ByteArray
  s : ByteArray
  a : ByteArray
  p : ByteArray
  fs : List Fd
def rq0 : Rq := ⟨e0, e0, e0, e0, []⟩
def keepB (f : Fd) : Bool := !psd f.n && !(f.n.toList == [104, 111, 115, 116]) && !(f.n.toList == [116, 101])
def keep (l : List Fd) : List Fd := l.filter keepB

theorem tl_tx (b : ByteArray) : b.toList = tx b := by rw [tx, Lib.toList_data]

def small (f : Fd) : Fd := ⟨⟨(lo f.n).toArray⟩, f.v⟩
def sound (f : Fd) : Bool := Tx.isTok (tx f.n) && Tx.isVal (tx f.v)
def isHost (f : Fd) : Bool := lo f.n == sHost
def hosts (l : List Fd) : List Fd := l.filter isHost
/-- The last host that is named. -/
def hostOf (l : List Fd) : ByteArray := ((hosts l).getLast?.map Fd.v).getD e0
/-- A text cut at its commas. -/
def pcs : T8 → T8 → List T8
  | cur, [] => [cur]
  | cur, c :: r => if c = 44 then cur :: pcs [] r else pcs (cur ++ [c]) r
def nm1 (f : Fd) : List T8 := (pcs [] (tx f.v)).map fun t => Tx.lower (Tx.trim t)
def nms (l : List Fd) : List T8 := (l.filter fun f => lo f.n == sConn).flatMap nm1
def passB (nm : List T8) (f : Fd) : Bool := !(lo f.n == sHost) && !(lo f.n == sTe) && !bnd f.n && (!nm.contains (lo f.n) || lo f.n == sLen)
def pass (l : List Fd) : List Fd := (l.filter (passB (nms l))).map small
/-- A target's scheme, authority and path, and whether it may be one. -/
def absT (m sch rest : ByteArray) : ByteArray × ByteArray × ByteArray × Bool :=
  (sch, rest.extract 0 (stop (tx rest)), head47 (rest.extract (stop (tx rest)) rest.size), decide (0 < stop (tx rest)) && goes m (head47 (rest.extract (stop (tx rest)) rest.size)))
def aim (m t host : ByteArray) : ByteArray × ByteArray × ByteArray × Bool :=
  if beg t bHttps3 then absT m bHttps (t.extract 8 t.size) else if beg t bHttp3 then absT m bHttp (t.extract 7 t.size) else (bHttp, host, t, goes m t)
def oneE (m t : ByteArray) (l : List Fd) : Int :=
  if Tx.isTok (tx m) then
    (if l.all sound && (hosts l).length == 1 then (if (aim m t (hostOf l)).2.2.2 then (if (lenGo none l).isNone then 142 else 0) else 140) else 141)
  else 140
def oneR (m t : ByteArray) (l : List Fd) : Rq := if oneE m t l == 0 then ⟨m, (aim m t (hostOf l)).1, (aim m t (hostOf l)).2.1, (aim m t (hostOf l)).2.2.1, pass l⟩ else rq0

end Ms
end Go.Proofs.YtbpdhcfmdkmoiaaGreatDoor

namespace Go.Proofs.YtbpdhcfmdkmoiaaGreatDoor
namespace Tx

/-- A piece's member, if there is one. -/
def addm (p : List UInt8) : List (List UInt8) := if (trim p).isEmpty then [] else [trim p]
/-- The members: cur: the piece that stands open; q: within quotes; e: behind a byte 5C within quotes. -/
def mems (cur : List UInt8) (q e : Bool) : List UInt8 → List (List UInt8)
  | [] => addm cur
  | c :: r => if e then mems (cur ++ [c]) q false r
    else if c == 34 then mems (cur ++ [c]) (!q) false r
    else if q && c == 92 then mems (cur ++ [c]) q true r
    else if !q && c == 44 then addm cur ++ mems [] q false r
    else mems (cur ++ [c]) q false r
def list (l : List UInt8) : List (List UInt8) := mems [] false false l

/-- What the loop of List keeps. -/
structure ListRel (l : List UInt8) (ms : List (List UInt8)) (st k : Nat) (q : Bool) : Prop where
  le : st ≤ l.length
  stk : st ≤ k
  many : ms.length ≤ k
  eq : list l = ms ++ mems ((l.drop st).take (k - st)) q false (l.drop k)
theorem ListRel.start (l : List UInt8) : ListRel l [] 0 0 false := ⟨Nat.zero_le _, Nat.le_refl _, Nat.le_refl _, by simp [list]⟩
theorem cur_snoc (l : List UInt8) (st k : Nat) (h : k < l.length) (hs : st ≤ k) : (l.drop st).take (k + 1 - st) = (l.drop st).take (k - st) ++ [l[k]] := by
  rw [show k + 1 - st = (k - st) + 1 by omega, List.take_succ_eq_append_getElem (by rw [List.length_drop]; omega), List.getElem_drop]
  congr 3; omega
theorem ListRel.quote {l : List UInt8} {ms : List (List UInt8)} {st k : Nat} {q : Bool} (h : ListRel l ms st k q) (hk : k < l.length) (hc : l[k] = 34) : ListRel l ms st (k + 1) (!q) :=
  ⟨h.le, by have := h.stk; omega, by have := h.many; omega, by
    rw [h.eq, List.drop_eq_getElem_cons hk, cur_snoc l st k hk h.stk, mems, hc]; simp⟩
theorem ListRel.plain {l : List UInt8} {ms : List (List UInt8)} {st k : Nat} {q : Bool} (h : ListRel l ms st k q) (hk : k < l.length) (hc : l[k] ≠ 34) (h1 : (q && l[k] == 92) = false) (h2 : (!q && l[k] == 44) = false) : ListRel l ms st (k + 1) q :=
  ⟨h.le, by have := h.stk; omega, by have := h.many; omega, by
    rw [h.eq, List.drop_eq_getElem_cons hk, cur_snoc l st k hk h.stk, mems, if_neg (by simp), if_neg (by simpa using hc), if_neg (by simp [h1]), if_neg (by simp [h2])]⟩
theorem ListRel.comma {l : List UInt8} {ms : List (List UInt8)} {st k : Nat} (h : ListRel l ms st k false) (hk : k < l.length) (hc : l[k] = 44) : ListRel l (ms ++ addm ((l.drop st).take (k - st))) (k + 1) (k + 1) false :=
  ⟨by omega, Nat.le_refl _, by
    have := h.many
    rw [List.length_append]
    have : (addm ((l.drop st).take (k - st))).length ≤ 1 := by unfold addm; split <;> simp
    omega, by
    rw [h.eq, List.drop_eq_getElem_cons hk, mems, hc]; simp⟩
theorem ListRel.slash {l : List UInt8} {ms : List (List UInt8)} {st k : Nat} (h : ListRel l ms st k true) (hk : k < l.length) (hc : l[k] = 92) : ListRel l ms st (k + 2) true := by
  refine ⟨h.le, by have := h.stk; omega, by have := h.many; omega, ?_⟩
  have hs := h.stk
  rw [h.eq, List.drop_eq_getElem_cons hk, mems, if_neg (by simp), if_neg (by rw [hc]; decide), if_pos (by rw [hc]; decide)]
  by_cases h2 : k + 1 < l.length
  · rw [List.drop_eq_getElem_cons h2, mems, if_pos rfl, show k + 2 = (k + 1) + 1 from rfl, cur_snoc l st (k + 1) h2 (by omega), cur_snoc l st k hk hs]
  · have e1 : l.drop (k + 1) = [] := List.drop_eq_nil_of_le (by omega)
    have e2 : l.drop (k + 2) = [] := List.drop_eq_nil_of_le (by omega)
    have e3 : (l.drop st).take (k + 2 - st) = l.drop st := List.take_of_length_le (by rw [List.length_drop]; omega)
    have e4 : (l.drop st).take (k + 1 - st) = l.drop st := List.take_of_length_le (by rw [List.length_drop]; omega)
    rw [e1, e2, e3, ← cur_snoc l st k hk hs, e4]; rfl
theorem ListRel.stop {l : List UInt8} {ms : List (List UInt8)} {st k : Nat} {q : Bool} (h : ListRel l ms st k q) (hk : l.length ≤ k) : list l = ms ++ addm (l.drop st) := by
  have hs := h.stk
  have := h.le
  rw [h.eq, List.drop_eq_nil_of_le hk, mems, List.take_of_length_le (by rw [List.length_drop]; omega)]

end Tx
end Go.Proofs.YtbpdhcfmdkmoiaaGreatDoor
