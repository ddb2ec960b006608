/-
  What the row stands on.
-/
import Derived.Lib.IndexMore
import Derived.Test.YthhpejgpfaikaabGreatDoorPqAH
import Derived.Test.YthhpejgpfaikaabGreatDoorShelfP
import Derived.Test.YthhpejgpfaikaabGreatDoorShCut
import Derived.Test.YthhpejgpfaikaabGreatDoorPqAB
namespace Go.Proofs.YthhpejgpfaikaabGreatDoor
set_option maxHeartbeats 64000000
namespace Rg
def isD (c : UInt8) : Bool := decide (48 ≤ c.toNat) && decide (c.toNat ≤ 57)
def afters : T8 → List T8
 | [] => []
 | c :: r => if sPart.isPrefixOf (c :: r) then r.drop 3 :: afters r else afters r
def nums (most : Nat) : Nat → T8 → List Nat
 | _, [] => []
 | n, c :: r => if isD c then (if most < n * 10 + (c.toNat - 48) then [] else (n * 10 + (c.toNat - 48)) :: (if n * 10 + (c.toNat - 48) = 0 then [] else nums most (n * 10 + (c.toNat - 48)) r)) else []
def taken (most : Nat) (l : T8) : List Nat := (afters l).flatMap (nums most 0)
def lf : List Nat → Nat → Nat
 | [], f => f
 | n :: r, f => lf r (if n = f then f + 1 else f)

theorem afters_skip {c : UInt8} {r : T8} (h : sPart.isPrefixOf (c :: r) = false) : afters (c :: r) = afters r := by rw [afters, h]; rfl
theorem afters_hop : ∀ (i : Nat) (l : T8), (∀ j, j < i → sPart.isPrefixOf (l.drop j) = false) → afters l = afters (l.drop i) := by
 intro i
 induction i with
 | zero => intro l _; rw [List.drop_zero]
 | succ i ih =>
  intro l h;cases l with
  | nil => rfl
  | cons c r =>
   rw [afters_skip (by simpa using h 0 (Nat.succ_pos i)), List.drop_succ_cons];exact ih r (fun j hj => by simpa using h (j + 1) (Nat.succ_lt_succ hj))
theorem afters_at {l : T8} (h : sPart.isPrefixOf l = true) : afters l = l.drop 4 :: afters (l.drop 4) := by
 obtain ⟨t, rfl⟩ := List.isPrefixOf_iff_prefix.1 h;have e : sPart ++ t = 112 :: 97 :: 114 :: 116 :: t := rfl;have e1 : sPart.isPrefixOf (112 :: 97 :: 114 :: 116 :: t) = true := by rw [← e]; exact h
 rw [e, afters, if_pos e1, afters_skip (by simp [sPart, List.isPrefixOf]), afters_skip (by simp [sPart, List.isPrefixOf]), afters_skip (by simp [sPart, List.isPrefixOf])];rfl
theorem afters_cut (l : T8) : ((Lib.cut l sPart).2.2 = false ∧ afters l = []) ∨ ((Lib.cut l sPart).2.2 = true ∧ afters l = (Lib.cut l sPart).2.1 :: afters (Lib.cut l sPart).2.1 ∧ (Lib.cut l sPart).2.1.length < l.length) := by
 rcases Lib.index_spec l sPart with ⟨h1, h2⟩ | ⟨i, h1, h2, h3, h4⟩
 ·left;have e : Lib.cut l sPart = (l, [], false) := by unfold Lib.cut; rw [h1]; rfl
  rw [e];refine ⟨rfl, ?_⟩;rw [afters_hop l.length l (fun j hj => h2 j (Nat.le_of_lt hj)), List.drop_length]; rfl
 ·right;have e : Lib.cut l sPart = (l.take i, l.drop (i + 4), true) := by unfold Lib.cut; rw [h1, if_pos (by omega)]; rfl
  rw [e];have h3' : sPart.isPrefixOf (l.drop i) = true := h3;have hl : i + 4 ≤ l.length := by
   have := Lib.index_room l sPart (by omega);rw [h1] at this;simp [sPart] at this; omega
  refine ⟨rfl, ?_, by simp only [List.length_drop]; omega⟩;simp only;rw [afters_hop i l (fun j hj => h4 j hj), afters_at h3', List.drop_drop]
theorem stands_afters (d : T8) : ∀ (l : T8), stands (sPart ++ d) l = (afters l).any (fun t => d.isPrefixOf t) := by
 have key : ∀ (l : T8), (stands (sPart ++ d) l = true) ↔ ∃ t ∈ afters l, d <+: t := by
  intro l;have h1 : stands (sPart ++ d) l = true ↔ ∃ i, (sPart ++ d) <+: l.drop i := by
   unfold stands;rw [List.any_eq_true];constructor
   ·rintro ⟨i, _, hi⟩;exact ⟨i, by rw [List.prefix_iff_eq_take]; exact (eq_of_beq hi).symm⟩
   ·rintro ⟨i, hi⟩;have hlen := hi.length_le;rw [List.length_drop] at hlen;have : 4 ≤ (sPart ++ d).length := by simp [sPart]
    exact ⟨i, List.mem_range.2 (by omega), by rw [beq_iff_eq]; exact (List.prefix_iff_eq_take.1 hi).symm⟩
  rw [h1];clear h1
  induction l with
  | nil =>
   simp only [List.drop_nil, afters, List.not_mem_nil, false_and, exists_false, iff_false, not_exists];intro _ h;have := h.length_le;simp [sPart] at this
  | cons c r ih =>
   have h0 : (∃ i, (sPart ++ d) <+: (c :: r).drop i) ↔ ((sPart ++ d) <+: c :: r) ∨ ∃ i, (sPart ++ d) <+: r.drop i := by
    constructor
    ·rintro ⟨i, hi⟩;cases i with
     | zero => exact .inl hi
     | succ i => exact .inr ⟨i, hi⟩
    ·rintro (h | ⟨i, hi⟩)
     ·exact ⟨0, h⟩
     ·exact ⟨i + 1, hi⟩
   refine (h0.trans (or_congr Iff.rfl ih)).trans ?_;cases hp : sPart.isPrefixOf (c :: r)
   ·rw [afters_skip hp];refine ⟨fun h => h.resolve_left (fun h1 => ?_), .inr⟩;have := List.isPrefixOf_iff_prefix.2 ((List.prefix_append sPart d).trans h1);rw [hp] at this; cases this
   ·rw [afters, if_pos hp];obtain ⟨t, ht⟩ := List.isPrefixOf_iff_prefix.1 hp;have e : r.drop 3 = t := by
     have : c :: r = 112 :: 97 :: 114 :: 116 :: t := ht.symm;injection this with _ h2;rw [h2]; rfl
    rw [e, ← ht];simp only [List.mem_cons, exists_eq_or_imp, List.prefix_append_right_inj]
 intro l;rw [Bool.eq_iff_iff, key, List.any_eq_true];simp only [List.isPrefixOf_iff_prefix]

theorem itoa_snoc (n d : Nat) (hn : 0 < n) (hd : d < 10) : Lib.itoa ((n * 10 + d : Nat) : Int) = Lib.itoa (n : Int) ++ [UInt8.ofNat (48 + d)] := by
 rw [Tx.itoa_hi _ (by omega)];have e1 : ((n * 10 + d : Nat) : Int) / 10 = (n : Int) := by omega
 have e2 : (48 + ((n * 10 + d : Nat) : Int) % 10).toNat = 48 + d := by omega
 rw [e1, e2]
theorem itoa_one (d : Nat) (hd : d < 10) : Lib.itoa (d : Int) = [UInt8.ofNat (48 + d)] := by
 rw [Tx.itoa_lo _ (by omega) (by omega)];congr 2
theorem digit_back {c : UInt8} (h : isD c = true) : UInt8.ofNat (48 + (c.toNat - 48)) = c ∧ c.toNat - 48 < 10 := by
 unfold isD at h;rw [Bool.and_eq_true, decide_eq_true_iff, decide_eq_true_iff] at h;refine ⟨?_, by omega⟩;rw [show 48 + (c.toNat - 48) = c.toNat by omega];exact UInt8.ofNat_toNat
theorem digit_there (d : Nat) (hd : d < 10) : isD (UInt8.ofNat (48 + d)) = true ∧ (UInt8.ofNat (48 + d)).toNat - 48 = d := by
 have e : (UInt8.ofNat (48 + d)).toNat = 48 + d := by rw [UInt8.toNat_ofNat']; omega
 unfold isD;rw [e];exact ⟨by simp; omega, by omega⟩
theorem nums_goes (most : Nat) : ∀ (t : T8) (n m : Nat), 0 < n → m ∈ nums most n t → m ≤ most ∧ 0 < m ∧ ∃ d, Lib.itoa (m : Int) = Lib.itoa (n : Int) ++ d ∧ d <+: t := by
 intro t
 induction t with
 | nil => intro n m _ h; simp [nums] at h
 | cons c r ih =>
  intro n m hn h;unfold nums at h;split at h
  ·rename_i hc;obtain ⟨hb, hd⟩ := digit_back hc;obtain ⟨k, hk⟩ : ∃ k, n * 10 + (c.toNat - 48) = k := ⟨_, rfl⟩;have hi := itoa_snoc n (c.toNat - 48) hn hd;rw [hb] at hi;rw [hk] at h hi;split at h
   ·simp at h
   ·rename_i hm;rcases List.mem_cons.1 h with rfl | h
    ·exact ⟨by omega, by omega, [c], hi, ⟨r, rfl⟩⟩
    ·rw [if_neg (by omega)] at h;obtain ⟨h1, h2, d, h3, h4⟩ := ih k m (by omega) h;refine ⟨h1, h2, c :: d, by rw [h3, hi]; simp, ?_⟩;obtain ⟨q, hq⟩ := h4;exact ⟨q, by rw [← hq]; rfl⟩
  ·simp at h
theorem nums_sound (most : Nat) (t : T8) (m : Nat) (h : m ∈ nums most 0 t) : m ≤ most ∧ Lib.itoa (m : Int) <+: t := by
 cases t with
 | nil => simp [nums] at h
 | cons c r =>
  unfold nums at h;split at h
  ·rename_i hc;obtain ⟨hb, hd⟩ := digit_back hc;obtain ⟨k, hk⟩ : ∃ k, 0 * 10 + (c.toNat - 48) = k := ⟨_, rfl⟩;have hk' : c.toNat - 48 = k := by omega
   have hi := itoa_one (c.toNat - 48) hd;rw [hb, hk'] at hi;rw [hk] at h;split at h
   ·simp at h
   ·rename_i hm;rcases List.mem_cons.1 h with rfl | h
    ·exact ⟨by omega, by rw [hi]; exact ⟨r, rfl⟩⟩
    ·by_cases h0 : k = 0
     ·rw [if_pos h0] at h; simp at h
     ·rw [if_neg h0] at h;obtain ⟨h1, h2, d, h3, h4⟩ := nums_goes most r k m (by omega) h;refine ⟨h1, ?_⟩;rw [h3, hi];obtain ⟨q, hq⟩ := h4;exact ⟨q, by rw [← hq]; rfl⟩
  ·simp at h
theorem nums_all (most : Nat) : ∀ (m : Nat) (t : T8), 0 < m → m ≤ most → ∃ L, nums most 0 (Lib.itoa (m : Int) ++ t) = L ++ m :: nums most m t := by
 intro m
 induction m using Nat.strongRecOn with
 | ind m ih =>
  intro t h0 h1;by_cases h10 : m < 10
  ·rw [itoa_one m h10];obtain ⟨d1, d2⟩ := digit_there m h10;refine ⟨[], ?_⟩;rw [List.cons_append, List.nil_append, nums, if_pos d1, d2, if_neg (by omega), if_neg (by omega)];simp
  ·have e : m = (m / 10) * 10 + m % 10 := by omega
   obtain ⟨d1, d2⟩ := digit_there (m % 10) (by omega);have hi := itoa_snoc (m / 10) (m % 10) (by omega) (by omega);rw [← e] at hi;obtain ⟨L, hL⟩ := ih (m / 10) (by omega) (UInt8.ofNat (48 + m % 10) :: t) (by omega) (by omega);refine ⟨L ++ [m / 10], ?_⟩;rw [hi, List.append_assoc, List.singleton_append, hL, nums, if_pos d1, d2, ← e, if_neg (by omega), if_neg (by omega)];simp
theorem nums_complete (most : Nat) (t : T8) (m : Nat) (hm : m ≤ most) (h : Lib.itoa (m : Int) <+: t) : m ∈ nums most 0 t := by
 obtain ⟨q, rfl⟩ := h;by_cases h0 : m = 0
 ·subst h0;rw [show Lib.itoa ((0 : Nat) : Int) = [48] from itoa_one 0 (by omega)];rw [List.cons_append, List.nil_append, nums, if_pos (by decide), if_neg (by simp)];simp
 ·obtain ⟨L, hL⟩ := nums_all most m q (by omega) hm;rw [hL]; simp
theorem taken_mem (most : Nat) (l : T8) (m : Nat) : m ∈ taken most l ↔ m ≤ most ∧ stands (line m) l = true := by
 unfold taken line;rw [stands_afters, List.mem_flatMap, List.any_eq_true];constructor
 ·rintro ⟨t, h1, h2⟩;obtain ⟨h3, h4⟩ := nums_sound most t m h2;exact ⟨h3, t, h1, List.isPrefixOf_iff_prefix.2 h4⟩
 ·rintro ⟨h1, t, h2, h3⟩;exact ⟨t, h2, nums_complete most t m h1 (List.isPrefixOf_iff_prefix.1 h3)⟩

theorem nums_len (most : Nat) : ∀ (t : T8) (n : Nat), (nums most n t).length ≤ (t.takeWhile isD).length := by
 intro t
 induction t with
 | nil => intro n; simp [nums]
 | cons c r ih =>
  intro n;unfold nums;rw [List.takeWhile_cons];cases hc : isD c
  ·simp
  ·simp only [if_true];split
   ·simp
   ·split
    ·simp
    ·have := ih (n * 10 + (c.toNat - 48)); simp; omega
theorem digits_hop : ∀ (t : T8), afters t = afters (t.drop (t.takeWhile isD).length) := by
 intro t
 induction t with
 | nil => rfl
 | cons c r ih =>
  rw [List.takeWhile_cons];cases hc : isD c
  ·simp
  ·simp only [if_true, List.length_cons, List.drop_succ_cons];rw [afters_skip, ih];simp only [sPart, List.isPrefixOf];rw [beq_false_of_ne (fun e => by rw [← e] at hc; revert hc; decide)];rfl
theorem taken_bound (most : Nat) : ∀ (k : Nat) (l : T8), l.length ≤ k → (taken most l).length ≤ l.length ∧ ((taken most l).length + 4 ≤ l.length ∨ taken most l = []) := by
 intro k
 induction k with
 | zero =>
  intro l h;have : l = [] := List.length_eq_zero_iff.1 (by omega);subst this;exact ⟨by simp [taken, afters], .inr rfl⟩
 | succ k ih =>
  intro l h;rcases afters_cut l with ⟨_, h1⟩ | ⟨_, h1, h2⟩
  ·unfold taken; rw [h1]; simp
  ·obtain ⟨t, ht⟩ : ∃ t, (Lib.cut l sPart).2.1 = t := ⟨_, rfl⟩;rw [ht] at h1 h2;have h4 : t.length + 4 ≤ l.length := by
    rcases Lib.index_spec l sPart with ⟨g1, _⟩ | ⟨i, g1, _, _, _⟩
    ·rw [← ht]; unfold Lib.cut; rw [g1];have : l ≠ [] := fun e => by rw [e] at h1; simp [afters] at h1
     have e : Lib.cut l sPart = (l, [], false) := by unfold Lib.cut; rw [g1]; rfl
     rcases afters_cut l with ⟨_, g2⟩ | ⟨g2, _⟩
     ·rw [g2] at h1; cases h1
     ·rw [e] at g2; cases g2
    ·have e : Lib.cut l sPart = (l.take i, l.drop (i + 4), true) := by unfold Lib.cut; rw [g1, if_pos (by omega)]; rfl
     have := Lib.index_room l sPart (by omega);rw [g1] at this;rw [← ht, e];simp [sPart] at this ⊢; omega
   obtain ⟨u, hu⟩ : ∃ u, t.drop (t.takeWhile isD).length = u := ⟨_, rfl⟩;have hul : u.length + (t.takeWhile isD).length = t.length := by
    rw [← hu, List.length_drop];have := (List.takeWhile_prefix isD (l := t)).length_le;omega
   have hd := digits_hop t;rw [hu] at hd;have h3 := (ih u (by omega)).1;have h5 := nums_len most t 0;have e : taken most l = nums most 0 t ++ taken most u := by unfold taken; rw [h1, hd]; rfl
   rw [e, List.length_append];exact ⟨by omega, .inl (by omega)⟩
theorem lf_len : ∀ (l : List Nat) (f : Nat), lf l f ≤ f + l.length ∧ f ≤ lf l f := by
 intro l
 induction l with
 | nil => intro f; simp [lf]
 | cons n r ih =>
  intro f;rw [lf];have := ih (if n = f then f + 1 else f);simp only [List.length_cons];split at this <;> rename_i h
  ·rw [if_pos h]; omega
  ·rw [if_neg h]; omega
theorem lf_spec : ∀ (r p : List Nat) (f : Nat), (p ++ r).Pairwise (· ≤ ·) → (∀ k, k < f → k ∈ p) → f ∉ p → (∀ k, k < lf r f → k ∈ p ++ r) ∧ lf r f ∉ p ++ r := by
 intro r
 induction r with
 | nil => intro p f _ h1 h2; rw [List.append_nil]; exact ⟨h1, h2⟩
 | cons n r ih =>
  intro p f hs h1 h2;have e : p ++ n :: r = (p ++ [n]) ++ r := by simp
  rw [e] at hs ⊢;rw [lf];by_cases hn : n = f
  ·rw [if_pos hn];refine ih (p ++ [n]) (f + 1) hs (fun k hk => ?_) (fun hm => ?_)
   ·by_cases hk' : k < f
    ·exact List.mem_append_left _ (h1 k hk')
    ·rw [show k = f by omega, hn]; simp
   ·rw [List.mem_append] at hm;rcases hm with hm | hm
    ·have hp := (List.pairwise_append.1 (List.pairwise_append.1 hs).1).2.2 (f + 1) hm n (by simp);omega
    ·simp at hm; omega
  ·rw [if_neg hn];refine ih (p ++ [n]) f hs (fun k hk => List.mem_append_left _ (h1 k hk)) (fun hm => ?_);rw [List.mem_append] at hm;rcases hm with hm | hm
   ·exact h2 hm
   ·simp at hm; omega
theorem lf_line (l : T8) (s : List Nat) (hs : s.Pairwise (· ≤ ·)) (hp : s.Perm (taken l.length l)) :
  stands (line (lf s 0)) l = false ∧ (∀ m, m < lf s 0 → stands (line m) l = true) ∧ lf s 0 ≤ l.length := by
 obtain ⟨h1, h2⟩ := lf_spec s [] 0 (by simpa using hs) (fun k hk => absurd hk (Nat.not_lt_zero _)) (by simp);rw [List.nil_append] at h1 h2;have hle : lf s 0 ≤ l.length := by
  have := (lf_len s 0).1;have := hp.length_eq;have := (taken_bound l.length l.length l (Nat.le_refl _)).1;omega
 refine ⟨?_, fun m hm => ((taken_mem _ _ _).1 (hp.mem_iff.1 (h1 m hm))).2, hle⟩;cases hq : stands (line (lf s 0)) l
 ·rfl
 ·exact absurd (hp.mem_iff.2 ((taken_mem _ _ _).2 ⟨hle, hq⟩)) h2
end Rg

open Go.RowKit

def nC16 (l : List Nat) : List Value := l.map fun (n : Nat) => .int .i64 (n : Int)
theorem nC16_app (a b : List Nat) : nC16 (a ++ b) = nC16 a ++ nC16 b := by unfold nC16; rw [List.map_append]
theorem infoI16 : (Tryz.prog.info? 3).map (fun i => (i.zero, i.size, i.bytes)) = some (some (.int .i64 0), 1, 8) := by kernel_rfl

set_option maxRecDepth 20000 in
theorem capp16 (B n cap : Nat) (ao : Option Addr) (xs : List Nat) (hn : xs.length = n) (s : ByteArray) (l : List UInt8) (hl : s.data.toList = l) (M : Nat) (hM : M ≤ 1048576) (w : World) (ho : w.ownsRow B 3 1 (.slice ao n cap) n (nC16 xs)) (hB : B ≤ w.heap.size) (hs : s.size ≤ 1048576) (hnb : n ≤ 1048576) :
  Calls Tryz.prog 234 #[.slice ao n cap, .string s, .int .i64 (M : Int)] w fun e w' => (∃ m ro rc, e = .returned (.slice ro m rc) ∧ (xs ++ Rg.nums M 0 l).length = m ∧ w'.ownsRow B 3 1 (.slice ro m rc) m (nC16 (xs ++ Rg.nums M 0 l))) ∧ Below B w w' := by
 obtain ⟨i0, hi0, hz0, hz1, hz2⟩ := minfo16 infoI16;have HI := hid' hi0;have HZ0 := hid' hz0;have HZ1 := hid' hz1;have HZ2 := hid' hz2;clear hi0 hz0 hz1 hz2;have HSZ : Hid (s.size = l.length) := hid' (by rw [Lib.size_eq, hl]);have HGB : Hid (∀ k (h : k < s.size), l[k]? = some s[k]) := hid' (fun k h => by rw [← hl]; exact Tx.get_byte s k h);have HO0 := hid' ho;have HBW := hid' hB;have HN := hid' hn;clear hl ho hB hn;go_enter Tryz.func234, Tryz.ntmps234;go_wp2;go_loopw [0, 7, 8] (fun s0 s7 s8 wr => ∃ (k m c : Nat) (ds : List Nat) (ro : Option Addr) (rc : Nat), s8 = .int .i64 (k : Int) ∧ s7 = .int .i64 (m : Int) ∧ s0 = .slice ro c rc ∧ k ≤ s.size ∧ m ≤ M ∧ c ≤ n + k ∧ Hid ((xs ++ ds).length = c) ∧ Hid (Rg.nums M 0 l = ds ++ Rg.nums M m (l.drop k)) ∧ Hid (wr.ownsRow B 3 1 (.slice ro c rc) c (nC16 (xs ++ ds))) ∧ Hid (Below B w wr)) (fun _ _ s8 _ => s.size - (intOf s8).toNat)
 case atStart => exact ⟨0, 0, n, [], ao, cap, rfl, rfl, rfl, Nat.zero_le _, Nat.zero_le _, Nat.le_refl _, hid' (by rw [List.append_nil]; exact HN.out), hid' (by simp), hid' (by rw [List.append_nil]; exact HO0.out), hid' (Below.refl _ _)⟩
 case round =>
  obtain ⟨k, m, c, ds, ro, rc, rfl, rfl, rfl, hk, hm, hc, HCL, HNU, HO, HB⟩ := hrel;by_cases hlt : k < s.size
  ·have hlt2 : (k : Int) < (s.size : Int) := by omega
   have HD := hid' (Rg.drop_c (HGB.out k hlt));rw [HD.out] at HNU;have HX := hid' (show s[k].toNat < 256 from s[k].toNat_lt);by_cases d1 : (48 : Int) ≤ (s[k].toNat : Int)
   ·by_cases d2 : (s[k].toNat : Int) ≤ 57
    ·have HIS : Hid (Rg.isD s[k] = true) := hid' (by unfold Rg.isD; rw [decide_eq_true (show 48 ≤ s[k].toNat by omega), decide_eq_true (show s[k].toNat ≤ 57 by omega)]; rfl);obtain ⟨v, hv⟩ : ∃ v : Nat, m * 10 + (s[k].toNat - 48) = v := ⟨_, rfl⟩;have HV : Hid (Rg.nums M m (s[k] :: l.drop (k + 1)) = if M < v then [] else v :: (if v = 0 then [] else Rg.nums M v (l.drop (k + 1)))) := hid' (by rw [Rg.nums, if_pos HIS.out, hv]);have HVX : Hid ((m : Int) * 10 + ((s[k].toNat : Int) - 48) = (v : Int)) := hid' (by omega);clear hv;by_cases hMv : (M : Int) < (m : Int) * 10 + ((s[k].toNat : Int) - 48)
     ·rw [if_pos (by have := HVX.out; omega)] at HV;rw [HV.out, List.append_nil] at HNU;go_wp2;go_ret;exact ⟨⟨c, ro, rc, rfl, by rw [HNU.out]; simpa using HCL.out, by rw [HNU.out]; exact HO.out⟩, HB.out⟩
     ·have hvM : v ≤ M := by have := HVX.out; omega
      rw [if_neg (by omega)] at HV;have HA : Hid ((wr.alloc (.cells #[.int .i64 ((m : Int) * 10 + ((s[k].toNat : Int) - 48))] 3)).ownsRow B 3 1 (.slice ro c rc) c (nC16 (xs ++ ds))) := hid' (HO.out.alloc _);go_wp2_with (at_builtin; refine wpList_append_own_at _ rfl _ _ 278 rfl B 3 i0 (.int .i64 0) 1 8 Tryz.underlying278 HI.out HZ0.out HZ1.out HZ2.out rfl (by decide) (.slice ro c rc) c (nC16 (xs ++ ds)) rfl HA.out ⟨wr.heap.size, 0, none⟩ 1 1 [.int .i64 ((m : Int) * 10 + ((s[k].toNat : Int) - 48))] rfl rfl (one_cell16 _ _ _) (by simp [Value.oneCell']) (by unfold maxLen; omega) (by omega) (by simp; have := HB.out.size; have := HBW.out; omega) ?_; intro v3 w3 hown3 hgrow3 _ _; refine Hid.out ?_);refine hid' ?_;have e : nC16 (xs ++ ds) ++ [.int .i64 ((m : Int) * 10 + ((s[k].toNat : Int) - 48))] = nC16 (xs ++ (ds ++ [v])) := by rw [HVX.out, ← List.append_assoc, nC16_app (xs ++ ds)]; rfl
      rw [e] at hown3;obtain ⟨v3o, v3c, hv3⟩ := own_shape16 hown3;subst hv3;have HO3 := hid' hown3;have HB3 : Hid (Below B w w3) := hid' ((HB.out.alloc (Nat.le_trans HBW.out HB.out.size) _).grown hgrow3 (by simp; have := HB.out.size; have := HBW.out; omega) (fun k hk => (HA.out.lt k hk).1));have HL3 : Hid ((xs ++ (ds ++ [v])).length = c + 1) := hid' (by rw [← List.append_assoc, List.length_append, HCL.out]; rfl);clear hown3 hgrow3 e;by_cases hv0 : v = 0
      ·have hvB : ((m : Int) * 10 + ((s[k].toNat : Int) - 48) == 0) = true := by rw [HVX.out, beq_iff_eq]; omega
       rw [if_pos hv0] at HV;rw [HV.out] at HNU;clear hv0;go_wp2;go_ret;exact ⟨⟨c + 1, v3o, v3c, rfl, by rw [HNU.out]; simpa using HL3.out, by rw [HNU.out]; exact HO3.out⟩, HB3.out⟩
      ·have hvB : ((m : Int) * 10 + ((s[k].toNat : Int) - 48) == 0) = false := by rw [HVX.out, beq_eq_false_iff_ne]; omega
       rw [if_neg hv0] at HV;rw [HV.out] at HNU;clear hv0;go_wp2;go_roundw
       case rel => exact ⟨k + 1, v, c + 1, ds ++ [v], v3o, v3c, by go_num, by rw [HVX.out], rfl, by omega, hvM, by omega, HL3, hid' (by rw [HNU.out, List.append_assoc]; rfl), HO3, HB3⟩
       case measure => simp [intOf]; omega
    ·have HE : Hid (Rg.nums M m (s[k] :: l.drop (k + 1)) = []) := hid' (by rw [Rg.nums, if_neg]; unfold Rg.isD; rw [decide_eq_false (show ¬ s[k].toNat ≤ 57 by omega), Bool.and_false]; decide);rw [HE.out, List.append_nil] at HNU;go_wp2;go_ret;exact ⟨⟨c, ro, rc, rfl, by rw [HNU.out]; simpa using HCL.out, by rw [HNU.out]; exact HO.out⟩, HB.out⟩
   ·have HE : Hid (Rg.nums M m (s[k] :: l.drop (k + 1)) = []) := hid' (by rw [Rg.nums, if_neg]; unfold Rg.isD; rw [decide_eq_false (show ¬ 48 ≤ s[k].toNat by omega), Bool.false_and]; decide);rw [HE.out, List.append_nil] at HNU;go_wp2;go_ret;exact ⟨⟨c, ro, rc, rfl, by rw [HNU.out]; simpa using HCL.out, by rw [HNU.out]; exact HO.out⟩, HB.out⟩
  ·have hlt2 : ¬ (k : Int) < (s.size : Int) := by omega
   have HE : Hid (l.drop k = []) := hid' (List.drop_eq_nil_of_le (by have := HSZ.out; omega));rw [HE.out, show Rg.nums M m [] = [] by rw [Rg.nums], List.append_nil] at HNU;clear hlt;go_wp2;go_ret;exact ⟨⟨c, ro, rc, rfl, by rw [HNU.out]; simpa using HCL.out, by rw [HNU.out]; exact HO.out⟩, HB.out⟩


theorem size_l16 (l : List UInt8) : (⟨l.toArray⟩ : ByteArray).size = l.length := by simp [ByteArray.size]
def TB16 (w : World) : Prop := Lib.TabIs Tryz.prog w "internal/strconv.uint64pow10" .u64 Lib.pow10Tab ∧ ∃ m, w.cell? ⟨0, 0, none⟩ = some (.int .i64 m)
theorem cell_lt16 {w : World} {k : Nat} {v : Value} (h : w.cell? ⟨k, 0, none⟩ = some v) : k < w.heap.size := by
 rcases Nat.lt_or_ge k w.heap.size with h1 | h1
 ·exact h1
 ·simp [World.cell?, Array.getElem?_eq_none h1] at h
theorem TB16.keep {w w' : World} (h : TB16 w) (hb : Below w.heap.size w w') : TB16 w' := by
 obtain ⟨h1, m, h2⟩ := h;exact ⟨tab_below h1 hb, m, (hb.cell (p := ⟨0, 0, none⟩) (cell_lt16 h2)).trans h2⟩
theorem scut16 (s p : ByteArray) (w : World) (hs : s.size ≤ 1048576) (hT : TB16 w) :
  Calls Tryz.prog 50 #[.string s, .string p] w fun e w' => e = .returned (.tuple #[.string ⟨(Lib.cut s.data.toList p.data.toList).1.toArray⟩, .string ⟨(Lib.cut s.data.toList p.data.toList).2.1.toArray⟩, .bool (Lib.cut s.data.toList p.data.toList).2.2]) ∧ Below w.heap.size w w' := by
 obtain ⟨_, m, hm⟩ := hT;refine Calls.mono (show Calls Tryz.prog 50 _ _ _ from Any.strings_Cut Tryz.lcut s p m w (by omega) hm) ?_;rintro e w' ⟨rfl, n, rfl⟩;exact ⟨rfl, below_drewN w n⟩
namespace Rg
def left (most : Nat) (b : Bool) (t : T8) : List Nat := if b then nums most 0 t ++ taken most t else []
theorem cut_le (l p : T8) : (Lib.cut l p).2.1.length ≤ l.length := by
 unfold Lib.cut;split
 ·simp only [List.length_drop]; omega
 ·simp
theorem taken_cut (most : Nat) (l : T8) : taken most l = left most (Lib.cut l sPart).2.2 (Lib.cut l sPart).2.1 ∧ ((Lib.cut l sPart).2.2 = true → (Lib.cut l sPart).2.1.length < l.length) := by
  unfold left
  rcases afters_cut l with ⟨h1, h2⟩ | ⟨h1, h2, h3⟩
  · rw [h1]; exact ⟨by unfold taken; rw [h2]; rfl, fun h => by cases h⟩
  · rw [h1, if_pos rfl]
    exact ⟨by conv => lhs; unfold taken; rw [h2]
              rfl, fun _ => h3⟩
end Rg

set_option maxRecDepth 20000 in
theorem ctaken16 (s : ByteArray) (l : List UInt8) (hl : s.data.toList = l) (w : World) (hs : s.size ≤ 1048576) (hT : TB16 w) :
  Calls Tryz.prog 214 #[.string s] w fun e w' => (∃ m ro rc, e = .returned (.slice ro m rc) ∧ (Rg.taken l.length l).length = m ∧ w'.ownsRow w.heap.size 3 1 (.slice ro m rc) m (nC16 (Rg.taken l.length l))) ∧ Below w.heap.size w w' := by
 have HSL : Hid (l.length = s.size) := hid' (by rw [Lib.size_eq, hl]);have HLL : Hid (l.length ≤ 1048576) := hid' (by rw [HSL.out]; omega);have HC0 := hid' (scut16 s ⟨#[112, 97, 114, 116]⟩ w hs hT);have HT := hid' hT;rw [hl] at HC0;rw [HSL.out];obtain ⟨x0, hx0⟩ : ∃ x : ByteArray, (⟨(Lib.cut l (⟨#[112, 97, 114, 116]⟩ : ByteArray).data.toList).1.toArray⟩ : ByteArray) = x := ⟨_, rfl⟩;obtain ⟨y0, hy0⟩ : ∃ y : ByteArray, (⟨(Lib.cut l (⟨#[112, 97, 114, 116]⟩ : ByteArray).data.toList).2.1.toArray⟩ : ByteArray) = y := ⟨_, rfl⟩;obtain ⟨b0, hb0⟩ : ∃ b, (Lib.cut l (⟨#[112, 97, 114, 116]⟩ : ByteArray).data.toList).2.2 = b := ⟨_, rfl⟩;rw [hx0, hy0, hb0] at HC0;have HTK := hid' (Rg.taken_cut s.size l);have HYS0 : Hid (y0.size ≤ s.size) := hid' (by rw [← hy0, size_l16, ← HSL.out]; exact Rg.cut_le _ _);have HY0 : Hid (Rg.taken s.size l = Rg.left s.size b0 y0.data.toList ∧ (b0 = true → y0.data.toList.length < l.length)) := hid' (by
  rw [← hy0, ← hb0]; exact HTK.out)
 clear hT hl hx0 hy0 hb0 HTK;go_enter Tryz.func214, Tryz.ntmps214;go_wp2_with fail;refine HC0.out.mono ?_;rintro e w1 ⟨rfl, hb1⟩;have HB1 := hid' hb1;clear hb1 HC0;go_wp2;go_loopw [0, 3, 6] (fun s0 s3 s6 wr => ∃ (y : ByteArray) (c : Nat) (b : Bool) (ds : List Nat) (ro : Option Addr) (rc : Nat), s0 = .string y ∧ s6 = .bool b ∧ s3 = .slice ro c rc ∧ y.size ≤ s.size ∧ Hid (ds.length = c) ∧ Hid (Rg.taken s.size l = ds ++ Rg.left s.size b y.data.toList) ∧ Hid (wr.ownsRow w.heap.size 3 1 (.slice ro c rc) c (nC16 ds)) ∧ Hid (Below w.heap.size w wr) ) (fun s0 _ s6 _ => match s0, s6 with | .string y, .bool true => y.size + 1 | _, _ => 0)
 case atStart => exact ⟨y0, 0, b0, [], none, 0, rfl, rfl, rfl, HYS0.out, hid' rfl, hid' (by rw [List.nil_append]; exact HY0.out.1), hid' (World.ownsRow_nil _ _ _ _), HB1⟩
 case round =>
  obtain ⟨y, c, b, ds, ro, rc, rfl, rfl, rfl, hy, HCL, HTK, HO, HB⟩ := hrel;cases b
  ·have HE : Hid (Rg.taken s.size l = ds) := hid' (by rw [HTK.out]; unfold Rg.left; simp);go_wp2;go_ret;exact ⟨⟨c, ro, rc, rfl, by rw [HE.out]; exact HCL.out, by rw [HE.out]; exact HO.out⟩, HB.out⟩
  ·have HE : Hid (Rg.taken s.size l = (ds ++ Rg.nums s.size 0 y.data.toList) ++ Rg.taken s.size y.data.toList) := hid' (by rw [HTK.out, List.append_assoc]; unfold Rg.left; simp);have hcb : c ≤ s.size := by
    have h1 := (Rg.taken_bound s.size l.length l (Nat.le_refl _)).1;rw [HE.out, List.length_append, List.length_append, HCL.out, HSL.out] at h1;omega
   have HAP := hid' (fun W (h : W.ownsRow w.heap.size 3 1 (.slice ro c rc) c (nC16 ds)) (hb : w.heap.size ≤ W.heap.size) => capp16 w.heap.size c rc ro ds HCL.out y y.data.toList rfl s.size (by omega) W h hb (by omega) (by omega));have HCT := hid' (fun W (h : TB16 W) => scut16 y ⟨#[112, 97, 114, 116]⟩ W (by omega) h);obtain ⟨x2, hx2⟩ : ∃ x : ByteArray, (⟨(Lib.cut y.data.toList (⟨#[112, 97, 114, 116]⟩ : ByteArray).data.toList).1.toArray⟩ : ByteArray) = x := ⟨_, rfl⟩;obtain ⟨y2, hy2⟩ : ∃ y' : ByteArray, (⟨(Lib.cut y.data.toList (⟨#[112, 97, 114, 116]⟩ : ByteArray).data.toList).2.1.toArray⟩ : ByteArray) = y' := ⟨_, rfl⟩;obtain ⟨b2, hb2⟩ : ∃ b, (Lib.cut y.data.toList (⟨#[112, 97, 114, 116]⟩ : ByteArray).data.toList).2.2 = b := ⟨_, rfl⟩;rw [hx2, hy2, hb2] at HCT;have HTK2 : Hid (Rg.taken s.size y.data.toList = Rg.left s.size b2 y2.data.toList ∧ (b2 = true → y2.size < y.size)) := hid' (by
    rw [← hy2, ← hb2, Lib.size_eq y, size_l16]; exact Rg.taken_cut s.size y.data.toList)
   have HYS : Hid (y2.size ≤ y.size) := hid' (by rw [← hy2, Lib.size_eq y, size_l16]; exact Rg.cut_le _ _);clear hx2 hy2 hb2;go_wp2_with fail;refine (HAP.out _ HO.out HB.out.size).mono ?_;rintro e w2 ⟨⟨m, po, pc, rfl, hm, hown⟩, hbl⟩;have HB2 := hid' (HB.out.trans hbl);have HO2 := hid' hown;have HM2 := hid' hm;have HT2 := hid' (HT.out.keep HB2.out);clear hbl hown hm;go_wp2_with fail;refine (HCT.out _ HT2.out).mono ?_;rintro e w3 ⟨rfl, hb3⟩;have HB3 := hid' (below_two HB2.out hb3);have HO3 := hid' (own_kp16 HO2.out hb3);clear hb3;go_wp2;go_roundw
   case rel => exact ⟨y2, m, b2, ds ++ Rg.nums s.size 0 y.data.toList, po, pc, rfl, rfl, rfl, by have := HYS.out; omega, HM2, hid' (by rw [HE.out, HTK2.out.1]), HO3, HB3⟩
   case measure =>
    cases b2
    ·simp
    ·have := HTK2.out.2 rfl;simp; omega

end Go.Proofs.YthhpejgpfaikaabGreatDoor
