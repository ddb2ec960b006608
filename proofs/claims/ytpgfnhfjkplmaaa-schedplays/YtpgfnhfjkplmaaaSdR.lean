/-
  The document's scheduler in memory; at, Set, Ready, Pick: by their contracts.
-/
import Derived.Test.YtpgfnhfjkplmaaaSdH
import Derived.Deep.QuietTactic
namespace Go.Proofs.Ytpgfnhfjkplmaaa
open Go.RowKit

def tkC (ts : List (Int × Bool)) : List Value := ts.flatMap fun p : Int × Bool => [.int .i64 p.1, .bool p.2]
theorem tkC_append (l m : List (Int × Bool)) : tkC (l ++ m) = tkC l ++ tkC m := by simp [tkC]
theorem tkC_cons (p : Int × Bool) (m : List (Int × Bool)) : tkC (p :: m) = .int .i64 p.1 :: .bool p.2 :: tkC m := by simp [tkC]
theorem tkC_length (l : List (Int × Bool)) : (tkC l).length = l.length * 2 := by
  induction l with
  | nil => rfl
  | cons a r ih => rw [tkC_cons]; simp; omega
theorem tk_at (l : List (Int × Bool)) (i : Nat) (p : Int × Bool) (h : l[i]? = some p) : (tkC l)[i * 2]? = some (.int .i64 p.1) ∧ (tkC l)[i * 2 + 1]? = some (.bool p.2) := by
  induction l generalizing i with
  | nil => simp at h
  | cons a r ih =>
    rw [tkC_cons]
    cases i with
    | zero => simp at h; subst h; simp
    | succ i =>
      have := ih i (by simpa using h)
      rw [show (i + 1) * 2 = i * 2 + 1 + 1 by omega]
      simpa using this
theorem tk_take (l : List (Int × Bool)) (i : Nat) : tkC (l.take i) = (tkC l).take (i * 2) := by
  induction l generalizing i with
  | nil => simp [tkC]
  | cons a r ih =>
    cases i with
    | zero => simp [tkC]
    | succ i => rw [List.take_succ_cons, tkC_cons, tkC_cons, ih, show (i + 1) * 2 = i * 2 + 1 + 1 by omega, List.take_succ_cons, List.take_succ_cons]
theorem tk_drop (l : List (Int × Bool)) (i : Nat) : tkC (l.drop i) = (tkC l).drop (i * 2) := by
  induction l generalizing i with
  | nil => simp [tkC]
  | cons a r ih =>
    cases i with
    | zero => simp
    | succ i => rw [List.drop_succ_cons, tkC_cons, ih, show (i + 1) * 2 = i * 2 + 1 + 1 by omega, List.drop_succ_cons, List.drop_succ_cons]
theorem tk_set (l : List (Int × Bool)) (i : Nat) (x : Int) (c d : Bool) (h : l[i]? = some (x, c)) : tkC (l.set i (x, d)) = (tkC l).set (i * 2 + 1) (.bool d) := by
  induction l generalizing i with
  | nil => simp at h
  | cons a r ih =>
    cases i with
    | zero => simp at h; subst h; simp [tkC]
    | succ i => rw [List.set_cons_succ, tkC_cons, ih i (by simpa using h), tkC_cons, show (i + 1) * 2 + 1 = (i * 2 + 1) + 1 + 1 by omega, List.set_cons_succ, List.set_cons_succ]
theorem tk_one (l : List (Int × Bool)) : ∀ u ∈ tkC l, u.oneCell' = true := by
  intro u hu
  simp only [tkC, List.mem_flatMap] at hu
  obtain ⟨p, _, hp⟩ := hu
  rcases List.mem_cons.1 hp with rfl | hp
  · rfl
  · rcases List.mem_cons.1 hp with rfl | hp
    · rfl
    · simp at hp

/-- The document's scheduler in memory. -/
structure RM (w : World) (B b : Nat) (v : Value) (ts : List (Int × Bool)) : Prop where
  ge : B ≤ b
  obj : Ar w b 27 #[v]
  row : w.ownsRow B 52 2 v ts.length (tkC ts)
  ok : Sd.Ok ts
  le : ts.length ≤ 4096
/-- Its blocks. -/
def RS (b : Nat) (v : Value) (k : Nat) : Prop := k = b ∨ v.ownBlock = some k
theorem RM.lb {w : World} {B b : Nat} {v : Value} {ts : List (Int × Bool)} (h : RM w B b v ts) : B ≤ w.heap.size := Nat.le_trans h.ge (Nat.le_of_lt h.obj.lt)
theorem RM.rs {w : World} {B b : Nat} {v : Value} {ts : List (Int × Bool)} (h : RM w B b v ts) : ∀ k, RS b v k → B ≤ k ∧ k < w.heap.size := by
  rintro k (rfl | hk)
  · exact ⟨h.ge, h.obj.lt⟩
  · exact ⟨(own_ty h.row k hk).1, own_lt h.row k hk⟩
theorem RM.other {S : Nat → Prop} {w w' : World} {B b : Nat} {v : Value} {ts : List (Int × Bool)} (h : RM w B b v ts) (hf : LF S w w') (hs : ∀ k, RS b v k → ¬ S k) : RM w' B b v ts :=
  ⟨h.ge, hf.ar h.obj (hs b (.inl rfl)), own_same h.row (fun k hk => hf.block k (own_lt h.row k hk) (hs k (.inr hk))), h.ok, h.le⟩
theorem RM.keep {w w' : World} {B b : Nat} {v : Value} {ts : List (Int × Bool)} (h : RM w B b v ts) (hb : Below w.heap.size w w') : RM w' B b v ts :=
  h.other (LF.of_below (S := fun _ => False) hb) (fun _ _ => id)
theorem RM.drewN {w : World} {B b : Nat} {v : Value} {ts : List (Int × Bool)} (h : RM w B b v ts) (q : Nat) : RM (w.drewN q) B b v ts := h.keep ⟨rfl, rfl, rfl, Nat.le_refl _, fun _ _ => rfl⟩
theorem own2_rr {w : World} {B : Nat} {e : TypeId} {s : Nat} {v : Value} {n : Nat} {xs : List Value} (h : w.ownsRow B e s v n xs) : RQ w v n xs := by
  rcases h.2 with ⟨hv, hn⟩ | ⟨g, cap, cur, hv, _, h3, _⟩
  · exact .inl ⟨hv, hn⟩
  · refine .inr ⟨⟨g, 0, none⟩, cap, hv, fun j u hj => ⟨?_, ?_⟩⟩
    · have := (Array.getElem?_eq_some_iff.1 h3).1
      unfold Addr.add
      split <;> exact this
    · exact h.cells (g := g) (by rw [hv]; rfl) j u hj
theorem RQ.two {w : World} {ao : Option Addr} {n n' cap : Nat} {l : List (Int × Bool)} (h : RQ w (.slice ao n cap) n' (tkC l)) (hn : n' = l.length) (i : Nat) (p : Int × Bool) (hp : l[i]? = some p) : ∃ a, ao = some a ∧ w.cell? (a.add (i * 2)) = some (.int .i64 p.1) ∧ w.cell? ⟨(a.add (i * 2)).block, (a.add (i * 2)).off + 1, none⟩ = some (.bool p.2) := by
  rcases h with ⟨_, rfl⟩ | ⟨a, cap', hv, hc⟩
  · have := (List.getElem?_eq_some_iff.1 hp).1; omega
  · injection hv with h1 _ _
    obtain ⟨e0, e1⟩ := tk_at _ _ _ hp
    refine ⟨a, h1, (hc _ _ e0).2, ?_⟩
    have := (hc _ _ e1).2
    rw [← Addr.add_add] at this
    simpa [Addr.add] using this

set_option maxHeartbeats 2000000 in
set_option maxRecDepth 20000 in
theorem rat (B b : Nat) (v : Value) (ts : List (Int × Bool)) (x : Int) (i : Nat) (d : Bool) (hi : Sd.pl x (Sd.ids ts) = i) (hd : decide (x ∈ Sd.ids ts) = d) (w : World) (h : RM w B b v ts) :
    Calls Try.prog 23 #[.pointer (some ⟨b, 0, none⟩), .int .i64 x] w fun e w' => e = .returned (.tuple #[.int .i64 (i : Int), .bool d]) ∧ ∃ q, w' = w.drewN q := by
  have c0 := h.obj.cell 0 _ rfl
  obtain ⟨ao, cap, hv⟩ := own_shape h.row
  subst hv
  have HR := hid' (own2_rr h.row)
  have hl := h.le
  have HIL : Hid (i ≤ ts.length) := hid' (by rw [← hi, ← Sd.ids_len]; exact Sd.pl_le _ _)
  have HBE : Hid (∀ t p, t < i → ts[t]? = some p → p.1 < x) := hid' (fun t p ht hp => Sd.pl_below x (Sd.ids ts) t p.1 (by rw [hi]; exact ht) (by simp [Sd.ids, hp]))
  have HM : Hid (x ∈ Sd.ids ts ↔ (Sd.ids ts)[i]? = some x) := hid' (by rw [← hi]; exact Sd.mem_iff x _ h.ok)
  have HPI := hid' hi
  have HD := hid' hd
  have HOK := hid' h.ok
  obtain ⟨n, hn⟩ : ∃ n, ts.length = n := ⟨_, rfl⟩
  have HN := hid' hn
  rw [hn] at HR c0 hl HIL
  clear h hn hi hd
  go_enter Try.func23, Try.ntmps23
  go_wp2
  go_loopw [6] (fun s6 wr => ∃ k : Nat, s6 = .int .i64 (k : Int) ∧ k ≤ i ∧ wr = w) (fun s6 _ => n - (intOf s6).toNat)
  case atStart => exact ⟨0, rfl, Nat.zero_le _, rfl⟩
  case round =>
    obtain ⟨k, rfl, hk, hwr⟩ := hrel
    subst wr
    have hin := HIL.out
    by_cases hlt : k < n
    · have hlt2 : (k : Int) < (n : Int) := by omega
      obtain ⟨p, hp⟩ : ∃ p, ts[k]? = some p := ⟨_, List.getElem?_eq_getElem (by rw [HN.out]; exact hlt)⟩
      obtain ⟨a, hao, y0, y1⟩ := HR.out.two HN.out.symm k p hp
      subst hao
      by_cases hki : k < i
      · have hpx := HBE.out k p hki hp
        have hpx2 : ¬ x ≤ p.1 := by omega
        have hpx3 : decide (x ≤ p.1) = false := decide_eq_false hpx2
        clear hp
        go_wp2
        go_roundw
        case rel => exact ⟨k + 1, by go_num, by omega, by first | rfl | trivial⟩
        case measure => simp [intOf]; omega
      · obtain rfl : k = i := by omega
        have hpx : x ≤ p.1 := by
          have h2 : ¬ p.1 < x := fun hlt3 => by
            have h3 : ∀ t y, t < k + 1 → (Sd.ids ts)[t]? = some y → y < x := fun t y ht hy => by
              by_cases e : t = k
              · subst e; simp [Sd.ids, hp] at hy; omega
              · obtain ⟨r, hr⟩ : ∃ r, ts[t]? = some r := ⟨_, List.getElem?_eq_getElem (by rw [HN.out]; omega)⟩
                have := HBE.out t r (by omega) hr
                simp [Sd.ids, hr] at hy; omega
            have h4 := HPI.out
            have h6 : k + 1 ≤ Sd.pl x (Sd.ids ts) := Sd.pl_ge x (Sd.ids ts) (k + 1) (by rw [Sd.ids_len, HN.out]; omega) h3
            omega
          omega
        have hpx3 : decide (x ≤ p.1) = true := decide_eq_true hpx
        have HDE : Hid ((p.1 == x) = d) := hid' (by
          rw [← HD.out]
          have h1 := HM.out
          have h2 : (Sd.ids ts)[k]? = some p.1 := by simp [Sd.ids, hp]
          rw [h2] at h1
          by_cases e : p.1 = x
          · rw [decide_eq_true (h1.2 (by rw [e]))]; simp [e]
          · rw [decide_eq_false (fun hm => e (by have := h1.1 hm; injection this))]; simp [e])
        have hde := HDE.out
        clear hp HDE hin
        go_wp2
        go_quiet (fail)
        go_wp2
        go_ret2
        exact ⟨rfl, _, rfl⟩
    · have hlt2 : ¬ (k : Int) < (n : Int) := by omega
      obtain rfl : k = n := by omega
      obtain rfl : i = k := by omega
      have HDE : Hid (d = false) := hid' (by
        rw [← HD.out]
        refine decide_eq_false fun hm => ?_
        have h1 := HM.out.1 hm
        rw [List.getElem?_eq_none (by rw [Sd.ids_len, HN.out]; exact Nat.le_refl _)] at h1
        cases h1)
      clear hin hlt
      go_wp2
      go_ret2
      exact ⟨by rw [HDE.out]; rfl, 0, rfl⟩

end Go.Proofs.Ytpgfnhfjkplmaaa
