/-
  What a step of a decoder does, by bounds; Decoder.field as a whole; what is gathered, in memory.
-/
import Derived.Test.YtmkkhfkfjmfdcaaGreatHpDF
import Derived.Test.YtmkkhfkfjmfdcaaGreatHpT
namespace Go.Proofs.YtmkkhfkfjmfdcaaGreat
theorem kind_cases (x : UInt8) : (Hp.kind x = (0, 7) ∧ hiOf x = 128) ∨ (Hp.kind x = (1, 6) ∧ hiOf x = 64) ∨ (Hp.kind x = (2, 5) ∧ hiOf x = 32) ∨ (Hp.kind x = (3, 4) ∧ hiOf x = 16) ∨ (Hp.kind x = (3, 4) ∧ hiOf x = 0) := by
  unfold Hp.kind hiOf
  by_cases c1 : 128 ≤ x.toNat
  · rw [if_pos c1, if_pos c1]; exact .inl ⟨rfl, rfl⟩
  · rw [if_neg c1, if_neg c1]
    by_cases c2 : 64 ≤ x.toNat
    · rw [if_pos c2, if_pos c2]; exact .inr (.inl ⟨rfl, rfl⟩)
    · rw [if_neg c2, if_neg c2]
      by_cases c3 : 32 ≤ x.toNat
      · rw [if_pos c3, if_pos c3]; exact .inr (.inr (.inl ⟨rfl, rfl⟩))
      · rw [if_neg c3, if_neg c3]
        by_cases c4 : 16 ≤ x.toNat
        · rw [if_pos c4]; exact .inr (.inr (.inr (.inl ⟨rfl, rfl⟩)))
        · rw [if_neg c4]; exact .inr (.inr (.inr (.inr ⟨rfl, rfl⟩)))
namespace Hp

theorem body_ok2 (M : Nat) (l : List UInt8) (n k : Nat) (c : Bool) (t : List UInt8) (j : Nat) (h : Pm.body M l n k c = .ok t j) : t.length ≤ 2 * j := by
  have hj := (body_ok M l n k c t j h).1
  unfold Pm.body at h
  by_cases h1 : M < (if c = true then (n + 3) / 4 else n)
  · rw [if_pos h1] at h; cases h
  · rw [if_neg h1] at h
    by_cases h2 : l.length < k + n
    · rw [if_pos h2] at h; cases h
    · rw [if_neg h2] at h
      by_cases h3 : c = true
      · rw [if_pos h3] at h
        generalize hd : Hf.dec M (Hf.unp ((l.drop k).take n)) 0 0 [] = r at h
        cases r with
        | ok s =>
          simp only [Pm.ofRes] at h
          injection h with h1 h2
          subst h1
          have := Hf.there_len M _ s hd
          rw [List.length_take, List.length_drop] at this
          omega
        | long => simp [Pm.ofRes] at h
        | pad => simp [Pm.ofRes] at h
        | fin => simp [Pm.ofRes] at h
      · rw [if_neg h3] at h
        injection h with h1 h2
        subst h1
        rw [List.length_take, List.length_drop]
        omega
theorem rs_le2 {l t : List UInt8} {k : Nat} (h : rs l = .ok t k) : t.length ≤ 2 * k := by
  have h := rs_of_ok h
  unfold Pm.rs at h
  generalize hr : Pm.rd 7 l = r at h
  cases r with
  | ok n j => exact body_ok2 _ _ _ _ _ _ _ h
  | arg => simp [Pm.ofR] at h
  | short => simp [Pm.ofR] at h
  | number => simp [Pm.ofR] at h
theorem value_ok2 {name rest : List UInt8} {f : List UInt8 × List UInt8} {r : List UInt8} (h : value rs name rest = .ok f r) : f.1 = name ∧ f.2.length + 2 * r.length ≤ 2 * rest.length := by
  unfold value at h
  split at h
  · cases h
  · rename_i t k ht
    injection h with h1 h2
    have := rs_le ht
    have := rs_le2 ht
    subst h1 h2
    rw [List.length_drop]
    refine ⟨rfl, ?_⟩
    show t.length + _ ≤ _
    omega
theorem field_ok2 {fs : List (List UInt8 × List UInt8)} {what n : Nat} {rest : List UInt8} {f : List UInt8 × List UInt8} {r : List UInt8} (h : field rs fs what n rest = .ok f r) :
    Tb.wt f + 2 * r.length ≤ 2 * rest.length + 1032 + Tb.size fs := by
  unfold Tb.wt
  unfold field at h
  split at h
  · split at h
    · cases h
    · rename_i g hg
      injection h with h1 h2
      subst h1 h2
      have := at_wt hg
      omega
  · split at h
    · split at h
      · cases h
      · rename_i t k ht
        have h1 := rs_le ht
        have h1' := rs_le2 ht
        obtain ⟨h2, h3⟩ := value_ok2 h
        rw [List.length_drop] at h3
        rw [h2]
        omega
    · split at h
      · cases h
      · rename_i g hg
        have := at_wt hg
        obtain ⟨h2, h3⟩ := value_ok2 h
        rw [h2]
        omega
/-- What a step leaves: the room and the table within R, fewer bytes, and what was gathered weighs no more than 70000 for each byte. -/
theorem step_le (R lim : Nat) (hR : R ≤ 65536) (hlim : lim ≤ R) (d : D) (x : UInt8) (l : List UInt8) (d' : D) (rest : List UInt8) (hd : d.room ≤ R) (hs : Tb.size d.fs ≤ d.room) (h : step rs lim d x l = .go d' rest) :
    d'.room ≤ R ∧ Tb.size d'.fs ≤ d'.room ∧ rest.length ≤ l.length ∧ Tb.size d'.out + 70000 * rest.length ≤ Tb.size d.out + 70000 * (l.length + 1) := by
  unfold step at h
  generalize hr : Pm.rd (kind x).2 (x :: l) = r at h
  cases r with
  | ok n k =>
    simp only at h
    have hb : (kind x).2 ≤ 8 := by rcases kind_cases x with ⟨e, _⟩ | ⟨e, _⟩ | ⟨e, _⟩ | ⟨e, _⟩ | ⟨e, _⟩ <;> rw [e] <;> decide
    obtain ⟨hk1, hk2, _, _⟩ := Pm.rd_le _ n k hb _ hr
    have hlen : ((x :: l).drop k).length = l.length + 1 - k := by rw [List.length_drop]; rfl
    rw [List.length_cons] at hk2
    split at h
    · split at h
      · cases h
      · rename_i hno
        injection h with h1 h2
        subst h1 h2
        rw [hlen]
        refine ⟨show n ≤ R by omega, Tb.shr_size _ _, by omega, ?_⟩
        show Tb.size d.out + _ ≤ _
        omega
    · split at h
      · cases h
      · generalize hf : field rs d.fs (kind x).1 n ((x :: l).drop k) = q at h
        cases q with
        | err e => simp at h
        | ok f r =>
          simp only at h
          injection h with h1 h2
          subst h1 h2
          have hf1 := (field_ok hf).1
          have hf2 := field_ok2 hf
          rw [hlen] at hf1 hf2
          refine ⟨hd, ?_, by omega, ?_⟩
          · simp only
            split
            · exact Tb.add_size _ _ _
            · exact hs
          · simp only [Tb.size_append, Tb.size_cons, Tb.size_nil]
            omega
  | arg => simp at h
  | short => simp at h
  | number => simp at h
theorem step_err (lim : Nat) (d : D) (x : UInt8) (l : List UInt8) (e : Nat) (h : step rs lim d x l = .err e) : 0 < e ∧ e ≤ 60 := by
  unfold step at h
  generalize hr : Pm.rd (kind x).2 (x :: l) = r at h
  cases r with
  | ok n k =>
    simp only at h
    split at h
    · split at h
      · injection h with h; omega
      · cases h
    · split at h
      · injection h with h; omega
      · generalize hf : field rs d.fs (kind x).1 n ((x :: l).drop k) = q at h
        cases q with
        | err e' =>
          simp only at h
          injection h with h
          have := field_err hf
          omega
        | ok f r => simp at h
  | arg => simp only [rErr] at h; injection h with h; omega
  | short => simp only [rErr] at h; injection h with h; omega
  | number => simp only [rErr] at h; injection h with h; omega
end Hp
open Go.RowKit

theorem kind_zero (x : UInt8) : (Hp.kind x).1 = 0 ↔ hiOf x = 128 := by
  rcases kind_cases x with ⟨e, f⟩ | ⟨e, f⟩ | ⟨e, f⟩ | ⟨e, f⟩ | ⟨e, f⟩ <;> rw [e, f] <;> decide
theorem kind_hi (x : UInt8) : hiOf x < 256 ∧ ((Hp.kind x).1 = 2 ↔ hiOf x = 32) ∧ ((Hp.kind x).1 = 1 ↔ hiOf x = 64) ∧ 1 ≤ (Hp.kind x).2 ∧ (Hp.kind x).2 ≤ 8 := by
  rcases kind_cases x with ⟨e, f⟩ | ⟨e, f⟩ | ⟨e, f⟩ | ⟨e, f⟩ | ⟨e, f⟩ <;> rw [e, f] <;> decide

theorem field_all_ok (B d b : Nat) (v : Value) (list : Int) (lim M : Nat) (fs : List (List UInt8 × List UInt8)) (x : UInt8) (n c : Nat) (l : List UInt8) (f : List UInt8 × List UInt8) (r : List UInt8) (w : World) (h : CD w B d b v list lim M fs) (hs : Tb.size fs ≤ 1048576) (hl : l.length ≤ 281474976710656) (hc : Ar w c 88 #[.string ⟨l.toArray⟩]) (hf : Hp.field Hp.rs fs (Hp.kind x).1 n l = .ok f r) :
    Calls Tryz.prog 71 #[.pointer (some ⟨d, 0, none⟩), .int .u8 (hiOf x : Int), .int .i64 (n : Int), .pointer (some ⟨c, 0, none⟩)] w fun e w' => e = .returned (.tuple #[.agg #[.string ⟨f.1.toArray⟩, .string ⟨f.2.toArray⟩], .int .i64 0]) ∧ Ar w' c 88 #[.string ⟨r.toArray⟩] ∧ Fr (· = c) w w' := by
  unfold Hp.field at hf
  by_cases hz : (Hp.kind x).1 = 0
  · rw [if_pos hz] at hf
    rw [(kind_zero x).1 hz]
    split at hf
    · cases hf
    · rename_i g hg
      injection hf with h1 h2
      subst h1 h2
      refine (field_indexed B d b v list lim M fs n c g w h hs hg).mono ?_
      rintro e w' ⟨rfl, hb⟩
      exact ⟨rfl, hc.keep hb, Fr.of_below hb⟩
  · rw [if_neg hz] at hf
    have hK : ((hiOf x : Int) == 128) = false := beq_false_of_ne (fun e => hz ((kind_zero x).2 (by omega)))
    split at hf
    · rename_i hn
      subst hn
      split at hf
      · cases hf
      · rename_i t j ht
        unfold Hp.value at hf
        split at hf
        · cases hf
        · rename_i u i hu
          injection hf with h1 h2
          subst h1 h2
          exact field_text_ok B d b v list lim M fs c w h hs _ hK l hl hc t j ht u i hu
    · split at hf
      · cases hf
      · rename_i g hg
        unfold Hp.value at hf
        split at hf
        · cases hf
        · rename_i u i hu
          injection hf with h1 h2
          subst h1 h2
          exact field_named_ok B d b v list lim M fs n c w h hs _ hK g hg l hl hc u i hu

theorem field_all_er (B d b : Nat) (v : Value) (list : Int) (lim M : Nat) (fs : List (List UInt8 × List UInt8)) (x : UInt8) (n c : Nat) (hn : n ≤ 2147483647) (l : List UInt8) (er : Nat) (w : World) (h : CD w B d b v list lim M fs) (hs : Tb.size fs ≤ 1048576) (hl : l.length ≤ 281474976710656) (hc : Ar w c 88 #[.string ⟨l.toArray⟩]) (hf : Hp.field Hp.rs fs (Hp.kind x).1 n l = .err er) :
    Calls Tryz.prog 71 #[.pointer (some ⟨d, 0, none⟩), .int .u8 (hiOf x : Int), .int .i64 (n : Int), .pointer (some ⟨c, 0, none⟩)] w fun e w' => e = .returned (.tuple #[.agg #[.string ⟨#[]⟩, .string ⟨#[]⟩], .int .i64 (er : Int)]) ∧ Fr (· = c) w w' := by
  unfold Hp.field at hf
  by_cases hz : (Hp.kind x).1 = 0
  · rw [if_pos hz] at hf
    rw [(kind_zero x).1 hz]
    split at hf
    · rename_i hg
      injection hf with h1
      subst h1
      exact field_gone128 B d b v list lim M fs n c w h hs hg hn
    · cases hf
  · rw [if_neg hz] at hf
    have hK : ((hiOf x : Int) == 128) = false := beq_false_of_ne (fun e => hz ((kind_zero x).2 (by omega)))
    split at hf
    · rename_i hn
      subst hn
      split at hf
      · rename_i e he
        injection hf with h1
        subst h1
        exact field_text_err B d b v list lim M fs c w h hs _ hK l hl hc e he
      · rename_i t j ht
        unfold Hp.value at hf
        split at hf
        · rename_i e he
          injection hf with h1
          subst h1
          exact field_text_ok_err B d b v list lim M fs c w h hs _ hK l hl hc t j ht e he
        · cases hf
    · rename_i hn0
      split at hf
      · rename_i hg
        injection hf with h1
        subst h1
        exact field_gone B d b v list lim M fs n c w h hs _ hK hg hn (beq_false_of_ne (by omega))
      · rename_i g hg
        unfold Hp.value at hf
        split at hf
        · rename_i e he
          injection hf with h1
          subst h1
          exact field_named_err B d b v list lim M fs n c w h hs _ hK g hg l hl hc e he
        · cases hf

/-- What of the fields is still there. -/
def kept (list : Int) (out : List (List UInt8 × List UInt8)) : List (List UInt8 × List UInt8) := if (Tb.size out : Int) ≤ list then out else []
/-- What is gathered of a block. -/
def GA (w : World) (B g : Nat) (v : Value) (list : Int) (out : List (List UInt8 × List UInt8)) : Prop :=
  RG w B g 90 54 2 v [.int .i64 (Tb.size out : Int), .int .i64 list] (kept list out).length (Tb.cells (kept list out))
theorem kept_app (list : Int) (out : List (List UInt8 × List UInt8)) (f : List UInt8 × List UInt8) :
    kept list (out ++ [f]) = if list < ((Tb.size out + Tb.wt f : Nat) : Int) then [] else kept list out ++ [f] := by
  unfold kept
  have : Tb.size (out ++ [f]) = Tb.size out + Tb.wt f := by rw [Tb.size_append, Tb.size_cons, Tb.size_nil]; omega
  rw [this]
  by_cases h : list < ((Tb.size out + Tb.wt f : Nat) : Int)
  · rw [if_pos h, if_neg (by omega)]
  · rw [if_neg h, if_pos (by omega), if_pos (by omega)]
theorem take_ga (B g : Nat) (v : Value) (list : Int) (out : List (List UInt8 × List UInt8)) (s t : List UInt8) (hb : Tb.size out + Tb.wt (s, t) ≤ 140737488355328) (w : World) (h : GA w B g v list out) (hB : B ≤ w.heap.size) :
    Calls Tryz.prog 72 #[.pointer (some ⟨g, 0, none⟩), .agg #[.string ⟨s.toArray⟩, .string ⟨t.toArray⟩]] w fun e w' => e = .returned (.tuple #[]) ∧
      ∃ v', GA w' B g v' list (out ++ [(s, t)]) ∧ (∀ k, v'.ownBlock = some k → v.ownBlock = some k ∨ w.heap.size ≤ k) ∧ Two g v.ownBlock w w' := by
  have hlen : (kept list out).length < 140737488355328 / 32 := by
    have h1 : (kept list out).length ≤ out.length := by unfold kept; split <;> simp
    have h2 := Tb.size_len out
    have h3 : 32 ≤ Tb.wt (s, t) := by unfold Tb.wt; omega
    omega
  refine (take_any B g v (Tb.size out) list _ _ s t _ rfl _ rfl (by omega) w h hlen hB).mono ?_
  rintro e w' ⟨rfl, v', n', xs', hr, hv, ht, hx⟩
  refine ⟨rfl, v', ?_, hv, ht⟩
  unfold GA
  have hsz : Tb.size (out ++ [(s, t)]) = Tb.size out + Tb.wt (s, t) := by rw [Tb.size_append, Tb.size_cons, Tb.size_nil]; omega
  rw [hsz, kept_app]
  rcases hx.out with ⟨h1, rfl, rfl⟩ | ⟨h1, rfl, rfl⟩
  · rw [if_pos h1]
    exact hr
  · rw [if_neg (by omega)]
    rw [List.length_append, Tb.cells_append]
    exact hr

end Go.Proofs.YtmkkhfkfjmfdcaaGreat
