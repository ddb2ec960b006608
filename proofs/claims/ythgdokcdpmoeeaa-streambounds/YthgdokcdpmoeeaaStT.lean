/-
  (*Book).Do of any step: by its contract.
-/
import Derived.Test.YthgdokcdpmoeeaaStS
namespace Go.Proofs.Ythgdokcdpmoeeaa
open Go.RowKit

/-- move, of what a verdict says. -/
theorem smove_any (B b : Nat) (k : Sm.Bk) (v u : Value) (s n : Nat) (e0 : Bool) (w : World) (h : BK w B b k v u) :
    Calls Try.prog 47 #[.pointer (some ⟨b, 0, none⟩), .int .i64 (n : Int), .int .u8 (Sm.phase k n : Int), .int .u8 ((Sm.judge s (Sm.phase k n) e0).to : Int)] w fun e w' => e = .returned (.tuple #[]) ∧ (∃ v' u', BK w' B b (Sm.move k n (Sm.phase k n) (Sm.judge s (Sm.phase k n) e0).to) v' u') ∧ KF B w w' := by
  have hok := Sm.ok_move h.ok s n e0
  have hj := Sm.judge_to s (Sm.phase k n) e0 (Sm.phase_le h.ok n)
  obtain ⟨p, hp⟩ : ∃ p, Sm.phase k n = p := ⟨_, rfl⟩
  rw [hp] at hok hj ⊢
  obtain ⟨to, hto⟩ : ∃ to, (Sm.judge s p e0).to = to := ⟨_, rfl⟩
  rw [hto] at hok hj ⊢
  clear hto
  by_cases he : p = to
  · subst he
    rw [Sm.move, if_pos rfl]
    exact (smove_same B b k v u n p w h).mono fun e w' ⟨h1, h2, h3⟩ => ⟨h1, ⟨_, _, h2⟩, h3⟩
  by_cases h5 : p = 5
  · have h4 : to = 4 := by omega
    subst h5 h4
    have hm := Sm.phase_dropped h.ok n hp
    rw [Sm.move, if_neg he, if_pos rfl] at hok ⊢
    exact (smove_over B b k v u n w h hm hok).mono fun e w' ⟨h1, ⟨u', h2⟩, h3⟩ => ⟨h1, ⟨_, _, h2⟩, h3⟩
  have hop : 1 ≤ p ∧ p ≤ 3 := by omega
  obtain ⟨hl, ho, hla⟩ := Sm.phase_open (k := k) n (by rw [hp]; exact hop.1) (by rw [hp]; exact hop.2)
  rw [hp] at hl
  by_cases ht : to ≤ 3
  · have ht1 : 1 ≤ to := by omega
    have hopn : Sm.isOpen to = true := by unfold Sm.isOpen; simp; omega
    rw [Sm.move, if_neg he, if_neg h5, if_pos hopn] at hok ⊢
    exact (smove_set B b k v u n p to w h hl hop.2 ht1 ht he hok).mono fun e w' ⟨h1, h2, h3⟩ => ⟨h1, ⟨_, _, h2⟩, h3⟩
  · have h45 : to = 4 ∨ to = 5 := by omega
    have hokc := Sm.ok_cut h.ok n
    rcases h45 with rfl | rfl
    · rw [Sm.move, if_neg he, if_neg h5, if_neg (by decide), if_neg (by decide)] at hok ⊢
      exact smove_cut B b k _ v u n p 4 w h hl hop.2 (.inl ⟨rfl, rfl⟩) hokc
    · rw [Sm.move, if_neg he, if_neg h5, if_neg (by decide), if_pos rfl] at hok ⊢
      exact smove_cut B b k _ v u n p 5 w h hl hop.2 (.inr ⟨rfl, rfl, hok⟩) hokc

/-- first, of any book. -/
theorem sfirst_any (B b : Nat) (k : Sm.Bk) (v u : Value) (n : Nat) (e0 : Bool) (w : World) (h : BK w B b k v u) (hodd : n % 2 = 1) (hn : n ≤ 2147483647) (hl : k.last < n) :
    Calls Try.prog 43 #[.pointer (some ⟨b, 0, none⟩), .int .i64 (n : Int), .bool e0] w fun e w' => e = .returned (.tuple #[.agg #[.bool (Sm.first k n e0).2.is, .bool (Sm.first k n e0).2.conn, .int .i64 (Sm.first k n e0).2.code], .bool (Sm.first k n e0).2.counts]) ∧ (∃ v' u', BK w' B b (Sm.first k n e0).1 v' u') ∧ KF B w w' := by
  have hok := Sm.ok_doN h.ok 1 n e0 hodd hn
  rw [Sm.doN, if_pos ⟨rfl, hl⟩] at hok
  by_cases hst : k.st = true
  · rw [Sm.first, if_pos hst] at hok ⊢
    exact (sfirst_stopped B b k v u n e0 w h hst hok).mono fun e w' ⟨h1, h2, h3⟩ => ⟨h1, ⟨_, _, h2⟩, h3⟩
  have hst2 : k.st = false := by simpa using hst
  by_cases hf : k.op.length = k.most
  · rw [Sm.first, if_neg hst, if_pos hf] at hok ⊢
    exact (sfirst_full B b k v u n e0 w h hst2 hf (Sm.ok_last h.ok hl hodd hn) hok).mono fun e w' ⟨h1, ⟨u', h2⟩, h3⟩ => ⟨h1, ⟨_, _, h2⟩, h3⟩
  · rw [Sm.first, if_neg hst, if_neg hf] at hok ⊢
    exact (sfirst_add B b k v u n _ e0 rfl w h hst2 hf (Sm.ok_last h.ok hl hodd hn) hok).mono fun e w' ⟨h1, ⟨v', h2⟩, h3⟩ => ⟨h1, ⟨_, _, h2⟩, h3⟩

theorem sdo_any (B b : Nat) (k : Sm.Bk) (v u : Value) (s : Nat) (id : Int) (e0 : Bool) (w : World) (h : BK w B b k v u) :
    Calls Try.prog 22 #[.pointer (some ⟨b, 0, none⟩), .int .u8 (s : Int), .int .i64 id, .bool e0] w fun e w' => e = .returned (doV (Sm.does k s id e0).2) ∧ (∃ v' u', BK w' B b (Sm.does k s id e0).1 v' u') ∧ KF B w w' := by
  cases hc : Sm.can id
  · rw [Sm.does, hc]
    exact (sdo_cannot B b k v u s id e0 w h hc).mono fun e w' ⟨h1, h2, h3⟩ => ⟨h1, ⟨_, _, h2⟩, h3⟩
  · have hi := (Sm.can_iff id).1 hc
    rw [Sm.does, hc, if_pos rfl]
    obtain ⟨n, rfl⟩ : ∃ n : Nat, id = n := ⟨id.toNat, by omega⟩
    rw [Int.toNat_natCast]
    have hodd : n % 2 = 1 := by omega
    have hn : n ≤ 2147483647 := by omega
    rw [Sm.doN]
    by_cases hf : s = 1 ∧ k.last < n
    · rw [if_pos hf]
      obtain ⟨rfl, hl⟩ := hf
      exact sdo_first_any B b k _ v u n e0 _ w h hodd hn hl (fun w hk => sfirst_any B b k v u n e0 w hk hodd hn hl)
    · rw [if_neg hf]
      by_cases hp : Sm.isGot s = true ∧ (k.last < n ∧ n ≤ k.pa)
      · rw [if_pos hp]
        exact (sdo_passed B b k v u s n e0 w h hodd hn hf hp.1 hp.2).mono fun e w' ⟨h1, h2, h3⟩ => ⟨h1, ⟨_, _, h2⟩, h3⟩
      · rw [if_neg hp]
        cases hg : Sm.isGot s
        · exact sdo_judge_f B b k _ v u s n e0 _ _ w h hodd hn hf hg rfl rfl (fun w hk => smove_any B b k v u s n e0 w hk)
        · exact sdo_judge_t B b k _ v u s n e0 _ _ w h hodd hn hf hg (fun hh => hp ⟨hg, hh⟩) rfl rfl (fun w hk => smove_any B b k v u s n e0 w hk)

end Go.Proofs.Ythgdokcdpmoeeaa
