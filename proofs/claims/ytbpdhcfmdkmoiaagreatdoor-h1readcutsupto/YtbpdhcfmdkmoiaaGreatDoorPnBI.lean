/-
  The laws' awake, on lists.
  A reader between calls; New, Read, Within, Held of it; no reader.
-/
import Derived.RegionTactic
import Derived.Test.YtbpdhcfmdkmoiaaGreatDoorPnAF
import Derived.Test.YtbpdhcfmdkmoiaaGreatDoorPnBH
namespace Go.Proofs.YtbpdhcfmdkmoiaaGreatDoor
namespace Hr
def awD : T8 := [80, 79, 83, 84, 32, 47, 97, 32, 72, 84, 84, 80, 47, 49, 46, 49, 13, 10, 72, 111, 115, 116, 58, 32, 104, 13, 10, 84, 114, 97, 110, 115, 102, 101, 114, 45, 69, 110, 99, 111, 100, 105, 110, 103, 58, 32, 99, 104, 117, 110, 107, 101, 100, 13, 10, 13, 10, 50, 59, 120, 61, 121, 13, 10, 97, 98, 13, 10, 48, 13, 10, 84, 58, 32, 118, 13, 10, 13, 10, 71, 69, 84, 32, 32, 47]
def aw0 : St := zero 100 10 (.inl false)
def aw1 : Nat × Pc × St := read aw0 awD
def aw2 : Nat × Pc × St := read aw1.2.2 (awD.drop aw1.1)
def aw3 : Nat × Pc × St := read aw2.2.2 ((awD.drop aw1.1).drop aw2.1)
def aw4 : Nat × Pc × St := read aw3.2.2 (((awD.drop aw1.1).drop aw2.1).drop aw3.1)
def awB : Bool := aw1.1 == 57 && aw2.1 == 9 && aw3.1 == 13 && aw1.2.1.mark == 1 && aw1.2.1.has && !aw1.2.1.last && aw1.2.1.rq.m.data.toList == [80, 79, 83, 84] && aw1.2.1.rq.p.data.toList == [47, 97] && aw1.2.1.rq.a.data.toList == [104] && within aw1.2.2 && aw2.2.1.mark == 2 && aw2.2.1.bd.data.toList == [97, 98] && aw3.2.1.mark == 3 && aw3.2.1.fs.length == 1 && aw3.2.1.fs.all (fun f => f.n.data.toList == [116] && f.v.data.toList == [118]) && aw4.2.1.mark == 0 && held aw4.2.2 == 6
theorem awB_true : awB = true := by kernel_rfl
end Hr

end Go.Proofs.YtbpdhcfmdkmoiaaGreatDoor

namespace Go.Proofs.YtbpdhcfmdkmoiaaGreatDoor
open Go.RowKit

namespace Hr
theorem rd_ok : ∀ (k : Nat) (s : St), Ok s → ∀ d : T8, Ok (rd k s d).2.2 ∧ cost (rd k s d).2.2 ≤ cost s + (rd k s d).1 ∧ LM s (rd k s d).2.2
  | 0, s, h, _ => ⟨h, Nat.le_add_right _ _, LM.rfl' s⟩
  | k + 1, s, h, d => by
    have h1 := nx_ok s h d
    have h2 := nx_LM s d
    rw [rd]
    split
    · exact ⟨h1.1, h1.2, h2⟩
    · have ih := rd_ok k _ h1.1 (d.drop (nx s d).1)
      refine ⟨ih.1, ?_, LM.trans h2 ih.2.2⟩
      simp only
      omega
theorem read_ok (s : St) (h : Ok s) (d : T8) : Ok (read s d).2.2 ∧ cost (read s d).2.2 ≤ cost s + (read s d).1 ∧ LM s (read s d).2.2 := rd_ok _ s h d
theorem rd_n : ∀ (k : Nat) (s : St) (d : T8), (rd k s d).1 ≤ d.length
  | 0, _, _ => Nat.zero_le _
  | k + 1, s, d => by
    have h1 := nx_n s d
    rw [rd]
    split
    · exact h1
    · have ih := rd_n k (nx s d).2.2 (d.drop (nx s d).1)
      rw [List.length_drop] at ih
      simp only
      omega
theorem read_n (s : St) (d : T8) : (read s d).1 ≤ d.length := rd_n _ s d
end Hr

/-- A reader between calls. -/
structure RT21 (B b : Nat) (s : Hr.St) (lv fv : Value) (w : World) : Prop where
  rn : RN w B b (rnx b s.md) lv fv s
  ok : Hr.Ok s
  tb : TBr B w
  L : s.L ≤ 9223372036854775807
  M : s.M ≤ 9223372036854775807
theorem RT21.keep {B b : Nat} {s : Hr.St} {lv fv : Value} {w w' : World} (h : RT21 B b s lv fv w) (hb : Below w.heap.size w w') : RT21 B b s lv fv w' := ⟨h.rn.keep hb, h.ok, h.tb.keep hb, h.L, h.M⟩
theorem RT21.other {B b : Nat} {s : Hr.St} {lv fv : Value} {w w' : World} {S : Nat → Prop} (h : RT21 B b s lv fv w) (hf : LF S w w') (hs : ∀ k, RS b lv fv k → ¬ S k) (hB : ∀ k, S k → B ≤ k) : RT21 B b s lv fv w' := ⟨h.rn.other hf hs, h.ok, h.tb.lf hf hB, h.L, h.M⟩
theorem nrs_step21 {b x n : Nat} {lv fv lv' fv' : Value} (h : ¬ RS b lv fv x) (hx : x < n) (hr : RW n lv fv lv' fv') : ¬ RS b lv' fv' x := by
  rintro (hk | hk | hk)
  · exact h (.inl hk)
  · rcases hr.1 _ hk with h1 | h1
    · exact h (.inr (.inl h1))
    · omega
  · rcases hr.2 _ hk with h1 | h1
    · exact h (.inr (.inr h1))
    · omega
/-- What a call of Read leaves. -/
structure RO21 (B b : Nat) (lv fv : Value) (q : Nat × Hr.Pc × Hr.St) (w : World) (rv tv lv' fv' : Value) (w' : World) : Prop where
  rt : RT21 B b q.2.2 lv' fv' w'
  lf : LF (RS b lv fv) w w'
  rw : RW w.heap.size lv fv lv' fv'
  k1 : w'.ownsRow B 52 2 rv q.2.1.rq.fs.length (fC q.2.1.rq.fs)
  k2 : w'.ownsRow B 52 2 tv q.2.1.fs.length (fC q.2.1.fs)
  k3 : ∀ k, rv.ownBlock = some k → ¬ RS b lv' fv' k
  k4 : ∀ k, tv.ownBlock = some k → ¬ RS b lv' fv' k
theorem creadT21 (B b : Nat) (lv fv : Value) (s : Hr.St) (d : ByteArray) (w : World) (h : RT21 B b s lv fv w) (hc : Hr.cost s + d.size ≤ 1048576) :
    Calls Tryz.prog 17 #[.pointer (some ⟨b, 0, none⟩), .string d] w fun e w' => ∃ rv tv lv' fv', e = .returned (.tuple #[.int .i64 ((Hr.read s d.data.toList).1 : Int), .agg (pcC (Hr.read s d.data.toList).2.1 rv tv)]) ∧ RO21 B b lv fv (Hr.read s d.data.toList) w rv tv lv' fv' w' := by
  refine (cread21 B b lv fv s d w h.rn h.ok h.tb hc h.L h.M).mono ?_
  rintro e w' ⟨v, lv', fv', he, ⟨rv, tv, hv, k1, k2, k3, k4⟩, hn, hf, hr⟩
  have ho := Hr.read_ok s h.ok d.data.toList
  refine ⟨rv, tv, lv', fv', by rw [he, hv], ⟨⟨hn, ho.1, h.tb.lf hf (fun k hk => (h.rn.rs k hk).1), by rw [ho.2.2.1]; exact h.L, by rw [ho.2.2.2]; exact h.M⟩, hf, hr, k1, k2, k3, k4⟩⟩
theorem cheldT21 (B b : Nat) (lv fv : Value) (s : Hr.St) (w : World) (h : RT21 B b s lv fv w) (hc : Hr.cost s ≤ 1048576) :
    Calls Tryz.prog 20 #[.pointer (some ⟨b, 0, none⟩)] w fun e w' => e = .returned (.int .i64 (Hr.held s : Int)) ∧ Below w.heap.size w w' := by
  have h1 := Hr.cost_len (n := 0) hc
  exact cheld21 B b _ lv fv s w h.rn h1.2.2.2.2.2.2 h1.2.2.2.2.1 h1.2.2.2.2.2.1 h1.2.1 h1.2.2.1
theorem cwithT21 (B b : Nat) (lv fv : Value) (s : Hr.St) (w : World) (h : RT21 B b s lv fv w) (hc : Hr.cost s ≤ 1048576) :
    Calls Tryz.prog 14 #[.pointer (some ⟨b, 0, none⟩)] w fun e w' => e = .returned (.bool (Hr.within s)) ∧ Below w.heap.size w w' :=
  cwithin21 B b _ lv fv s w h.rn (Hr.cost_len (n := 0) hc).2.2.2.2.2.2

theorem ldLm21 {w : World} {b : Nat} {x0 x1 x2 x3 x4 x5 x6 x7 x8 : Value} (h : Ar w b 29 #[x0, x1, x2, x3, x4, x5, x6, x7, x8]) : (loadVar 29 ⟨b, 0, none⟩).run Tryz.prog w = .ok (.agg #[x0, x1, x2, x3, x4, x5, x6, x7, x8]) w :=
  run_loadVar_row (P := Tryz.prog) w b 29 29 _ (0, 0) _ h Tryz.underlying29 rfl (by kernel_rfl)
set_option maxHeartbeats 1000000 in
theorem climits21 (L M : Int) (w : World) : Calls Tryz.prog 7 #[.int .i64 L, .int .i64 M] w fun e w' => e = .returned (.agg #[.int .i64 L, .int .i64 M, .int .i64 0, .int .i64 0, .int .i64 0, .int .i64 0, .int .i64 0, .int .i64 0, .int .i64 0]) ∧ Below w.heap.size w w' := by
  go_enter Tryz.func7, Tryz.ntmps7
  go_wp2
  have hA : Ar (w.alloc (.cells #[.int .i64 L, .int .i64 M, .int .i64 0, .int .i64 0, .int .i64 0, .int .i64 0, .int .i64 0, .int .i64 0, .int .i64 0] 29)) w.heap.size 29 #[.int .i64 L, .int .i64 M, .int .i64 0, .int .i64 0, .int .i64 0, .int .i64 0, .int .i64 0, .int .i64 0, .int .i64 0] := heap_alloc_last w _
  have hld := ldLm21 hA
  exact bodyPost_ret (v := .agg #[.int .i64 L, .int .i64 M, .int .i64 0, .int .i64 0, .int .i64 0, .int .i64 0, .int .i64 0, .int .i64 0, .int .i64 0]) (by simp [results, Tryz.results7, asAddr, hld]) rfl ⟨rfl, bl_alloc w _⟩
set_option maxHeartbeats 1000000 in
theorem csmall21 (w : World) : Calls Tryz.prog 19 #[] w fun e w' => e = .returned (.agg #[.int .i64 100, .int .i64 10, .int .i64 0, .int .i64 0, .int .i64 0, .int .i64 0, .int .i64 0, .int .i64 0, .int .i64 0]) ∧ Below w.heap.size w w' := by
  go_enter Tryz.func19, Tryz.ntmps19
  go_wp2
  have hA : Ar (w.alloc (.cells #[.int .i64 100, .int .i64 10, .int .i64 0, .int .i64 0, .int .i64 0, .int .i64 0, .int .i64 0, .int .i64 0, .int .i64 0] 29)) w.heap.size 29 #[.int .i64 100, .int .i64 10, .int .i64 0, .int .i64 0, .int .i64 0, .int .i64 0, .int .i64 0, .int .i64 0, .int .i64 0] := heap_alloc_last w _
  have hld := ldLm21 hA
  exact bodyPost_ret (v := .agg #[.int .i64 100, .int .i64 10, .int .i64 0, .int .i64 0, .int .i64 0, .int .i64 0, .int .i64 0, .int .i64 0, .int .i64 0]) (by simp [results, Tryz.results19, asAddr, hld]) rfl ⟨rfl, bl_alloc w _⟩
theorem cnewT21 (L M : Nat) (hL : 1 ≤ L) (hL2 : L ≤ 9223372036854775807) (hM : M ≤ 9223372036854775807) (w : World) (hT : TB w) :
    Calls Tryz.prog 6 #[.agg #[.int .i64 L, .int .i64 M, .int .i64 0, .int .i64 0, .int .i64 0, .int .i64 0, .int .i64 0, .int .i64 0, .int .i64 0]] w fun e w' => (∃ b, e = .returned (.tuple #[.pointer (some ⟨b, 0, none⟩), .int .i64 0]) ∧ RT21 w.heap.size b (Hr.zero L M (.inl false)) (.slice none 0 0) (.slice none 0 0) w') ∧ Below w.heap.size w w' := by
  refine (cnew21_yes L M 0 0 0 0 0 0 0 hL w).mono ?_
  rintro e w' ⟨⟨b, he, hn⟩, hb⟩
  exact ⟨⟨b, he, ⟨hn, Hr.Ok.zero hL, ⟨w, rfl, hT, hb⟩, hL2, hM⟩⟩, hb⟩

end Go.Proofs.YtbpdhcfmdkmoiaaGreatDoor
