/-
  What bytes tell a reader, whatever their pieces: what is of no program.
  What a row of calls tells of bytes: what is of no program.
-/
import Derived.Test.YtbpdhcfmdkmoiaaGreatDoorPnAC
namespace Go.Proofs.YtbpdhcfmdkmoiaaGreatDoor
namespace Hr

/-- What is told: a body's byte, or another piece. -/
abbrev Ev := Sum UInt8 Pc
def isDead (s : St) : Bool := match s.md with | (.inr .u64) => true | _ => false
def isFin (s : St) : Bool := match s.md with | (.inr .u32) => true | _ => false
def isBody (s : St) : Bool := match s.md with | (.inr .i32) | (.inr .i64) => true | _ => false
def lastOf (p : Pc) : List Ev := if p.mark == 0 || p.mark == 4 then [] else [.inr p]
/-- One byte. -/
def bst (s : St) (b : UInt8) : List Ev × St :=
  match s.md with
  | (.inr .i32) => if s.left ≤ 1 then ([.inl b, .inr (allP [])], fresh s) else ([.inl b], { s with left := s.left - 1 })
  | (.inr .i64) => if s.left ≤ 1 then ([.inl b], { s with left := 0, md := (.inr .u8) }) else ([.inl b], { s with left := s.left - 1 })
  | _ => (lastOf (one s b).1, (one s b).2)
def evs (s : St) : T8 → List Ev × St
  | [] => ([], s)
  | b :: r => if isDead s then ([], s) else ((bst s b).1 ++ (evs (bst s b).2 r).1, (evs (bst s b).2 r).2)
theorem evs_dead {s : St} (h : isDead s = true) (d : T8) : evs s d = ([], s) := by
  cases d with
  | nil => rfl
  | cons b r => rw [evs, if_pos h]
theorem evs_app : ∀ (a c : T8) (s : St), evs s (a ++ c) = ((evs s a).1 ++ (evs (evs s a).2 c).1, (evs (evs s a).2 c).2)
  | [], c, s => by simp [evs]
  | b :: r, c, s => by
    rw [List.cons_append, evs, evs]
    cases hd : isDead s with
    | true => simp only [if_true, List.nil_append]; rw [evs_dead hd]
    | false => simp only [Bool.false_eq_true, if_false]; rw [evs_app r c]; simp only [List.append_assoc]
/-- What is kept between calls: not at a body's end, and a body has bytes left. -/
structure Good (s : St) : Prop where
  fin : isFin s = false
  left : isBody s = true → 1 ≤ s.left
theorem Good.fresh (s : St) : Good (Hr.fresh s) := ⟨rfl, fun h => by cases h⟩
theorem good_zero (L M : Nat) : Good (zero L M (.inl false)) := ⟨rfl, fun h => by cases h⟩

/-- What a call of a line's parts may leave. -/
structure Step (p : Pc) (s' : St) : Prop where
  good : Good s'
  dead : p.mark = 4 ↔ isDead s' = true
  st : p.mark = 4 → s'.st = p.st ∧ p.st ≠ 0
  nobody : p.mark ≠ 2
theorem Step.broke (s : St) (c : Int) (hc : c ≠ 0) : Step (Hr.broke s c).1 (Hr.broke s c).2 :=
  ⟨⟨rfl, fun h => by cases h⟩, ⟨fun _ => rfl, fun _ => rfl⟩, fun _ => ⟨rfl, hc⟩, by simp [Hr.broke, brk]⟩
theorem Step.go {p : Pc} {s' : St} (hp : p.mark = 0 ∨ p.mark = 1 ∨ p.mark = 3) (hd : isDead s' = false) (hg : Good s') : Step p s' :=
  ⟨hg, ⟨fun h => by rcases hp with h1 | h1 | h1 <;> rw [h1] at h <;> exact absurd h (by decide), fun h => by rw [hd] at h; cases h⟩, fun h => by rcases hp with h1 | h1 | h1 <;> rw [h1] at h <;> exact absurd h (by decide), by rcases hp with h1 | h1 | h1 <;> rw [h1] <;> decide⟩
theorem line_good {s : St} (h : lineM s = true) : Good s ∧ isDead s = false := by
  unfold lineM at h
  refine ⟨⟨?_, ?_⟩, ?_⟩ <;> simp only [isFin, isBody, isDead] <;> split <;> simp_all
theorem codE_ne (s : St) : codE s = 0 ∨ codE s = 400 ∨ codE s = 501 := by
  unfold codE
  split
  · split
    · simp
    · split <;> simp
  · simp
theorem addF_step (s : St) (h : lineM s = true) (l : T8) : Step (addF s l).1 (addF s l).2 := by
  unfold addF
  split
  · split
    · exact Step.broke _ _ (by decide)
    · obtain ⟨hg, hd⟩ := line_good h
      exact Step.go (.inl rfl) hd ⟨hg.fin, hg.left⟩
  · exact Step.broke _ _ (by decide)
theorem useL_step (s : St) (h : lineM s = true) (l : T8) : Step (useL s l).1 (useL s l).2 := by
  unfold useL
  split
  · unfold useStart
    split
    · exact Step.go (.inl rfl) (line_good h).2 (line_good h).1
    · split
      · exact Step.go (.inl rfl) rfl ⟨rfl, fun h => by cases h⟩
      · rename_i he; exact Step.broke _ _ (by simpa using he)
  · unfold useField
    split
    · split
      · refine Step.go (.inr (.inl rfl)) ?_ ?_
        · unfold behind
          split
          · rfl
          · split <;> rfl
        · unfold behind
          split
          · exact ⟨rfl, fun h => by cases h⟩
          · split
            · rename_i hl; exact ⟨rfl, fun _ => by simp only; omega⟩
            · exact Good.fresh s
      · rename_i he; exact Step.broke _ _ (by simpa using he)
    · exact addF_step s h l
  · unfold useSize
    split
    · exact Step.broke _ _ (by decide)
    · split
      · exact Step.broke _ _ (by decide)
      · split
        · exact Step.go (.inl rfl) rfl ⟨rfl, fun h => by cases h⟩
        · rename_i h0
          refine Step.go (.inl rfl) rfl ⟨rfl, fun _ => ?_⟩
          have h1 : (Tx.num 16 (digs l)).1 ≠ 0 := by simpa using h0
          have h2 : 0 ≤ (Tx.num 16 (digs l)).1 := by
            unfold Tx.num
            split
            · exact Int.le_refl _
            · split
              · exact Int.le_refl _
              · exact Tx.numv_nonneg 16 (by decide) _
          simp only
          omega
  · unfold useTrailer
    split
    · split
      · exact Step.go (.inr (.inr rfl)) rfl (Good.fresh s)
      · exact Step.broke _ _ (by decide)
    · exact addF_step s h l
theorem code_ne (s : St) : code s ≠ 0 := by unfold code; split <;> decide
theorem takeB_step (s : St) (h : lineM s = true) (b : UInt8) : Step (takeB s b).1 (takeB s b).2 := by
  obtain ⟨hg, hd⟩ := line_good h
  unfold takeB
  split
  · exact Step.broke _ _ (by decide)
  · split
    · exact useL_step { s with ln := [], cr := false } h _
    · split
      · exact Step.go (.inl rfl) hd ⟨hg.fin, hg.left⟩
      · split
        · exact Step.broke _ _ (code_ne s)
        · exact Step.go (.inl rfl) hd ⟨hg.fin, hg.left⟩
theorem one_step (s : St) (h : lone s = false) (b : UInt8) : Step (one s b).1 (one s b).2 := by
  cases hl : lineM s with
  | true => rw [one_line hl]; exact takeB_step s hl b
  | false =>
    have hmd : s.md = (.inr .u8) ∨ s.md = (.inr .u16) := by
      unfold lineM at hl
      unfold lone at h
      rcases hm : s.md with ((_ | _) | (_ | _ | _ | _ | _ | _ | _ | _)) <;> rw [hm] at hl h <;> simp at hl h <;> simp
    unfold one
    rcases hmd with hm | hm <;> rw [hm] <;> simp only
    · split
      · exact Step.go (.inl rfl) rfl ⟨rfl, fun h => by cases h⟩
      · exact Step.broke _ _ (by decide)
    · split
      · exact Step.go (.inl rfl) rfl ⟨rfl, fun h => by cases h⟩
      · exact Step.broke _ _ (by decide)
theorem bst_one {s : St} (h : lone s = false) (b : UInt8) : bst s b = (lastOf (one s b).1, (one s b).2) := by
  unfold lone at h
  unfold bst
  split <;> simp_all

/-- Bytes of a body, all of them within it. -/
theorem evs_body : ∀ (d : T8) (s : St), isBody s = true → d.length < s.left → evs s d = (d.map .inl, { s with left := s.left - d.length })
  | [], s, _, _ => by simp [evs]
  | b :: r, s, hb, hl => by
    have hd : isDead s = false := by unfold isBody at hb; unfold isDead; split <;> simp_all
    have hs : bst s b = ([.inl b], { s with left := s.left - 1 }) := by
      simp only [List.length_cons] at hl
      unfold isBody at hb
      unfold bst
      split <;> simp_all <;> omega
    have ih := evs_body r { s with left := s.left - 1 } hb (by simp only [List.length_cons] at hl; simp only; omega)
    rw [evs, hd, hs]
    simp only [Bool.false_eq_true, if_false]
    rw [ih]
    simp only [List.map_cons, List.singleton_append, List.length_cons]
    congr 2
    omega

end Hr

end Go.Proofs.YtbpdhcfmdkmoiaaGreatDoor

namespace Go.Proofs.YtbpdhcfmdkmoiaaGreatDoor
namespace Hr

/-- What a reader says that is behind a body of a length. -/
def finE (s : St) : List Ev × St := if isFin s then ([.inr (allP [])], fresh s) else ([], s)
/-- What a call answers, against what its bytes tell. -/
structure Told (s : St) (d : T8) (n : Nat) (p : Pc) (s' : St) : Prop where
  le : n ≤ d.length
  nil : p.mark = 0 → n = d.length ∧ evs s d = ([], s') ∧ Good s' ∧ isDead s' = false
  bad : p.mark = 4 → evs s d = ([], s') ∧ isDead s' = true ∧ s'.st = p.st ∧ p.st ≠ 0
  body : p.mark = 2 → 1 ≤ n ∧ 0 < p.bd.size ∧ evs s (d.take n) = (p.bd.data.toList.map .inl ++ (finE s').1, (finE s').2) ∧ (isFin s' = true ∨ Good s') ∧ isDead s' = false ∧ p = bodyP p.bd
  pc : p.mark ≠ 0 → p.mark ≠ 4 → p.mark ≠ 2 → 1 ≤ n ∧ evs s (d.take n) = ([.inr p], s') ∧ Good s' ∧ isDead s' = false
theorem evs_part (s : St) (d : T8) (hb : isBody s = true) (hl : 1 ≤ s.left) (hd : d ≠ []) :
    Told s d (nx s d).1 (nx s d).2.1 (nx s d).2.2 := by
  have hmd : s.md = (.inr .i32) ∨ s.md = (.inr .i64) := by unfold isBody at hb; rcases hm : s.md with ((_ | _) | (_ | _ | _ | _ | _ | _ | _ | _)) <;> rw [hm] at hb <;> simp at hb <;> simp
  have hdl : 1 ≤ d.length := by cases d with | nil => exact absurd rfl hd | cons _ _ => simp
  have hnd : isDead s = false := by unfold isDead; rcases hmd with h | h <;> rw [h]
  obtain ⟨k, hk⟩ : ∃ k, min s.left d.length = k := ⟨_, rfl⟩
  have hk1 : 1 ≤ k := by omega
  have hkd : k ≤ d.length := by omega
  have hks : k ≤ s.left := by omega
  obtain ⟨md', hmd'⟩ : ∃ m : Md, (s.md = (.inr .i32) ∧ m = (.inr .u32)) ∨ (s.md = (.inr .i64) ∧ m = (.inr .u8)) := by
    rcases hmd with h | h
    · exact ⟨(.inr .u32), .inl ⟨h, rfl⟩⟩
    · exact ⟨(.inr .u8), .inr ⟨h, rfl⟩⟩
  have hnx : nx s d = (k, bodyP (ba (d.take k)), { s with left := s.left - k, md := if s.left - k = 0 then md' else s.md }) := by
    rcases hmd' with ⟨h1, h2⟩ | ⟨h1, h2⟩
    · unfold nx; rw [h1]; simp only [part, hk]; rw [if_neg (by omega), h2, h1]
    · unfold nx; rw [h1]; simp only [part, hk]; rw [if_neg (by omega), h2, h1]
  rw [hnx]
  have hev : evs s (d.take k) = ((d.take k).map .inl ++ (finE { s with left := s.left - k, md := if s.left - k = 0 then md' else s.md }).1, (finE { s with left := s.left - k, md := if s.left - k = 0 then md' else s.md }).2) := by
    by_cases hlt : k < s.left
    · rw [evs_body _ s hb (by rw [List.length_take]; omega), List.length_take, Nat.min_eq_left hkd, if_neg (by omega)]
      unfold finE isFin
      rcases hmd with h | h <;> rw [h] <;> simp
    · have hke : k = s.left := by omega
      obtain ⟨j, hj⟩ : ∃ j, k = j + 1 := ⟨k - 1, by omega⟩
      have hjd : j < d.length := by omega
      rw [hj, List.take_succ_eq_append_getElem hjd, evs_app, evs_body _ s hb (by rw [List.length_take]; omega)]
      simp only [List.length_take, Nat.min_eq_left (Nat.le_of_lt hjd)]
      have hl1 : s.left - j = 1 := by omega
      rw [evs]
      have hnd2 : isDead { s with left := s.left - j } = false := hnd
      rw [hnd2]
      simp only [Bool.false_eq_true, if_false, evs]
      have h0 : s.left - (j + 1) = 0 := by omega
      rw [h0]
      have hmp : (d.take (j + 1)).map (Sum.inl : UInt8 → Ev) = (d.take j).map (Sum.inl : UInt8 → Ev) ++ [(Sum.inl d[j] : Ev)] := by rw [List.take_succ_eq_append_getElem hjd, List.map_append]; rfl
      rw [← List.take_succ_eq_append_getElem hjd, hmp, List.append_assoc]
      rcases hmd' with ⟨h1, h2⟩ | ⟨h1, h2⟩
      · simp only [bst, h1, hl1, finE, isFin, h2, if_true, Nat.le_refl, List.append_nil]
        rfl
      · simp only [bst, h1, hl1, finE, isFin, h2, if_true, Nat.le_refl, List.append_nil]
        rfl
  refine ⟨hkd, fun h => ?_, fun h => ?_, fun _ => ⟨hk1, ?_, ?_, ?_, ?_, rfl⟩, fun _ _ h => ?_⟩
  · simp [bodyP] at h
  · simp [bodyP] at h
  · rw [Lib.size_eq]
    simp [bodyP, ba]
    omega
  · simpa [bodyP, ba] using hev
  · by_cases h0 : s.left - k = 0
    · rcases hmd' with ⟨h1, h2⟩ | ⟨h1, h2⟩
      · left; simp [isFin, h0, h2]
      · right; exact ⟨by simp [isFin, h0, h2], fun h => by simp [isBody, h0, h2] at h⟩
    · right
      refine ⟨?_, fun _ => by simp only; omega⟩
      simp only [isFin, if_neg h0]
      rcases hmd with h | h <;> rw [h]
  · unfold isDead
    by_cases h0 : s.left - k = 0
    · rcases hmd' with ⟨h1, h2⟩ | ⟨h1, h2⟩ <;> simp [h0, h2]
    · rcases hmd with h | h <;> simp [h0, h]
  · exact absurd rfl h
theorem told_feed : ∀ (d : T8) (s : St), Good s → isDead s = false → Told s d (feed s d).1 (feed s d).2.1 (feed s d).2.2
  | [], s, hg, hd => by
    have e : feed s [] = (0, pc0, s) := by
      rw [feed]
      split
      · rename_i hl
        unfold lone at hl
        have hf := hg.fin
        unfold isFin at hf
        unfold isDead at hd
        unfold nx
        rcases hm : s.md with ((_ | _) | (_ | _ | _ | _ | _ | _ | _ | _)) <;> rw [hm] at hl hf hd <;> simp at hl hf hd <;> simp [part]
      · rfl
    rw [e]
    exact ⟨Nat.le_refl _, fun _ => ⟨rfl, rfl, hg, hd⟩, fun h => by simp [pc0] at h, fun h => by simp [pc0] at h, fun h => absurd rfl h⟩
  | b :: r, s, hg, hd => by
    cases hl : lone s with
    | true =>
      have hb : isBody s = true := by
        unfold lone at hl
        have hf := hg.fin
        unfold isFin at hf
        unfold isDead at hd
        unfold isBody
        rcases hm : s.md with ((_ | _) | (_ | _ | _ | _ | _ | _ | _ | _)) <;> rw [hm] at hl hf hd <;> simp at hl hf hd <;> simp
      rw [feed_lone hl]
      exact evs_part s (b :: r) hb (hg.left hb) (by simp)
    | false =>
      rw [feed, hl]
      simp only [Bool.false_eq_true, if_false]
      have hs := one_step s hl b
      have hbst := bst_one hl b
      cases hm : ((one s b).1.mark == 0) with
      | true =>
        have hm0 : (one s b).1.mark = 0 := by simpa using hm
        simp only [if_true]
        have hd' : isDead (one s b).2 = false := by
          cases hq : isDead (one s b).2 with
          | false => rfl
          | true => have := hs.dead.2 hq; rw [hm0] at this; exact absurd this (by decide)
        have ih := told_feed r (one s b).2 hs.good hd'
        have key : ∀ x : T8, evs s (b :: x) = evs (one s b).2 x := fun x => by
          rw [evs, hd, hbst]
          simp only [Bool.false_eq_true, if_false, lastOf, hm, Bool.true_or, if_true, List.nil_append]
        refine ⟨by have := ih.le; simp only [List.length_cons]; omega, fun h => ?_, fun h => ?_, fun h => ?_, fun h1 h2 h3 => ?_⟩
        · obtain ⟨a1, a2, a3⟩ := ih.nil h
          exact ⟨by simp only [List.length_cons]; omega, by rw [key]; exact a2, a3⟩
        · rw [key]; exact ih.bad h
        · obtain ⟨a1, a2, a3, a4⟩ := ih.body h
          exact ⟨Nat.le_add_left 1 _, a2, by rw [List.take_succ_cons, key]; exact a3, a4⟩
        · obtain ⟨a1, a2, a3⟩ := ih.pc h1 h2 h3
          exact ⟨Nat.le_add_left 1 _, by rw [List.take_succ_cons, key]; exact a2, a3⟩
      | false =>
        have hm0 : (one s b).1.mark ≠ 0 := by simpa using hm
        simp only [Bool.false_eq_true, if_false]
        refine ⟨by simp, fun h => absurd h hm0, fun h => ?_, fun h => absurd h hs.nobody, fun _ h2 _ => ?_⟩
        · have hq := hs.dead.1 h
          refine ⟨?_, hq, hs.st h⟩
          rw [evs, hd, hbst]
          simp only [Bool.false_eq_true, if_false]
          rw [evs_dead hq]
          simp [lastOf, h]
        · refine ⟨Nat.le_refl _, ?_, hs.good, ?_⟩
          · rw [List.take_succ_cons, List.take_zero, evs, hd, hbst]
            simp only [Bool.false_eq_true, if_false, evs]
            simp [lastOf, hm0, h2]
          · cases hq : isDead (one s b).2 with
            | false => rfl
            | true => exact absurd (hs.dead.2 hq) h2

/-- Pieces, bodies put together. -/
def addP (out : List Pc) (p : Pc) : List Pc :=
  match out.getLast? with
  | some q => if p.mark == 2 && q.mark == 2 then out.dropLast ++ [{ q with bd := q.bd ++ p.bd }] else out ++ [p]
  | none => out ++ [p]
/-- A row of calls. -/
def told : Nat → St → T8 → List Pc → List Pc × Int × Bool × St
  | 0, s, _, out => (out, 0, false, s)
  | k + 1, s, d, out =>
    if (read s d).2.1.mark == 0 then (out, 0, (d.drop (read s d).1).isEmpty, (read s d).2.2)
    else if (read s d).2.1.mark == 4 then (out, (read s d).2.1.st, true, (read s d).2.2)
    else told k (read s d).2.2 (d.drop (read s d).1) (addP out (read s d).2.1)
end Hr

end Go.Proofs.YtbpdhcfmdkmoiaaGreatDoor
