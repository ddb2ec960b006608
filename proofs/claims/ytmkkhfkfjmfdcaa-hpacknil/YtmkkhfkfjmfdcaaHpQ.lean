/-
  Blocks of fields: what is written is read back: the plain theory.
-/
import Derived.Test.YtmkkhfkfjmfdcaaHpP
namespace Go.Proofs.Ytmkkhfkfjmfdcaa
namespace Hp

theorem find_le (fs : List (List UInt8 × List UInt8)) (f : List UInt8 × List UInt8) : (Tb.find fs f).1 ≤ 61 + fs.length := by
  have := Tb.findGo_le f (Tb.all fs) 0 0 (Nat.le_refl _)
  rw [Tb.all_length, Nat.zero_add] at this
  exact this

/-- A number that is written is met by the next step. -/
theorem step_num (rs : List UInt8 → Tx) (lim : Nat) (d : D) (h b : Nat) (hb : (h, b) = (128, 7) ∨ (h, b) = (64, 6) ∨ (h, b) = (32, 5) ∨ (h, b) = (16, 4) ∨ (h, b) = (0, 4)) (n : Nat) (hn : n ≤ 2147483647) (w : Nat) (hw : w = if h = 128 then 0 else if h = 64 then 1 else if h = 32 then 2 else 3) (t : List UInt8) :
    ∃ x l, Pm.num h b n ++ t = x :: l ∧ step rs lim d x l =
      if w = 2 then (if d.out ≠ [] ∨ lim < n then .err 60 else .go { d with room := n, fs := Tb.shr n d.fs } t)
      else if lim < d.room then .err 60
      else match field rs d.fs w n t with
        | .err e => .err e
        | .ok f rest => .go { room := d.room, fs := if w = 1 then Tb.add d.room d.fs f else d.fs, out := d.out ++ [f] } rest := by
  obtain ⟨x, r, e, hk⟩ := kind_of h b hb n
  have key : 1 ≤ b ∧ b ≤ 8 ∧ h < 256 ∧ h % 2 ^ b = 0 := by
    rcases hb with hb | hb | hb | hb | hb <;> (obtain ⟨rfl, rfl⟩ := Prod.mk.inj hb; decide)
  refine ⟨x, r ++ t, by rw [e]; rfl, ?_⟩
  have hrd := Pm.back h b n t key.1 key.2.1 key.2.2.1 key.2.2.2 hn
  have hx : x :: (r ++ t) = Pm.num h b n ++ t := by rw [e]; rfl
  rw [← hw] at hk
  unfold step
  rw [hk]
  simp only
  rw [hx, hrd]
  simp only [List.drop_left]
  rfl

section
variable (rs : List UInt8 → Tx) (str : List UInt8 → List UInt8) (hback : ∀ l r : List UInt8, l.length < 268435456 → rs (str l ++ r) = .ok l (str l).length)
include hback

theorem value_back (name v r : List UInt8) (hv : v.length < 268435456) : value rs name (str v ++ r) = .ok (name, v) r := by
  unfold value
  rw [hback v r hv]
  simp only [List.drop_left]
theorem texts_back (fs : List (List UInt8 × List UInt8)) (w : Nat) (hw : w ≠ 0) (f : List UInt8 × List UInt8) (h1 : f.1.length < 268435456) (h2 : f.2.length < 268435456) (r : List UInt8) :
    field rs fs w (Tb.find fs f).1 (texts str (Tb.find fs f).1 f ++ r) = .ok f r := by
  unfold field texts
  rw [if_neg hw]
  by_cases hk : (Tb.find fs f).1 = 0
  · rw [if_pos hk, if_pos hk, List.append_assoc, hback f.1 _ h1]
    simp only [List.drop_left]
    exact value_back rs str hback f.1 f.2 r h2
  · rw [if_neg hk, if_neg hk, List.nil_append]
    have hname : ∃ v2, Tb.at? fs ((Tb.find fs f).1 : Int) = some (f.1, v2) := by
      cases hwh : (Tb.find fs f).2 with
      | true =>
        obtain ⟨_, h⟩ := Tb.find_whole fs f (Tb.find fs f).1 (by rw [← hwh])
        exact ⟨f.2, h⟩
      | false =>
        rcases Tb.find_named fs f (Tb.find fs f).1 (by rw [← hwh]) with h | ⟨_, v2, h, _⟩
        · exact absurd h hk
        · exact ⟨v2, h⟩
    obtain ⟨v2, hat⟩ := hname
    rw [hat]
    exact value_back rs str hback f.1 f.2 r h2

/-- A field that is written is read. -/
theorem step_one (lim room : Nat) (fs : List (List UInt8 × List UInt8)) (out : List (List UInt8 × List UInt8)) (f : List UInt8 × List UInt8) (hr : room ≤ lim) (hl : fs.length ≤ 65536) (h1 : f.1.length < 268435456) (h2 : f.2.length < 268435456) (t : List UInt8) :
    ∃ x l, (one str room fs f).1 ++ t = x :: l ∧ step rs lim ⟨room, fs, out⟩ x l = .go ⟨room, (one str room fs f).2, out ++ [f]⟩ t := by
  have hk : (Tb.find fs f).1 ≤ 2147483647 := by have := find_le fs f; omega
  have hlt : ¬ lim < room := by omega
  unfold one
  by_cases c1 : never f.1 = true
  · rw [if_pos c1]
    obtain ⟨x, l, e, hs⟩ := step_num rs lim ⟨room, fs, out⟩ 16 4 (by simp) _ hk 3 rfl (texts str (Tb.find fs f).1 f ++ t)
    refine ⟨x, l, by rw [← e, List.append_assoc], ?_⟩
    rw [hs, if_neg (by decide), if_neg hlt, texts_back rs str hback fs 3 (by decide) f h1 h2 t]
    rfl
  · rw [if_neg c1]
    by_cases c2 : (Tb.find fs f).2 = true
    · rw [if_pos c2]
      obtain ⟨x, l, e, hs⟩ := step_num rs lim ⟨room, fs, out⟩ 128 7 (by simp) _ hk 0 rfl t
      obtain ⟨_, hat⟩ := Tb.find_whole fs f (Tb.find fs f).1 (by rw [← c2])
      refine ⟨x, l, e, ?_⟩
      rw [hs, if_neg (by decide), if_neg hlt]
      unfold field
      rw [if_pos rfl, hat]
      rfl
    · rw [if_neg c2]
      by_cases c3 : nots f.1 = true ∨ room < Tb.wt f
      · rw [if_pos c3]
        obtain ⟨x, l, e, hs⟩ := step_num rs lim ⟨room, fs, out⟩ 0 4 (by simp) _ hk 3 rfl (texts str (Tb.find fs f).1 f ++ t)
        refine ⟨x, l, by rw [← e, List.append_assoc], ?_⟩
        rw [hs, if_neg (by decide), if_neg hlt, texts_back rs str hback fs 3 (by decide) f h1 h2 t]
        rfl
      · rw [if_neg c3]
        obtain ⟨x, l, e, hs⟩ := step_num rs lim ⟨room, fs, out⟩ 64 6 (by simp) _ hk 1 rfl (texts str (Tb.find fs f).1 f ++ t)
        refine ⟨x, l, by rw [← e, List.append_assoc], ?_⟩
        rw [hs, if_neg (by decide), if_neg hlt, texts_back rs str hback fs 1 (by decide) f h1 h2 t]
        rfl

omit hback in
theorem one_size (room : Nat) (fs : List (List UInt8 × List UInt8)) (f : List UInt8 × List UInt8) (hs : Tb.size fs ≤ room) : Tb.size (one str room fs f).2 ≤ room := by
  unfold one
  split
  · exact hs
  · split
    · exact hs
    · split
      · exact hs
      · exact Tb.add_size _ _ _
omit hback in
theorem many_size (room : Nat) (l : List (List UInt8 × List UInt8)) : ∀ fs, Tb.size fs ≤ room → Tb.size (many str room fs l).2 ≤ room := by
  induction l with
  | nil => intro fs h; exact h
  | cons f r ih => intro fs h; exact ih _ (one_size str room fs f h)

/-- Fields that are written are read, one behind the other. -/
theorem run_many (lim room : Nat) (hr : room ≤ lim) (hr2 : room ≤ 65536) (l : List (List UInt8 × List UInt8)) : ∀ (fs out : List (List UInt8 × List UInt8)) (m : Nat), Tb.size fs ≤ room → (∀ f ∈ l, f.1.length < 268435456 ∧ f.2.length < 268435456) → (many str room fs l).1.length ≤ m →
    run rs lim m ⟨room, fs, out⟩ (many str room fs l).1 = (0, ⟨room, (many str room fs l).2, out ++ l⟩) := by
  induction l with
  | nil =>
    intro fs out m _ _ _
    simp only [many, List.append_nil]
    cases m <;> rfl
  | cons f r ih =>
    intro fs out m hs hb hm
    have hl : fs.length ≤ 65536 := by have := Tb.size_len fs; omega
    obtain ⟨x, t, e, hst⟩ := step_one rs str hback lim room fs out f hr hl (hb f (by simp)).1 (hb f (by simp)).2 (many str room (one str room fs f).2 r).1
    have hlen : (x :: t).length ≤ m := by rw [← e]; exact hm
    simp only [many]
    rw [e]
    cases m with
    | zero => simp at hlen
    | succ m =>
      simp only [run, hst]
      have hlen2 : (many str room (one str room fs f).2 r).1.length ≤ m := by
        have h1 : ((one str room fs f).1 ++ (many str room (one str room fs f).2 r).1).length = (x :: t).length := by rw [e]
        have h2 : 1 ≤ (one str room fs f).1.length := by
          unfold one
          have hk : (Tb.find fs f).1 ≤ 2147483647 := by have := find_le fs f; omega
          split
          · have := (Pm.num_length 16 4 _ hk).1; simp; omega
          · split
            · exact (Pm.num_length 128 7 _ hk).1
            · split
              · have := (Pm.num_length 0 4 _ hk).1; simp; omega
              · have := (Pm.num_length 64 6 _ hk).1; simp; omega
        rw [List.length_append] at h1
        rw [List.length_cons] at h1 hlen
        omega
      rw [ih (one str room fs f).2 (out ++ [f]) m (one_size str room fs f hs) (fun g hg => hb g (by simp [hg])) hlen2, List.append_assoc]
      rfl

omit hback in
/-- An update that is written is carried out. -/
theorem run_update (lim n : Nat) (hn : n ≤ lim) (hn2 : n ≤ 65536) (room : Nat) (fs : List (List UInt8 × List UInt8)) (t : List UInt8) (m : Nat) (hm : (Pm.num 32 5 n ++ t).length ≤ m) :
    ∃ m', t.length ≤ m' ∧ run rs lim m ⟨room, fs, []⟩ (Pm.num 32 5 n ++ t) = run rs lim m' ⟨n, Tb.shr n fs, []⟩ t := by
  obtain ⟨x, l, e, hs⟩ := step_num rs lim ⟨room, fs, []⟩ 32 5 (by simp) n (by omega) 2 rfl t
  rw [if_pos rfl, if_neg (by simp; omega)] at hs
  have h1 := (Pm.num_length 32 5 n (by omega)).1
  rw [List.length_append] at hm
  cases m with
  | zero => omega
  | succ m =>
    refine ⟨m, by omega, ?_⟩
    rw [e]
    simp only [run, hs]

/-- A block that is written is read: the fields, and both tables are the same. was, least: as the encoder has them; the decoder's table is as the encoder's was. -/
theorem read_block (lim was now : Nat) (fs : List (List UInt8 × List UInt8)) (l : List (List UInt8 × List UInt8)) (hw : was ≤ 65536) (hlim : lim ≤ 65536) (hnow : now ≤ lim) (hs : Tb.size fs ≤ was) (hb : ∀ f ∈ l, f.1.length < 268435456 ∧ f.2.length < 268435456) :
    read rs lim ⟨was, fs, []⟩ (head was (min was now) now ++ (many str now (Tb.shr now fs) l).1) = (0, ⟨now, (many str now (Tb.shr now fs) l).2, l⟩) := by
  have hsz := Tb.shr_size fs now
  unfold read head
  by_cases c1 : was < now
  · rw [Nat.min_eq_left (by omega), if_pos c1, List.append_assoc]
    obtain ⟨m1, h1, e1⟩ := run_update rs lim was (by omega) (by omega) was fs (Pm.num 32 5 now ++ (many str now (Tb.shr now fs) l).1) _ (Nat.le_refl _)
    rw [e1]
    obtain ⟨m2, h2, e2⟩ := run_update rs lim now (by omega) (by omega) was (Tb.shr was fs) ((many str now (Tb.shr now fs) l).1) m1 h1
    rw [e2, Tb.shr_all fs was hs]
    exact run_many rs str hback lim now hnow (by omega) l (Tb.shr now fs) [] m2 hsz hb h2
  · rw [Nat.min_eq_right (by omega), if_neg (by omega)]
    by_cases c2 : now ≠ was
    · rw [if_pos c2]
      obtain ⟨m1, h1, e1⟩ := run_update rs lim now (by omega) (by omega) was fs ((many str now (Tb.shr now fs) l).1) _ (Nat.le_refl _)
      rw [e1]
      exact run_many rs str hback lim now hnow (by omega) l (Tb.shr now fs) [] m1 hsz hb h1
    · have e : now = was := by omega
      subst e
      rw [if_neg (by simp), List.nil_append]
      have hfs : Tb.shr now fs = fs := Tb.shr_all fs now hs
      rw [hfs] at *
      exact run_many rs str hback lim now hnow (by omega) l fs [] _ hs hb (Nat.le_refl _)
end

end Hp
end Go.Proofs.Ytmkkhfkfjmfdcaa
