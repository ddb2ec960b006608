/-
  It does not matter in what pieces bytes come: what is of no program.
-/
import Derived.Test.YtbpdhcfmdkmoiaaGreatDoorPnAD
namespace Go.Proofs.YtbpdhcfmdkmoiaaGreatDoor
namespace Hr

def pcOf : Ev → Pc
  | .inl b => bodyP (ba [b])
  | .inr p => p
def addE (out : List Pc) (e : Ev) : List Pc := addP out (pcOf e)
/-- The pieces that are told, bodies put together. -/
def put (out : List Pc) (es : List Ev) : List Pc := es.foldl addE out
theorem put_app (out : List Pc) (a b : List Ev) : put out (a ++ b) = put (put out a) b := by unfold put; rw [List.foldl_append]
def grow (q : Pc) (x : ByteArray) : Pc := { q with bd := q.bd ++ x }
theorem addP_last (a : List Pc) (q p : Pc) : addP (a ++ [q]) p = if p.mark == 2 && q.mark == 2 then a ++ [grow q p.bd] else a ++ [q] ++ [p] := by
  unfold addP grow
  have h1 : (a ++ [q]).getLast? = some q := by simp
  have h2 : (a ++ [q]).dropLast = a := by simp
  simp only [h1, h2]
theorem addP_nil (p : Pc) : addP [] p = [p] := rfl
theorem ba_cons (x : ByteArray) (a : UInt8) (r : T8) : x ++ ba [a] ++ ba r = x ++ ba (a :: r) := by
  rw [ByteArray.append_assoc]
  congr 1
theorem put_bytes : ∀ (r : T8) (a : List Pc) (q : Pc), q.mark = 2 → put (a ++ [q]) (r.map .inl) = a ++ [grow q (ba r)]
  | [], a, q, _ => by
    show a ++ [q] = a ++ [grow q (ba [])]
    unfold grow ba
    have : q.bd ++ (⟨#[]⟩ : ByteArray) = q.bd := by apply ByteArray.ext; simp
    rw [show (⟨([] : T8).toArray⟩ : ByteArray) = ⟨#[]⟩ from rfl, this]
  | b :: r, a, q, hq => by
    rw [List.map_cons, show put (a ++ [q]) ((Sum.inl b : Ev) :: r.map .inl) = put (addE (a ++ [q]) (.inl b)) (r.map .inl) from rfl]
    unfold addE pcOf
    rw [addP_last, hq]
    simp only [bodyP, beq_self_eq_true, Bool.and_self, if_true]
    rw [put_bytes r a _ (by unfold grow; exact hq)]
    unfold grow
    simp only
    rw [ba_cons]
theorem put_body (out : List Pc) (x : ByteArray) (h : 0 < x.size) : put out (x.data.toList.map .inl) = addP out (bodyP x) := by
  obtain ⟨l, hl⟩ : ∃ l, x = ba l := ⟨x.data.toList, (Lib.mk_data x).symm⟩
  subst hl
  cases l with
  | nil => exact absurd h (by decide)
  | cons b r =>
    show put out ((b :: r).map .inl) = _
    rw [List.map_cons, show put out ((Sum.inl b : Ev) :: r.map .inl) = put (addE out (.inl b)) (r.map .inl) from rfl]
    unfold addE pcOf
    rcases List.eq_nil_or_concat out with rfl | ⟨a, q, rfl⟩
    · rw [addP_nil, addP_nil]
      have := put_bytes r [] (bodyP (ba [b])) rfl
      rw [List.nil_append] at this
      rw [this]
      unfold grow bodyP
      simp only [List.nil_append]
      congr 2
    · rw [List.concat_eq_append, addP_last, addP_last]
      cases hq : (q.mark == 2) with
      | true =>
        simp only [bodyP, beq_self_eq_true, Bool.and_self, if_true]
        rw [put_bytes r a _ (by unfold grow; simpa using hq)]
        unfold grow
        simp only
        rw [ba_cons]
      | false =>
        simp only [Bool.and_false, Bool.false_eq_true, if_false]
        rw [put_bytes r (a ++ [q]) _ rfl]
        unfold grow bodyP
        simp only
        congr 2
def stat (s : St) : Int := if isDead s then s.st else 0
def ev1 (s : St) (d : T8) : List Ev × St := ((finE s).1 ++ (evs (finE s).2 d).1, (evs (finE s).2 d).2)
theorem finE_good {s : St} (h : Good s) : finE s = ([], s) := by unfold finE; rw [h.fin]; rfl
theorem ev1_good {s : St} (h : Good s) (d : T8) : ev1 s d = evs s d := by unfold ev1; rw [finE_good h]; rfl
/-- Calls up to where nothing more is read tell just what the bytes tell. -/
theorem told_put : ∀ (k : Nat) (s : St) (d : T8) (out : List Pc), (isFin s = true ∨ Good s) → isDead s = false → 2 * d.length + 1 + (if isFin s then 1 else 0) ≤ k →
    told k s d out = (put out (ev1 s d).1, stat (ev1 s d).2, true, (ev1 s d).2) ∧ (isDead (ev1 s d).2 = false → Good (ev1 s d).2) ∧ (isDead (ev1 s d).2 = true → stat (ev1 s d).2 ≠ 0)
  | 0, _, _, _, _, _, h => absurd h (by omega)
  | k + 1, s, d, out, hg, hd, hk => by
    by_cases hf : isFin s = true
    · have hr : read s d = (0, allP [], fresh s) := by
        rw [read_feed]
        have hl : lone s = true := by unfold isFin at hf; unfold lone; rcases hm : s.md with ((_ | _) | (_ | _ | _ | _ | _ | _ | _ | _)) <;> rw [hm] at hf <;> simp at hf <;> simp
        rw [feed_lone hl]
        unfold isFin at hf
        unfold nx
        rcases hm : s.md with ((_ | _) | (_ | _ | _ | _ | _ | _ | _ | _)) <;> rw [hm] at hf <;> simp at hf <;> simp
      have he : ev1 s d = (.inr (allP []) :: (evs (fresh s) d).1, (evs (fresh s) d).2) := by unfold ev1 finE; rw [hf]; rfl
      have ih := told_put k (fresh s) d (addP out (allP [])) (.inr (Good.fresh s)) rfl (by rw [hf] at hk; simp only [if_true] at hk; rw [show isFin (fresh s) = false from rfl]; simp only [Bool.false_eq_true, if_false]; omega)
      have e1 : told (k + 1) s d out = told k (fresh s) d (addP out (allP [])) := by
        rw [told, hr]
        rfl
      rw [e1, he]
      rw [ev1_good (Good.fresh s)] at ih
      exact ih
    · have hf' : isFin s = false := by simpa using hf
      have hg' : Good s := hg.resolve_left hf
      rw [ev1_good hg']
      have T := told_feed d s hg' hd
      rw [← read_feed] at T
      obtain ⟨n, p, s', hr⟩ : ∃ n p s', read s d = (n, p, s') := ⟨_, _, _, rfl⟩
      rw [hr] at T
      rw [told, hr]
      simp only at T ⊢
      cases h0 : (p.mark == 0) with
      | true =>
        obtain ⟨t1, t2, t3, t4⟩ := T.nil (by simpa using h0)
        simp only [if_true]
        rw [t2]
        simp only
        refine ⟨?_, ⟨fun _ => t3, fun h => (by rw [t4] at h; cases h)⟩⟩
        rw [t1, List.drop_length]
        simp [put, stat, t4]
      | false =>
        have hn0 : p.mark ≠ 0 := by simpa using h0
        simp only [Bool.false_eq_true, if_false]
        cases h4 : (p.mark == 4) with
        | true =>
          obtain ⟨t1, t2, t3, t4⟩ := T.bad (by simpa using h4)
          simp only [if_true]
          rw [t1]
          simp only
          refine ⟨?_, ⟨fun h => (by rw [t2] at h; cases h), fun _ => (by unfold stat; rw [t2, if_pos rfl, t3]; exact t4)⟩⟩
          simp [put, stat, t2, t3]
        | false =>
          have hn4 : p.mark ≠ 4 := by simpa using h4
          simp only [Bool.false_eq_true, if_false]
          have hle := T.le
          have hsp : evs s d = ((evs s (d.take n)).1 ++ (evs (evs s (d.take n)).2 (d.drop n)).1, (evs (evs s (d.take n)).2 (d.drop n)).2) := by
            rw [← evs_app, List.take_append_drop]
          by_cases h2 : p.mark = 2
          · obtain ⟨t1, t2, t3, t4, t5, t6⟩ := T.body h2
            have ih := told_put k s' (d.drop n) (addP out p) t4 t5 (by
              rw [List.length_drop]
              rw [hf'] at hk
              simp only [Bool.false_eq_true, if_false] at hk
              split <;> omega)
            rw [hsp, t3]
            simp only
            unfold ev1 at ih
            rw [show put out (p.bd.data.toList.map .inl ++ (finE s').1 ++ (evs (finE s').2 (d.drop n)).1) = put (addP out p) ((finE s').1 ++ (evs (finE s').2 (d.drop n)).1) by
              rw [List.append_assoc, put_app, put_body out p.bd t2, ← t6]]
            exact ih
          · obtain ⟨t1, t2, t3, t4⟩ := T.pc hn0 hn4 h2
            have ih := told_put k s' (d.drop n) (addP out p) (.inr t3) t4 (by
              rw [List.length_drop, t3.fin]
              rw [hf'] at hk
              simp only [Bool.false_eq_true, if_false] at hk ⊢
              omega)
            rw [ev1_good t3] at ih
            rw [hsp, t2]
            simp only
            rw [put_app]
            exact ih

/-- Two rows of pieces, a body at the seam put together. -/
def joinP (a b : List Pc) : List Pc := match b with | [] => a | p :: r => addP a p ++ r
theorem addP_app (l r : List Pc) (x : Pc) (h : r ≠ []) : addP (l ++ r) x = l ++ addP r x := by
  rcases List.eq_nil_or_concat r with rfl | ⟨a, q, rfl⟩
  · exact absurd rfl h
  · rw [List.concat_eq_append, ← List.append_assoc, addP_last, addP_last]
    split <;> simp
theorem join_put (a : List Pc) (es : List Ev) : put a es = joinP a (put [] es) := by
  suffices H : ∀ n (es : List Ev), es.length = n → put a es = joinP a (put [] es) from H _ es rfl
  intro n
  induction n with
  | zero => intro es h; rw [List.length_eq_zero_iff.1 h]; rfl
  | succ n ih =>
    intro es h
    rcases List.eq_nil_or_concat es with rfl | ⟨e, x, rfl⟩
    · simp at h
    · rw [List.concat_eq_append] at h ⊢
      rw [put_app, put_app, ih e (by simpa using h)]
      show addE (joinP a (put [] e)) x = joinP a (addE (put [] e) x)
      generalize put [] e = F
      unfold addE
      generalize pcOf x = y
      cases F with
      | nil => simp [joinP, addP_nil]
      | cons p r =>
        by_cases hr : r = []
        · subst hr
          have h1 : addP [p] y = if y.mark == 2 && p.mark == 2 then [grow p y.bd] else [p, y] := by
            have := addP_last [] p y
            simpa using this
          simp only [joinP, List.append_nil]
          rw [h1]
          cases hb : (y.mark == 2 && p.mark == 2) with
          | true =>
            simp only [if_true, List.append_nil]
            have hp : (p.mark == 2) = true := by revert hb; cases (p.mark == 2) <;> simp
            rcases List.eq_nil_or_concat a with rfl | ⟨a', q, rfl⟩
            · rw [addP_nil, addP_nil, h1, hb]; rfl
            · rw [List.concat_eq_append, addP_last, addP_last]
              have hgm : (grow p y.bd).mark = p.mark := rfl
              rw [hgm, hp]
              cases hq : (q.mark == 2) with
              | true =>
                simp only [Bool.and_self, if_true]
                rw [addP_last]
                have hy : (y.mark == 2) = true := by revert hb; cases (y.mark == 2) <;> simp
                rw [hy, show (grow q p.bd).mark = q.mark from rfl, hq]
                simp only [Bool.and_self, if_true]
                unfold grow
                simp only
                rw [ByteArray.append_assoc]
              | false =>
                simp only [Bool.and_false, Bool.false_eq_true, if_false]
                rw [addP_last, hb]
                simp
          | false =>
            simp only [Bool.false_eq_true, if_false]
            rcases List.eq_nil_or_concat a with rfl | ⟨a', q, rfl⟩
            · rw [addP_nil, h1, hb]
              simp
            · rw [List.concat_eq_append, addP_last]
              cases hq : (p.mark == 2 && q.mark == 2) with
              | true =>
                simp only [if_true]
                rw [addP_last, show (grow q p.bd).mark = q.mark from rfl]
                have hp : (p.mark == 2) = true := by revert hq; cases (p.mark == 2) <;> simp
                have hq2 : (q.mark == 2) = true := by revert hq; cases (q.mark == 2) <;> simp
                have hy : (y.mark == 2) = false := by rw [hp, Bool.and_true] at hb; exact hb
                rw [hy]
                simp
              | false =>
                simp only [Bool.false_eq_true, if_false]
                rw [addP_last, hb]
                simp
        · simp only [joinP]
          rw [addP_app _ _ _ hr]
          have := addP_app [p] r y hr
          rw [List.singleton_append] at this
          rw [this]
          rfl

end Hr

end Go.Proofs.YtbpdhcfmdkmoiaaGreatDoor
