/-
  Messages on lists: which request a header list is, and which a request line and fields are. What is of no program.
-/
import Derived.Test.YtbpdhcfmdkmoiabDoorMsPp
import Derived.Test.YtbpdhcfmdkmoiabDoorMsQ
namespace Go.Proofs.YtbpdhcfmdkmoiabDoor
namespace Ms

def e0 : ByteArray := ⟨#[]⟩
/-- A request's parts. -/
structure Rq where
  m : ByteArray
  s : ByteArray
  a : ByteArray
  p : ByteArray
  fs : List Fd
def rq0 : Rq := ⟨e0, e0, e0, e0, []⟩
def keepB (f : Fd) : Bool := !psd f.n && !(f.n.toList == [104, 111, 115, 116]) && !(f.n.toList == [116, 101])
def keep (l : List Fd) : List Fd := l.filter keepB
def gd (x : T8) (l : List Fd) : ByteArray := (fnd x l).getD e0
def auth (l : List Fd) : ByteArray := if (fnd sAuth l).isSome then gd sAuth l else gd sHost l
def lines (m s p : ByteArray) : Bool := Tx.isTok (tx m) && (s.toList == sHttp || s.toList == sHttps) && goes m p
def clash (l : List Fd) : Bool := (fnd sAuth l).isSome && (fnd sHost l).isSome && !((gd sAuth l).toList == (gd sHost l).toList)
/-- Why a header list is no request; nought: it is one. -/
def twoE (l : List Fd) : Int :=
  if walk [] false l == 0 then
    (if lines (gd sMethod l) (gd sScheme l) (gd sPath l) then (if clash l then 141 else if (lenGo none l).isNone then 142 else 0) else 140)
  else walk [] false l
def twoR (l : List Fd) : Rq := if twoE l == 0 then ⟨gd sMethod l, gd sScheme l, auth l, gd sPath l, keep l⟩ else rq0

theorem tl_tx (b : ByteArray) : b.toList = tx b := by rw [tx, Lib.toList_data]
theorem fnd_app (x : T8) : ∀ (l : List Fd) (f : Fd), fnd x (l ++ [f]) = (fnd x l).or (if f.n.toList == x then some f.v else none)
  | [], f => by
    rw [List.nil_append, fnd, tl_tx]
    rfl
  | a :: r, f => by
    rw [List.cons_append, fnd, fnd, fnd_app x r f]
    split <;> rfl
theorem lenGo_keep (cur : Option ByteArray) (l : List Fd) : lenGo cur (keep l) = lenGo cur l := by
  induction l generalizing cur with
  | nil => rfl
  | cons f r ih =>
    unfold keep at ih ⊢
    rw [List.filter_cons]
    cases hk : keepB f
    · have hn : (lo f.n == sLen) = false := by
        unfold keepB at hk
        apply beq_false_of_ne
        intro e
        cases h1 : psd f.n
        · rw [h1] at hk
          have h2 : f.n.toList = [104, 111, 115, 116] ∨ f.n.toList = [116, 101] := by
            cases h3 : (f.n.toList == [104, 111, 115, 116])
            · rw [h3] at hk
              simp at hk
              exact .inr hk
            · exact .inl (beq_iff_eq.1 h3)
          rw [tl_tx] at h2
          unfold tx at h2
          unfold lo at e
          rcases h2 with h2 | h2 <;> rw [h2] at e <;> exact absurd e (by decide)
        · unfold psd tx at h1
          unfold lo at e
          cases hq : f.n.data.toList with
          | nil => rw [hq] at h1; simp at h1
          | cons c t =>
            rw [hq] at h1 e
            simp at h1
            subst h1
            have := congrArg List.head? e
            simp [Tx.lower, sLen] at this
            exact absurd this (by decide)
      simp only [Bool.false_eq_true, if_false]
      rw [ih]
      cases cur <;> simp [lenGo, hn]
    · simp only [if_true]
      cases cur <;> simp only [lenGo, ih]
/-- Of a list that is gone through rightly each field that is no pseudo-field is plain. -/
theorem walk_plain : ∀ (l ahead : List Fd) (bh : Bool), walk ahead bh l = 0 → ∀ f ∈ l, psd f.n = false → plain f = true
  | [], _, _, _, f, hf, _ => by simp at hf
  | g :: r, ahead, bh, h, f, hf, hp => by
    rw [walk] at h
    rcases List.mem_cons.1 hf with rfl | hf
    · rw [hp] at h
      simp only [Bool.false_eq_true, if_false] at h
      split at h
      · exact absurd h (by decide)
      · rename_i hb
        unfold bad2 at hb
        cases hq : plain f
        · rw [hq] at hb; simp at hb
        · rfl
    · split at h
      · split at h
        · exact absurd h (by decide)
        · exact walk_plain r _ _ h f hf hp
      · split at h
        · exact absurd h (by decide)
        · exact walk_plain r _ _ h f hf hp
theorem walk_vals : ∀ (l ahead : List Fd) (bh : Bool), walk ahead bh l = 0 ∨ walk ahead bh l = 140 ∨ walk ahead bh l = 141
  | [], _, _ => .inl rfl
  | g :: r, ahead, bh => by
    rw [walk]
    split
    · split
      · exact .inr (.inl rfl)
      · exact walk_vals r _ _
    · split
      · exact .inr (.inr rfl)
      · exact walk_vals r _ _
theorem twoE_vals (l : List Fd) : twoE l = 0 ∨ twoE l = 140 ∨ twoE l = 141 ∨ twoE l = 142 := by
  unfold twoE
  split
  · split
    · split
      · simp
      · split <;> simp
    · simp
  · rcases walk_vals l [] false with h | h | h <;> rw [h] <;> simp
theorem twoE_walk {l : List Fd} (h : twoE l = 0) : walk [] false l = 0 := by
  unfold twoE at h
  split at h
  · rename_i h1; exact beq_iff_eq.1 h1
  · exact h
theorem twoE_lines {l : List Fd} (h : twoE l = 0) : lines (gd sMethod l) (gd sScheme l) (gd sPath l) = true := by
  unfold twoE at h
  split at h
  · split at h
    · rename_i h2; exact h2
    · exact absurd h (by decide)
  · rename_i h1
    exact absurd (beq_iff_eq.2 h) h1
theorem twoE_len {l : List Fd} (h : twoE l = 0) : (lenGo none l).isNone = false := by
  unfold twoE at h
  split at h
  · split at h
    · split at h
      · exact absurd h (by decide)
      · split at h
        · exact absurd h (by decide)
        · rename_i h3; cases hq : (lenGo none l).isNone with | false => rfl | true => exact absurd hq h3
    · exact absurd h (by decide)
  · rename_i h1
    exact absurd (beq_iff_eq.2 h) h1

def small (f : Fd) : Fd := ⟨⟨(lo f.n).toArray⟩, f.v⟩
def sound (f : Fd) : Bool := Tx.isTok (tx f.n) && Tx.isVal (tx f.v)
def isHost (f : Fd) : Bool := lo f.n == sHost
def hosts (l : List Fd) : List Fd := l.filter isHost
/-- The last host that is named. -/
def hostOf (l : List Fd) : ByteArray := ((hosts l).getLast?.map Fd.v).getD e0
/-- A text cut at its commas. -/
def pcs : T8 → T8 → List T8
  | cur, [] => [cur]
  | cur, c :: r => if c = 44 then cur :: pcs [] r else pcs (cur ++ [c]) r
def nm1 (f : Fd) : List T8 := (pcs [] (tx f.v)).map fun t => Tx.lower (Tx.trim t)
def nms (l : List Fd) : List T8 := (l.filter fun f => lo f.n == sConn).flatMap nm1
def passB (nm : List T8) (f : Fd) : Bool := !(lo f.n == sHost) && !(lo f.n == sTe) && !bnd f.n && (!nm.contains (lo f.n) || lo f.n == sLen)
def pass (l : List Fd) : List Fd := (l.filter (passB (nms l))).map small
/-- A target's scheme, authority and path, and whether it may be one. -/
def absT (m sch rest : ByteArray) : ByteArray × ByteArray × ByteArray × Bool :=
  (sch, rest.extract 0 (stop (tx rest)), head47 (rest.extract (stop (tx rest)) rest.size), decide (0 < stop (tx rest)) && goes m (head47 (rest.extract (stop (tx rest)) rest.size)))
def aim (m t host : ByteArray) : ByteArray × ByteArray × ByteArray × Bool :=
  if beg t bHttps3 then absT m bHttps (t.extract 8 t.size) else if beg t bHttp3 then absT m bHttp (t.extract 7 t.size) else (bHttp, host, t, goes m t)
def oneE (m t : ByteArray) (l : List Fd) : Int :=
  if Tx.isTok (tx m) then
    (if l.all sound && (hosts l).length == 1 then (if (aim m t (hostOf l)).2.2.2 then (if (lenGo none l).isNone then 142 else 0) else 140) else 141)
  else 140
def oneR (m t : ByteArray) (l : List Fd) : Rq := if oneE m t l == 0 then ⟨m, (aim m t (hostOf l)).1, (aim m t (hostOf l)).2.1, (aim m t (hostOf l)).2.2.1, pass l⟩ else rq0

/-! ### one request in both versions -/
def fM (m : ByteArray) : Fd := ⟨⟨sMethod.toArray⟩, m⟩
def fS : Fd := ⟨⟨sScheme.toArray⟩, bHttp⟩
def fP (p : ByteArray) : Fd := ⟨⟨sPath.toArray⟩, p⟩
def fA (a : ByteArray) : Fd := ⟨⟨sAuth.toArray⟩, a⟩
def fH (a : ByteArray) : Fd := ⟨⟨#[72, 79, 83, 84]⟩, a⟩
def asTwo (m p a : ByteArray) (X : List Fd) : List Fd := [fM m, fS, fP p, fA a] ++ X
def asOne (a : ByteArray) (X : List Fd) : List Fd := fH a :: X
theorem plain_parts {f : Fd} (h : plain f = true) : Tx.isTok (tx f.n) = true ∧ lo f.n = tx f.n ∧ Tx.isVal (tx f.v) = true ∧ bnd f.n = false := by
  unfold plain at h
  simp only [Bool.and_eq_true, Bool.not_eq_true', beq_iff_eq] at h
  exact ⟨h.1.1.1, h.1.1.2, h.1.2, h.2⟩
theorem walk_nops : ∀ (X ahead : List Fd) (bh : Bool), (∀ x ∈ pss, (fnd x ahead).isSome = true) → walk ahead bh X = 0 → ∀ f ∈ X, psd f.n = false
  | [], _, _, _, _, f, hf => by simp at hf
  | g :: r, ahead, bh, ha, h, f, hf => by
    have hs : ∀ x ∈ pss, (fnd x (ahead ++ [g])).isSome = true := fun x hx => by
      rw [fnd_app]
      have := ha x hx
      cases hq : fnd x ahead with
      | none => rw [hq] at this; simp at this
      | some v => rfl
    rw [walk] at h
    cases hp : psd g.n
    · rw [hp] at h
      simp only [Bool.false_eq_true, if_false] at h
      split at h
      · exact absurd h (by decide)
      · rcases List.mem_cons.1 hf with rfl | hf
        · exact hp
        · exact walk_nops r _ _ hs h f hf
    · rw [hp] at h
      simp only [if_true] at h
      split at h
      · exact absurd h (by decide)
      · rename_i hb
        exfalso
        apply hb
        unfold bad1
        cases hc : pss.contains g.n.toList
        · simp
        · have := ha _ (List.contains_iff_mem.1 hc)
          rw [this]; simp
theorem walk_four (m p a : ByteArray) (X : List Fd) : walk [] false (asTwo m p a X) = walk [fM m, fS, fP p, fA a] false X := by
  unfold asTwo
  have k1 : psd (fM m).n = true := rfl
  have k2 : psd fS.n = true := by decide
  have k3 : psd (fP p).n = true := rfl
  have k4 : psd (fA a).n = true := rfl
  have t1 : (fM m).n.toList = sMethod := by rw [tl_tx]; rfl
  have t2 : fS.n.toList = sScheme := by rw [tl_tx]; rfl
  have t3 : (fP p).n.toList = sPath := by rw [tl_tx]; rfl
  have t4 : (fA a).n.toList = sAuth := by rw [tl_tx]; rfl
  have x1 : tx (fM m).n = sMethod := rfl
  have x2 : tx fS.n = sScheme := rfl
  have x3 : tx (fP p).n = sPath := rfl
  have b1 : bad1 [] false (fM m) = false := by unfold bad1; rw [t1]; decide
  have b2 : bad1 [fM m] false fS = false := by unfold bad1; rw [t2]; simp only [fnd, x1]; rfl
  have b3 : bad1 [fM m, fS] false (fP p) = false := by unfold bad1; rw [t3]; simp only [fnd, x1, x2]; rfl
  have b4 : bad1 [fM m, fS, fP p] false (fA a) = false := by unfold bad1; rw [t4]; simp only [fnd, x1, x2, x3]; rfl
  simp only [List.cons_append, List.nil_append, walk, k1, k2, k3, k4, b1, b2, b3, b4, if_true, Bool.false_eq_true, if_false]
theorem fnd_four (m p a : ByteArray) (X : List Fd) : fnd sMethod (asTwo m p a X) = some m ∧ fnd sScheme (asTwo m p a X) = some bHttp ∧ fnd sPath (asTwo m p a X) = some p ∧ fnd sAuth (asTwo m p a X) = some a := by
  have x1 : tx (fM m).n = sMethod := rfl
  have x2 : tx fS.n = sScheme := rfl
  have x3 : tx (fP p).n = sPath := rfl
  have x4 : tx (fA a).n = sAuth := rfl
  unfold asTwo
  simp only [List.cons_append, fnd, x1, x2, x3, x4]
  exact ⟨rfl, rfl, rfl, rfl⟩
theorem lenGo_two (m p a : ByteArray) (X : List Fd) : lenGo none (asTwo m p a X) = lenGo none X := by
  have x1 : lo (fM m).n = sMethod := rfl
  have x2 : lo fS.n = sScheme := rfl
  have x3 : lo (fP p).n = sPath := rfl
  have x4 : lo (fA a).n = sAuth := rfl
  unfold asTwo
  simp only [List.cons_append, List.nil_append, lenGo, x1, x2, x3, x4]
  rfl
theorem lenGo_one (a : ByteArray) (X : List Fd) : lenGo none (asOne a X) = lenGo none X := by
  have x1 : lo (fH a).n = sHost := rfl
  unfold asOne
  simp only [lenGo, x1]
  rfl
theorem beg_not {m t : ByteArray} (h : goes m t = true) : beg t bHttp3 = false ∧ beg t bHttps3 = false := by
  have key : ∀ (x : ByteArray), x.data.toList.head? = some 104 → 0 < x.size → beg t x = false := by
    intro x hx hpos
    unfold beg
    by_cases hs : x.size ≤ t.size
    · rw [decide_eq_true hs, Bool.true_and]
      apply beq_false_of_ne
      intro e
      have e1 : (t.extract 0 x.size).data.toList = x.data.toList := by rw [← Lib.toList_data, ← Lib.toList_data]; exact e
      have e2 : (t.extract 0 x.size).data.toList.head? = some 104 := by rw [e1]; exact hx
      have e3 : t.data.toList.head? = some 104 := by
        rw [ByteArray.data_extract, Array.toList_extract, List.extract_eq_take_drop, List.drop_zero, List.head?_take] at e2
        split at e2
        · exact absurd e2 (by simp)
        · exact e2
      unfold goes at h
      split at h
      · rename_i h4
        have := beq_iff_eq.1 h4
        unfold tx at this
        rw [this] at e3
        exact absurd e3 (by decide)
      · rw [Bool.and_eq_true] at h
        have := beq_iff_eq.1 h.1
        unfold tx at this
        rw [this] at e3
        exact absurd e3 (by decide)
    · rw [decide_eq_false hs]; rfl
  exact ⟨key _ rfl (by decide), key _ rfl (by decide)⟩
theorem small_same {f : Fd} (h : lo f.n = tx f.n) : small f = f := by
  unfold small
  rw [h, tx]
theorem meets (m p a : ByteArray) (X : List Fd) (hX : ∀ f ∈ X, (f.n.toList == [104, 111, 115, 116]) = false ∧ (f.n.toList == [116, 101]) = false) (h : twoE (asTwo m p a X) = 0) :
    (Tx.isVal (tx a) = false → oneE m p (asOne a X) = 141) ∧ (Tx.isVal (tx a) = true → oneE m p (asOne a X) = 0 ∧ oneR m p (asOne a X) = twoR (asTwo m p a X)) := by
  have hw := twoE_walk h
  rw [walk_four] at hw
  have hps := walk_nops X _ _ (by
    intro x hx
    have x1 : tx (fM m).n = sMethod := rfl
    have x2 : tx fS.n = sScheme := rfl
    have x3 : tx (fP p).n = sPath := rfl
    have x4 : tx (fA a).n = sAuth := rfl
    simp only [pss, List.mem_cons, List.not_mem_nil, or_false] at hx
    rcases hx with rfl | rfl | rfl | rfl <;> simp only [fnd, x1, x2, x3, x4] <;> rfl) hw
  have hpl := fun f hf => plain_parts (walk_plain X _ _ hw f hf (hps f hf))
  have hln := twoE_lines h
  have hlen := twoE_len h
  rw [lenGo_two] at hlen
  obtain ⟨f1, f2, f3, f4⟩ := fnd_four m p a X
  have g1 : gd sMethod (asTwo m p a X) = m := by unfold gd; rw [f1]; rfl
  have g2 : gd sScheme (asTwo m p a X) = bHttp := by unfold gd; rw [f2]; rfl
  have g3 : gd sPath (asTwo m p a X) = p := by unfold gd; rw [f3]; rfl
  have g4 : auth (asTwo m p a X) = a := by unfold auth gd; rw [f4]; rfl
  rw [g1, g2, g3] at hln
  unfold lines at hln
  simp only [Bool.and_eq_true] at hln
  obtain ⟨⟨htok, _⟩, hgo⟩ := hln
  have hlo : ∀ f ∈ X, isHost f = false := fun f hf => by
    unfold isHost
    rw [(hpl f hf).2.1, ← tl_tx]
    exact (hX f hf).1
  have hho : hosts (asOne a X) = [fH a] := by
    unfold hosts asOne
    rw [List.filter_cons, show isHost (fH a) = true by unfold isHost; rfl, if_pos rfl]
    congr 1
    rw [List.filter_eq_nil_iff]
    intro f hf
    rw [hlo f hf]
    simp
  have hsX : X.all sound = true := List.all_eq_true.2 (fun f hf => by unfold sound; rw [(hpl f hf).1, (hpl f hf).2.2.1]; rfl)
  have hsH : sound (fH a) = Tx.isVal (tx a) := by
    unfold sound
    rw [show Tx.isTok (tx (fH a).n) = true from rfl, Bool.true_and]
    rfl
  have hall : (asOne a X).all sound = Tx.isVal (tx a) := by
    unfold asOne
    rw [List.all_cons, hsX, hsH, Bool.and_true]
  have hhost : hostOf (asOne a X) = a := by unfold hostOf; rw [hho]; rfl
  obtain ⟨nb1, nb2⟩ := beg_not hgo
  have haim : aim m p a = (bHttp, a, p, true) := by
    unfold aim
    rw [nb1, nb2, hgo]
    rfl
  have hE : oneE m p (asOne a X) = if Tx.isVal (tx a) then 0 else 141 := by
    unfold oneE
    rw [htok, hall, hho, hhost, haim, lenGo_one, hlen]
    cases Tx.isVal (tx a) <;> rfl
  refine ⟨fun hv => by rw [hE, hv]; rfl, fun hv => ⟨by rw [hE, hv]; rfl, ?_⟩⟩
  have hnm : nms (asOne a X) = [] := by
    unfold nms
    have : (asOne a X).filter (fun f => lo f.n == sConn) = [] := by
      rw [List.filter_eq_nil_iff]
      intro f hf
      unfold asOne at hf
      rcases List.mem_cons.1 hf with rfl | hf
      · exact fun e => absurd (show (lo (fH a).n == sConn) = false from rfl) (by rw [e]; decide)
      · intro e
        have := (hpl f hf).2.2.2
        unfold bnd at this
        rw [beq_iff_eq.1 e] at this
        exact absurd this (by decide)
    rw [this]
    rfl
  have hps2 : pass (asOne a X) = X := by
    unfold pass
    rw [hnm]
    unfold asOne
    rw [List.filter_cons, show passB [] (fH a) = false from rfl]
    simp only [Bool.false_eq_true, if_false]
    have h1 : X.filter (passB []) = X := by
      rw [List.filter_eq_self]
      intro f hf
      unfold passB
      have q := hpl f hf
      rw [q.2.1, ← tl_tx, q.2.2.2]
      have h5 := (hX f hf).1
      have h6 := (hX f hf).2
      unfold sHost sTe
      rw [h5, h6]
      rfl
    rw [h1]
    conv => rhs; rw [← List.map_id X]
    exact List.map_congr_left (fun f hf => small_same (hpl f hf).2.1)
  have hkp : keep (asTwo m p a X) = X := by
    unfold keep asTwo
    have k1 : keepB (fM m) = false := by unfold keepB; rw [show psd (fM m).n = true from rfl]; rfl
    have k2 : keepB fS = false := by unfold keepB; rw [show psd fS.n = true by decide]; rfl
    have k3 : keepB (fP p) = false := by unfold keepB; rw [show psd (fP p).n = true from rfl]; rfl
    have k4 : keepB (fA a) = false := by unfold keepB; rw [show psd (fA a).n = true from rfl]; rfl
    simp only [List.cons_append, List.nil_append, List.filter_cons, k1, k2, k3, k4, Bool.false_eq_true, if_false]
    rw [List.filter_eq_self]
    intro f hf
    unfold keepB
    rw [hps f hf, (hX f hf).1, (hX f hf).2]
    rfl
  have hE0 : oneE m p (asOne a X) = 0 := by rw [hE, hv]; rfl
  unfold oneR twoR
  rw [hE0, h, hhost, haim, hps2, hkp, g1, g2, g3, g4]

end Ms
end Go.Proofs.YtbpdhcfmdkmoiabDoor
