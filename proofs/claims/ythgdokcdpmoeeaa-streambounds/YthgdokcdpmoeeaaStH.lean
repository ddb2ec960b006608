/-
  A book in memory: New, Last, Stop, find, passedBy, Phase: by their contracts.
-/
import Derived.Test.YthgdokcdpmoeeaaStG
namespace Go.Proofs.Ythgdokcdpmoeeaa
open Go.RowKit

/-- What lay below B is as it was, and what is no book, no entry, no int. -/
structure KF (B : Nat) (w w' : World) : Prop where
  bel : Below B w w'
  oth : ∀ (k : Nat) (cs : Array Value) (T : TypeId), w.heap[k]? = some (.cells cs T (0, 0)) → T ≠ 79 → T ≠ 81 → T ≠ 3 → w'.heap[k]? = w.heap[k]?
theorem KF.refl (B : Nat) (w : World) : KF B w w := ⟨Below.refl _ _, fun _ _ _ _ _ _ _ => rfl⟩
theorem KF.trans {B : Nat} {w w1 w2 : World} (h1 : KF B w w1) (h2 : KF B w1 w2) : KF B w w2 :=
  ⟨h1.bel.trans h2.bel, fun k cs T h a b c => (h2.oth k cs T ((h1.oth k cs T h a b c).trans h) a b c).trans (h1.oth k cs T h a b c)⟩
theorem KF.of_below {B : Nat} {w w' : World} (h : Below w.heap.size w w') (hB : B ≤ w.heap.size) : KF B w w' :=
  ⟨h.mono hB, fun k _ _ hk _ _ _ => h.block k (Array.getElem?_eq_some_iff.1 hk).1⟩
theorem KF.and {B : Nat} {w w1 w2 : World} (h1 : KF B w w1) (h2 : Below w1.heap.size w1 w2) (hB : B ≤ w1.heap.size) : KF B w w2 := h1.trans (KF.of_below h2 hB)
theorem KF.ar {B : Nat} {w w' : World} (h : KF B w w') {k : Nat} {cs : Array Value} {T : TypeId} (ha : Ar w k T cs) (h1 : T ≠ 79) (h2 : T ≠ 81) (h3 : T ≠ 3) : Ar w' k T cs := (h.oth k cs T ha h1 h2 h3).trans ha
theorem KF.of_grown {B : Nat} {w w' : World} {e : TypeId} {s n : Nat} {v : Value} {xs : List Value} (h : w.grownBy w' v.ownBlock) (ho : w.ownsRow B e s v n xs) (he : e = 81 ∨ e = 3) (hB : B ≤ w.heap.size) : KF B w w' := by
  refine ⟨Below.of_grown h (fun k hk => (own_ty ho k hk).1) hB, fun k cs T hk _ h2 h3 => h.block k (Array.getElem?_eq_some_iff.1 hk).1 (fun e' => ?_)⟩
  obtain ⟨_, cs', hcs⟩ := own_ty ho k e'.symm
  rw [hk] at hcs
  injection hcs with hcs
  injection hcs with _ hT _
  rcases he with rfl | rfl
  · exact h2 hT
  · exact h3 hT
theorem KF.of_upd {B b : Nat} {w w' : World} {cs0 : Array Value} (h : Upd b w w') (ha : Ar w b 79 cs0) (hB : B ≤ b) : KF B w w' :=
  ⟨h.below hB, fun k cs T hk h1 _ _ => h.block k (fun e => by
    subst e
    unfold Ar at ha
    rw [ha] at hk
    injection hk with hk
    injection hk with _ hT _
    exact h1 hT.symm)⟩

/-- A book in memory. -/
structure BK (w : World) (B b : Nat) (k : Sm.Bk) (v u : Value) : Prop where
  lo : B ≤ b
  hd : Ar w b 79 #[.int .i64 (k.most : Int), .int .i64 (k.last : Int), v, u, .bool k.st, .int .i64 (k.pa : Int)]
  op : w.ownsRow B 81 2 v k.op.length (enCells k.op)
  dr : w.ownsRow B 3 1 u k.dr.length (idCells k.dr)
  ok : Sm.Ok k
theorem BK.keep {w w' : World} {B b : Nat} {k : Sm.Bk} {v u : Value} (h : BK w B b k v u) (hb : Below w.heap.size w w') : BK w' B b k v u :=
  ⟨h.lo, h.hd.keep hb, own_keep h.op hb, own_keep h.dr hb, h.ok⟩
theorem BK.size {w : World} {B b : Nat} {k : Sm.Bk} {v u : Value} (h : BK w B b k v u) : B ≤ w.heap.size := Nat.le_of_lt (Nat.lt_of_le_of_lt h.lo h.hd.lt)
theorem BK.cells {w : World} {B b : Nat} {k : Sm.Bk} {v u : Value} (h : BK w B b k v u) :
    w.cell? ⟨b, 0, none⟩ = some (.int .i64 (k.most : Int)) ∧ w.cell? ⟨b, 1, none⟩ = some (.int .i64 (k.last : Int)) ∧ w.cell? ⟨b, 2, none⟩ = some v ∧ w.cell? ⟨b, 3, none⟩ = some u ∧ w.cell? ⟨b, 4, none⟩ = some (.bool k.st) ∧ w.cell? ⟨b, 5, none⟩ = some (.int .i64 (k.pa : Int)) :=
  ⟨h.hd.cell 0 _ rfl, h.hd.cell 1 _ rfl, h.hd.cell 2 _ rfl, h.hd.cell 3 _ rfl, h.hd.cell 4 _ rfl, h.hd.cell 5 _ rfl⟩
theorem BK.opn {w : World} {B b : Nat} {k : Sm.Bk} {v u : Value} (h : BK w B b k v u) : k.op.length ≤ 65536 := Nat.le_trans h.ok.len h.ok.m2
theorem BK.drn {w : World} {B b : Nat} {k : Sm.Bk} {v u : Value} (h : BK w B b k v u) : k.dr.length ≤ 65536 := Nat.le_trans h.ok.dln h.ok.m2
/-- A book whose head alone was written. -/
theorem BK.put {w w' : World} {B b : Nat} {k k' : Sm.Bk} {v u : Value} (h : BK w B b k v u) (hu : Upd b w w') (ha : Ar w' b 79 #[.int .i64 (k'.most : Int), .int .i64 (k'.last : Int), v, u, .bool k'.st, .int .i64 (k'.pa : Int)]) (h1 : k'.op = k.op) (h2 : k'.dr = k.dr) (hok : Sm.Ok k') : BK w' B b k' v u :=
  ⟨h.lo, ha, by rw [h1]; exact own_same h.op (fun j hj => hu.block j (own_apart h.op h.hd (by decide) j hj)), by rw [h2]; exact own_same h.dr (fun j hj => hu.block j (own_apart h.dr h.hd (by decide) j hj)), hok⟩

theorem snew_no (m : Int) (h : m < 1 ∨ 65536 < m) (w : World) : Calls Try.prog 15 #[.int .i64 m] w fun e w' => e = .returned (.tuple #[.pointer none, .int .i64 1]) ∧ w' = w := by
  by_cases h1 : m < 1
  · clear h
    go_enter Try.func15, Try.ntmps15
    go_wp2
    go_ret2
    exact ⟨rfl, rfl⟩
  · have h2 : 65536 < m := by omega
    clear h
    go_enter Try.func15, Try.ntmps15
    go_wp2
    go_ret2
    exact ⟨rfl, rfl⟩

theorem snew_yes (m : Nat) (h1 : 1 ≤ m) (h2 : m ≤ 65536) (w : World) : Calls Try.prog 15 #[.int .i64 (m : Int)] w fun e w' => (∃ b, e = .returned (.tuple #[.pointer (some ⟨b, 0, none⟩), .int .i64 0]) ∧ ∃ v u, BK w' w.heap.size b ⟨m, 0, [], [], false, 0⟩ v u) ∧ Below w.heap.size w w' := by
  have HOK := hid' (Sm.ok_new h1 h2)
  have h3 : ¬ ((m : Int) < 1) := by omega
  have h4 : ¬ ((65536 : Int) < (m : Int)) := by omega
  clear h1 h2
  go_enter Try.func15, Try.ntmps15
  go_wp2
  go_ret2
  exact ⟨⟨_, rfl, _, _, ⟨Nat.le_refl _, heap_alloc_last w _, World.ownsRow_nil _ _ _ _, World.ownsRow_nil _ _ _ _, HOK.out⟩⟩, (Below.refl _ _).alloc (Nat.le_refl _) _⟩

theorem slast_any (B b : Nat) (k : Sm.Bk) (v u : Value) (w : World) (h : BK w B b k v u) :
    Calls Try.prog 18 #[.pointer (some ⟨b, 0, none⟩)] w fun e w' => e = .returned (.int .i64 (k.last : Int)) ∧ w' = w := by
  have c1 := h.cells.2.1
  clear h
  go_enter Try.func18, Try.ntmps18
  go_wp2
  go_ret
  exact ⟨rfl, rfl⟩

theorem sstop_any (B b : Nat) (k : Sm.Bk) (v u : Value) (w : World) (h : BK w B b k v u) :
    Calls Try.prog 38 #[.pointer (some ⟨b, 0, none⟩)] w fun e w' => e = .returned (.tuple #[]) ∧ BK w' B b { k with st := true } v u ∧ KF B w w' := by
  have c4 := h.cells.2.2.2.2.1
  have f4 := h.hd.free 4
  have H := hid' h
  clear h
  go_enter Try.func38, Try.ntmps38
  go_wp2
  go_end0
  have hu := upd_setCell w b 4 (.bool true)
  have h := H.out
  exact ⟨rfl, h.put hu (h.hd.set 4 _) rfl rfl ⟨h.ok.m1, h.ok.m2, h.ok.srt, h.ok.ops, h.ok.len, h.ok.drs, h.ok.dnd, h.ok.dln, h.ok.l1, h.ok.l2, h.ok.pas⟩, KF.of_upd hu h.hd h.lo⟩

theorem sfind_any (B b : Nat) (k : Sm.Bk) (v u : Value) (n : Nat) (w : World) (h : BK w B b k v u) :
    Calls Try.prog 40 #[.pointer (some ⟨b, 0, none⟩), .int .i64 (n : Int)] w fun e w' => (∃ q : Pl, e = .returned (.tuple #[.int .i64 (q.i : Int), .bool q.b]) ∧ Fnd k.op n q.i q.b) ∧ Below w.heap.size w w' := by
  have c2 := h.cells.2.2.1
  have HC := hid' (ssearch_any v k.op n w (RR.of_own h.op) h.opn h.ok.srt)
  clear h
  go_enter Try.func40, Try.ntmps40
  go_wp2_with fail
  refine HC.out.mono ?_
  rintro e w1 ⟨⟨q, rfl, hq⟩, hb1⟩
  go_wp2
  go_ret2
  exact ⟨⟨q, rfl, hq⟩, hb1⟩

theorem spassedBy_any (B b : Nat) (k : Sm.Bk) (v u : Value) (n : Nat) (r : Bool) (hr : decide (k.last < n ∧ n ≤ k.pa) = r) (w : World) (h : BK w B b k v u) :
    Calls Try.prog 45 #[.pointer (some ⟨b, 0, none⟩), .int .i64 (n : Int)] w fun e w' => e = .returned (.bool r) ∧ w' = w := by
  have c1 := h.cells.2.1
  have c5 := h.cells.2.2.2.2.2
  obtain ⟨la, hla⟩ : ∃ la, k.last = la := ⟨_, rfl⟩
  obtain ⟨pa, hpa⟩ : ∃ pa, k.pa = pa := ⟨_, rfl⟩
  rw [hla] at c1 hr
  rw [hpa] at c5 hr
  have HR := hid' hr
  clear h hla hpa hr
  by_cases h1 : la < n
  · have h1i : (la : Int) < (n : Int) := by omega
    by_cases h2 : n ≤ pa
    · have h2i : (n : Int) ≤ (pa : Int) := by omega
      obtain rfl : true = r := by rw [← HR.out]; simp [h1, h2]
      go_enter Try.func45, Try.ntmps45
      go_wp2
      go_ret
      exact ⟨rfl, rfl⟩
    · have h2i : ¬ (n : Int) ≤ (pa : Int) := by omega
      obtain rfl : false = r := by rw [← HR.out]; simp [h2]
      go_enter Try.func45, Try.ntmps45
      go_wp2
      go_ret
      exact ⟨rfl, rfl⟩
  · have h1i : ¬ (la : Int) < (n : Int) := by omega
    obtain rfl : false = r := by rw [← HR.out]; simp [h1]
    go_enter Try.func45, Try.ntmps45
    go_wp2
    go_ret
    exact ⟨rfl, rfl⟩

end Go.Proofs.Ythgdokcdpmoeeaa
