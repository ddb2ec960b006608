/-
  Ends of a connection in memory: a frame of some blocks; the code's decoder and encoder.
  Package hpack: what needs no call of prim: split, tooMuch, any, refuse, isSecret, isPassing: by their contracts.
-/
import Derived.Test.YtmkkhfkfjmfdcaaGreatTabKx
import Derived.Test.YtmkkhfkfjmfdcaaGreatHpPl
import Derived.Deep.RegionHeld3
namespace Go.Proofs.YtmkkhfkfjmfdcaaGreat
open Go.RowKit

/-- All blocks but these are as they were. -/
structure Fr (S : Nat → Prop) (w w' : World) : Prop where
  os : w'.os = w.os
  tape : w'.tape = w.tape
  output : w'.output = w.output
  size : w.heap.size ≤ w'.heap.size
  block : ∀ k, k < w.heap.size → ¬ S k → w'.heap[k]? = w.heap[k]?
theorem Fr.refl (S : Nat → Prop) (w : World) : Fr S w w := ⟨rfl, rfl, rfl, Nat.le_refl _, fun _ _ _ => rfl⟩
theorem Fr.of_below {S : Nat → Prop} {w w' : World} (h : Below w.heap.size w w') : Fr S w w' := ⟨h.os, h.tape, h.output, h.size, fun k hk _ => h.block k hk⟩
theorem Fr.of_two {S : Nat → Prop} {b : Nat} {row : Option Nat} {w w' : World} (h : Two b row w w') (h1 : S b) (h2 : ∀ k, row = some k → S k) : Fr S w w' :=
  ⟨h.os, h.tape, h.output, h.size, fun k hk hn => h.block k hk (fun e => hn (e ▸ h1)) (fun e => hn (h2 k e.symm))⟩
theorem Fr.of_set {S : Nat → Prop} (b i : Nat) (v : Value) (w : World) (h : S b) : Fr S w (w.setCell ⟨b, i, none⟩ v) := Fr.of_two (Two.of_set b i none v w) h (fun k hk => by cases hk)
theorem Fr.trans {S S' : Nat → Prop} {w w1 w2 : World} (h1 : Fr S w w1) (h2 : Fr S' w1 w2) (hr : ∀ k, S' k → S k ∨ w.heap.size ≤ k) : Fr S w w2 :=
  ⟨h2.os.trans h1.os, h2.tape.trans h1.tape, h2.output.trans h1.output, Nat.le_trans h1.size h2.size, fun k hk hn => (h2.block k (Nat.lt_of_lt_of_le hk h1.size) (fun e => by rcases hr k e with h | h; exact hn h; omega)).trans (h1.block k hk hn)⟩
theorem Fr.and {S : Nat → Prop} {w w1 w2 : World} (h1 : Fr S w w1) (h2 : Fr S w1 w2) : Fr S w w2 := h1.trans h2 fun _ h => .inl h
theorem Fr.mono {S S' : Nat → Prop} {w w' : World} (h : Fr S w w') (hs : ∀ k, S k → S' k) : Fr S' w w' := ⟨h.os, h.tape, h.output, h.size, fun k hk hn => h.block k hk (fun e => hn (hs k e))⟩
theorem Fr.drew {S : Nat → Prop} {w w' : World} (h : Fr S w w') : Fr S w w'.drew := ⟨h.os, h.tape, h.output, h.size, h.block⟩
theorem Fr.drewN {S : Nat → Prop} {w w' : World} (h : Fr S w w') (n : Nat) : Fr S w (w'.drewN n) := ⟨h.os, h.tape, h.output, h.size, h.block⟩
theorem Fr.below {S : Nat → Prop} {B : Nat} {w w' : World} (h : Fr S w w') (hs : ∀ k, S k → B ≤ k) (hB : B ≤ w.heap.size) : Below B w w' :=
  ⟨h.os, h.tape, h.output, h.size, fun k hk => h.block k (by omega) (fun e => by have := hs k e; omega)⟩
theorem Fr.ar {S : Nat → Prop} {c : Nat} {w w' : World} {T : TypeId} {cs : Array Value} (h : Fr S w w') (ha : Ar w c T cs) (hn : ¬ S c) : Ar w' c T cs := by
  have := ha.lt
  unfold Ar at *
  rw [h.block c this hn]; exact ha
theorem Fr.sl {S : Nat → Prop} {w w' : World} {B : Nat} {e : TypeId} {s : Nat} {v : Value} {n : Nat} {xs : List Value} (h : Fr S w w') (hs : Sl w B e s v n xs) (hn : ∀ k, v.ownBlock = some k → ¬ S k) : Sl w' B e s v n xs :=
  hs.same fun k hk => h.block k (hs.lt k hk).2 (hn k hk)
theorem Fr.rg {S : Nat → Prop} {w w' : World} {B b : Nat} {T e : TypeId} {s : Nat} {v : Value} {tl : List Value} {n : Nat} {xs : List Value} (h : Fr S w w') (hr : RG w B b T e s v tl n xs) (h1 : ¬ S b) (h2 : ∀ k, v.ownBlock = some k → ¬ S k) : RG w' B b T e s v tl n xs :=
  ⟨hr.ge, h.ar hr.obj h1, h.sl hr.row h2, hr.ne⟩
theorem Fr.ct {S : Nat → Prop} {w w' : World} {B b : Nat} {v : Value} {M : Nat} {fs : List (List UInt8 × List UInt8)} (h : Fr S w w') (hc : CT w B b v M fs) (h1 : ¬ S b) (h2 : ∀ k, v.ownBlock = some k → ¬ S k) : CT w' B b v M fs := ⟨h.rg hc.ring h1 h2⟩
theorem Ar.ne {w : World} {a b : Nat} {T T' : TypeId} {cs cs' : Array Value} (h : Ar w a T cs) (h' : Ar w b T' cs') (hne : T ≠ T') : a ≠ b := by
  rintro rfl
  unfold Ar at h h'
  rw [h] at h'
  injection h' with h'
  injection h' with _ h2 _
  exact hne h2
theorem Sl.nak {w : World} {B : Nat} {e T : TypeId} {s : Nat} {v : Value} {n : Nat} {xs : List Value} {b : Nat} {cs : Array Value} (h : Sl w B e s v n xs) (hb : Ar w b T cs) (hTe : T ≠ e) : ∀ k, v.ownBlock = some k → k ≠ b := fun k hk e' => h.ne hb hTe (by rw [hk, e'])

theorem Below.kc {w w' : World} (hb : Below w.heap.size w w') {p : Addr} {v : Value} (h : w.cell? p = some v) : w'.cell? p = some v := (hb.cell (World.block_lt_of_cell? w _ h)).trans h
theorem Below.kf {w w' : World} (hb : Below w.heap.size w w') {b i : Nat} {v : Value} {j : Nat} (h : w.cell? ⟨b, j, none⟩ = some v) (hf : w.frozen? ⟨b, i, none⟩ = false) : w'.frozen? ⟨b, i, none⟩ = false := by
  rw [World.frozen?_of_block (hb.block b (World.block_lt_of_cell? w _ h))]; exact hf

/-- The code's decoder, not refused: its table, what a list may weigh, its limit. -/
structure CD (w : World) (B d b : Nat) (v : Value) (list : Int) (lim M : Nat) (fs : List (List UInt8 × List UInt8)) : Prop where
  ge : B ≤ d
  obj : Ar w d 86 #[.pointer (some ⟨b, 0, none⟩), .int .i64 list, .int .i64 (lim : Int), .int .i64 0, .int .i64 0]
  tab : CT w B b v M fs
theorem CD.keep {w w' : World} {B d b : Nat} {v : Value} {list : Int} {lim M : Nat} {fs : List (List UInt8 × List UInt8)} (h : CD w B d b v list lim M fs) (hb : Below w.heap.size w w') : CD w' B d b v list lim M fs := ⟨h.ge, h.obj.keep hb, h.tab.keep hb⟩
theorem CD.fr {S : Nat → Prop} {w w' : World} {B d b : Nat} {v : Value} {list : Int} {lim M : Nat} {fs : List (List UInt8 × List UInt8)} (h : CD w B d b v list lim M fs) (hf : Fr S w w') (h0 : ¬ S d) (h1 : ¬ S b) (h2 : ∀ k, v.ownBlock = some k → ¬ S k) : CD w' B d b v list lim M fs := ⟨h.ge, hf.ar h.obj h0, hf.ct h.tab h1 h2⟩
theorem CD.db {w : World} {B d b : Nat} {v : Value} {list : Int} {lim M : Nat} {fs : List (List UInt8 × List UInt8)} (h : CD w B d b v list lim M fs) : d ≠ b := h.obj.ne h.tab.ring.obj (by decide)
theorem CD.dv {w : World} {B d b : Nat} {v : Value} {list : Int} {lim M : Nat} {fs : List (List UInt8 × List UInt8)} (h : CD w B d b v list lim M fs) : ∀ k, v.ownBlock = some k → k ≠ d := h.tab.ring.row.nak h.obj (by decide)
theorem CT.bv {w : World} {B b : Nat} {v : Value} {M : Nat} {fs : List (List UInt8 × List UInt8)} (h : CT w B b v M fs) : ∀ k, v.ownBlock = some k → k ≠ b := h.ring.row.nak h.ring.obj (by decide)
/-- Its table is changed. -/
theorem CD.put {w w' : World} {B d b : Nat} {v v' : Value} {list : Int} {lim M M' : Nat} {fs fs' : List (List UInt8 × List UInt8)} (h : CD w B d b v list lim M fs) (ht : Two b v.ownBlock w w') (hc : CT w' B b v' M' fs') : CD w' B d b v' list lim M' fs' :=
  ⟨h.ge, ht.ar h.obj h.db (fun e => h.dv d e rfl), hc⟩
/-- A decoder that has refused a block. -/
def CX (w : World) (d : Nat) (list : Int) (lim er left : Nat) : Prop := Ar w d 86 #[.pointer none, .int .i64 list, .int .i64 (lim : Int), .int .i64 (er : Int), .int .i64 (left : Int)]

/-- The code's encoder: its table, the least room since the last block, the room at its end. -/
structure CE (w : World) (B d b : Nat) (v : Value) (least told M : Nat) (fs : List (List UInt8 × List UInt8)) : Prop where
  ge : B ≤ d
  obj : Ar w d 44 #[.pointer (some ⟨b, 0, none⟩), .int .i64 (least : Int), .int .i64 (told : Int)]
  tab : CT w B b v M fs
theorem CE.keep {w w' : World} {B d b : Nat} {v : Value} {least told M : Nat} {fs : List (List UInt8 × List UInt8)} (h : CE w B d b v least told M fs) (hb : Below w.heap.size w w') : CE w' B d b v least told M fs := ⟨h.ge, h.obj.keep hb, h.tab.keep hb⟩
theorem CE.fr {S : Nat → Prop} {w w' : World} {B d b : Nat} {v : Value} {least told M : Nat} {fs : List (List UInt8 × List UInt8)} (h : CE w B d b v least told M fs) (hf : Fr S w w') (h0 : ¬ S d) (h1 : ¬ S b) (h2 : ∀ k, v.ownBlock = some k → ¬ S k) : CE w' B d b v least told M fs := ⟨h.ge, hf.ar h.obj h0, hf.ct h.tab h1 h2⟩
theorem CE.db {w : World} {B d b : Nat} {v : Value} {least told M : Nat} {fs : List (List UInt8 × List UInt8)} (h : CE w B d b v least told M fs) : d ≠ b := h.obj.ne h.tab.ring.obj (by decide)
theorem CE.dv {w : World} {B d b : Nat} {v : Value} {least told M : Nat} {fs : List (List UInt8 × List UInt8)} (h : CE w B d b v least told M fs) : ∀ k, v.ownBlock = some k → k ≠ d := h.tab.ring.row.nak h.obj (by decide)
theorem CE.put {w w' : World} {B d b : Nat} {v v' : Value} {least told M M' : Nat} {fs fs' : List (List UInt8 × List UInt8)} (h : CE w B d b v least told M fs) (ht : Two b v.ownBlock w w') (hc : CT w' B b v' M' fs') : CE w' B d b v' least told M' fs' :=
  ⟨h.ge, ht.ar h.obj h.db (fun e => h.dv d e rfl), hc⟩
/-- Its own numbers are changed. -/
theorem CE.set {w : World} {B d b : Nat} {v : Value} {least told M : Nat} {fs : List (List UInt8 × List UInt8)} (h : CE w B d b v least told M fs) (l' : Nat) : CE (w.setCell ⟨d, 1, none⟩ (.int .i64 (l' : Int))) B d b v l' told M fs := by
  have hf : Fr (· = d) w (w.setCell ⟨d, 1, none⟩ (.int .i64 (l' : Int))) := Fr.of_set d 1 _ w rfl
  exact ⟨h.ge, by have := h.obj.set 1 (.int .i64 (l' : Int)); simpa using this, hf.ct h.tab (fun e => h.db e.symm) (fun k hk => h.dv k hk)⟩
theorem CE.set2 {w : World} {B d b : Nat} {v : Value} {least told M : Nat} {fs : List (List UInt8 × List UInt8)} (h : CE w B d b v least told M fs) (l' : Nat) : CE (w.setCell ⟨d, 2, none⟩ (.int .i64 (l' : Int))) B d b v least l' M fs := by
  have hf : Fr (· = d) w (w.setCell ⟨d, 2, none⟩ (.int .i64 (l' : Int))) := Fr.of_set d 2 _ w rfl
  exact ⟨h.ge, by have := h.obj.set 2 (.int .i64 (l' : Int)); simpa using this, hf.ct h.tab (fun e => h.db e.symm) (fun k hk => h.dv k hk)⟩

end Go.Proofs.YtmkkhfkfjmfdcaaGreat

namespace Go.Proofs.YtmkkhfkfjmfdcaaGreat
open Go.RowKit

/-- The bits that tell what a representation is. -/
def hiOf (b : UInt8) : Nat := if 128 ≤ b.toNat then 128 else if 64 ≤ b.toNat then 64 else if 32 ≤ b.toNat then 32 else if 16 ≤ b.toNat then 16 else 0
theorem hp_and128 : ∀ y : Nat, y < 256 → Go.bits .and .u8 (y : Int) 128 = (if 128 ≤ y then 128 else 0) := by decide +kernel
theorem hp_and64 : ∀ y : Nat, y < 128 → Go.bits .and .u8 (y : Int) 64 = (if 64 ≤ y then 64 else 0) := by decide +kernel
theorem hp_and32 : ∀ y : Nat, y < 64 → Go.bits .and .u8 (y : Int) 32 = (if 32 ≤ y then 32 else 0) := by decide +kernel
theorem hp_and16 : ∀ y : Nat, y < 32 → Go.bits .and .u8 (y : Int) 16 = (if 16 ≤ y then 16 else 0) := by decide +kernel

set_option maxRecDepth 20000 in
theorem split_at (x : UInt8) (y : Nat) (hx : x.toNat = y) (h k : Nat) (hh : hiOf x = h) (hk : (Hp.kind x).2 = k) (w : World) :
    Calls Tryz.prog 55 #[.int .u8 (y : Int)] w fun e w' => e = .returned (.tuple #[.int .u8 (h : Int), .int .i64 (k : Int)]) ∧ w' = w := by
  have hy : y < 256 := by rw [← hx]; exact x.toNat_lt
  unfold hiOf at hh
  unfold Hp.kind at hk
  rw [hx] at hh hk
  clear hx
  by_cases c1 : 128 ≤ y
  · rw [if_pos c1] at hh hk
    subst hh hk
    have e1 := hp_and128 y hy
    rw [if_pos c1] at e1
    clear hy c1
    go_enter Tryz.func55, Tryz.ntmps55
    go_wp2
    go_ret2
    exact ⟨rfl, rfl⟩
  · rw [if_neg c1] at hh hk
    have e1 := hp_and128 y hy
    rw [if_neg c1] at e1
    by_cases c2 : 64 ≤ y
    · rw [if_pos c2] at hh hk
      subst hh hk
      have e2 := hp_and64 y (by omega)
      rw [if_pos c2] at e2
      clear hy c1 c2
      go_enter Tryz.func55, Tryz.ntmps55
      go_wp2
      go_ret2
      exact ⟨rfl, rfl⟩
    · rw [if_neg c2] at hh hk
      have e2 := hp_and64 y (by omega)
      rw [if_neg c2] at e2
      by_cases c3 : 32 ≤ y
      · rw [if_pos c3] at hh hk
        subst hh hk
        have e3 := hp_and32 y (by omega)
        rw [if_pos c3] at e3
        clear hy c1 c2 c3
        go_enter Tryz.func55, Tryz.ntmps55
        go_wp2
        go_ret2
        exact ⟨rfl, rfl⟩
      · rw [if_neg c3] at hh hk
        subst hk
        have e3 := hp_and32 y (by omega)
        rw [if_neg c3] at e3
        have e4 : Go.bits .and .u8 (y : Int) 16 = (h : Int) := by
          rw [hp_and16 y (by omega), ← hh]
          split <;> rfl
        clear hy c1 c2 c3 hh
        go_enter Tryz.func55, Tryz.ntmps55
        go_wp2
        go_ret2
        exact ⟨rfl, rfl⟩

theorem tooMuch_at (B g : Nat) (v : Value) (wt most : Int) (n : Nat) (xs : List Value) (r : Bool) (hr : decide (most < wt) = r) (w : World) (h : RG w B g 90 54 2 v [.int .i64 wt, .int .i64 most] n xs) :
    Calls Tryz.prog 50 #[.pointer (some ⟨g, 0, none⟩)] w fun e w' => e = .returned (.bool r) ∧ ∃ m, w' = w.drewN m := by
  have c1 := h.obj.cell 1 _ rfl
  have c2 := h.obj.cell 2 _ rfl
  clear h
  go_enter Tryz.func50, Tryz.ntmps50
  go_wp2
  go_quiet (fail)
  go_wp2
  go_ret
  subst hr
  exact ⟨rfl, _, rfl⟩

theorem any_at (B g : Nat) (v : Value) (wt most : Int) (n : Nat) (xs : List Value) (r : Bool) (hr : decide (0 < wt) = r) (w : World) (h : RG w B g 90 54 2 v [.int .i64 wt, .int .i64 most] n xs) :
    Calls Tryz.prog 70 #[.pointer (some ⟨g, 0, none⟩)] w fun e w' => e = .returned (.bool r) ∧ w' = w := by
  have c1 := h.obj.cell 1 _ rfl
  clear h
  go_enter Tryz.func70, Tryz.ntmps70
  go_wp2
  go_ret
  subst hr
  exact ⟨rfl, rfl⟩

theorem refuse_at (d : Nat) (p : Value) (list : Int) (lim er left : Nat) (o1 o2 : Value) (w : World) (h : Ar w d 86 #[p, .int .i64 list, .int .i64 (lim : Int), o1, o2]) :
    Calls Tryz.prog 49 #[.pointer (some ⟨d, 0, none⟩), .int .i64 (er : Int), .int .i64 (left : Int)] w fun e w' => e = .returned (.tuple #[]) ∧ CX w' d list lim er left ∧ Fr (· = d) w w' := by
  have c0 := h.cell 0 _ rfl
  have c3 := h.cell 3 _ rfl
  have c4 := h.cell 4 _ rfl
  have f0 := h.free 0
  have f3 := h.free 3
  have f4 := h.free 4
  have H := hid' h
  clear h
  go_enter Tryz.func49, Tryz.ntmps49
  go_wp2
  go_end0
  refine ⟨rfl, ?_, ((Fr.of_set (S := (· = d)) d 3 _ w rfl).and (Fr.of_set d 4 _ _ rfl)).and (Fr.of_set d 0 _ _ rfl)⟩
  have := ((H.out.set 3 (.int .i64 (er : Int))).set 4 (.int .i64 (left : Int))).set 0 (.pointer none)
  unfold CX
  simpa using this

theorem isSecret_any (n : List UInt8) (r : Bool) (hr : Hp.never n = r) (w : World) :
    Calls Tryz.prog 58 #[.string ⟨n.toArray⟩] w fun e w' => e = .returned (.bool r) ∧ w' = w := by
  unfold Hp.never at hr
  cases h0 : (n == [97, 117, 116, 104, 111, 114, 105, 122, 97, 116, 105, 111, 110]) with
  | true =>
    obtain rfl : r = true := by rw [← hr, h0]; rfl
    clear hr
    go_enter Tryz.func58, Tryz.ntmps58
    go_wp2
    go_ret
    exact ⟨rfl, rfl⟩
  | false =>
    cases h1 : (n == [99, 111, 111, 107, 105, 101]) with
    | true =>
      obtain rfl : r = true := by rw [← hr, h0, h1]; rfl
      clear hr
      go_enter Tryz.func58, Tryz.ntmps58
      go_wp2
      go_ret
      exact ⟨rfl, rfl⟩
    | false =>
      cases h2 : (n == [112, 114, 111, 120, 121, 45, 97, 117, 116, 104, 111, 114, 105, 122, 97, 116, 105, 111, 110]) with
      | true =>
        obtain rfl : r = true := by rw [← hr, h0, h1, h2]; rfl
        clear hr
        go_enter Tryz.func58, Tryz.ntmps58
        go_wp2
        go_ret
        exact ⟨rfl, rfl⟩
      | false =>
        cases h3 : (n == [115, 101, 116, 45, 99, 111, 111, 107, 105, 101]) with
        | true =>
          obtain rfl : r = true := by rw [← hr, h0, h1, h2, h3]; rfl
          clear hr
          go_enter Tryz.func58, Tryz.ntmps58
          go_wp2
          go_ret
          exact ⟨rfl, rfl⟩
        | false =>
          obtain rfl : r = false := by rw [← hr, h0, h1, h2, h3]; rfl
          clear hr
          go_enter Tryz.func58, Tryz.ntmps58
          go_wp2
          go_ret
          exact ⟨rfl, rfl⟩

theorem isPassing_any (n : List UInt8) (r : Bool) (hr : Hp.nots n = r) (w : World) :
    Calls Tryz.prog 59 #[.string ⟨n.toArray⟩] w fun e w' => e = .returned (.bool r) ∧ w' = w := by
  unfold Hp.nots at hr
  cases h0 : (n == [58, 112, 97, 116, 104]) with
  | true =>
    obtain rfl : r = true := by rw [← hr, h0]; rfl
    clear hr
    go_enter Tryz.func59, Tryz.ntmps59
    go_wp2
    go_ret
    exact ⟨rfl, rfl⟩
  | false =>
    cases h1 : (n == [99, 111, 110, 116, 101, 110, 116, 45, 108, 101, 110, 103, 116, 104]) with
    | true =>
      obtain rfl : r = true := by rw [← hr, h0, h1]; rfl
      clear hr
      go_enter Tryz.func59, Tryz.ntmps59
      go_wp2
      go_ret
      exact ⟨rfl, rfl⟩
    | false =>
      cases h2 : (n == [99, 111, 110, 116, 101, 110, 116, 45, 114, 97, 110, 103, 101]) with
      | true =>
        obtain rfl : r = true := by rw [← hr, h0, h1, h2]; rfl
        clear hr
        go_enter Tryz.func59, Tryz.ntmps59
        go_wp2
        go_ret
        exact ⟨rfl, rfl⟩
      | false =>
        cases h3 : (n == [100, 97, 116, 101]) with
        | true =>
          obtain rfl : r = true := by rw [← hr, h0, h1, h2, h3]; rfl
          clear hr
          go_enter Tryz.func59, Tryz.ntmps59
          go_wp2
          go_ret
          exact ⟨rfl, rfl⟩
        | false =>
          cases h4 : (n == [101, 116, 97, 103]) with
          | true =>
            obtain rfl : r = true := by rw [← hr, h0, h1, h2, h3, h4]; rfl
            clear hr
            go_enter Tryz.func59, Tryz.ntmps59
            go_wp2
            go_ret
            exact ⟨rfl, rfl⟩
          | false =>
            cases h5 : (n == [108, 97, 115, 116, 45, 109, 111, 100, 105, 102, 105, 101, 100]) with
            | true =>
              obtain rfl : r = true := by rw [← hr, h0, h1, h2, h3, h4, h5]; rfl
              clear hr
              go_enter Tryz.func59, Tryz.ntmps59
              go_wp2
              go_ret
              exact ⟨rfl, rfl⟩
            | false =>
              cases h6 : (n == [108, 111, 99, 97, 116, 105, 111, 110]) with
              | true =>
                obtain rfl : r = true := by rw [← hr, h0, h1, h2, h3, h4, h5, h6]; rfl
                clear hr
                go_enter Tryz.func59, Tryz.ntmps59
                go_wp2
                go_ret
                exact ⟨rfl, rfl⟩
              | false =>
                obtain rfl : r = false := by rw [← hr, h0, h1, h2, h3, h4, h5, h6]; rfl
                clear hr
                go_enter Tryz.func59, Tryz.ntmps59
                go_wp2
                go_ret
                exact ⟨rfl, rfl⟩

end Go.Proofs.YtmkkhfkfjmfdcaaGreat
