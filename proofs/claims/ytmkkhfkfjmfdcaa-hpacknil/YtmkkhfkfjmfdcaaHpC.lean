/-
  Package hpack: what needs no call of prim: split, tooMuch, any, refuse, isSecret, isPassing: by their contracts.
-/
import Derived.Test.YtmkkhfkfjmfdcaaHpM
import Derived.Deep.RegionHeld3
namespace Go.Proofs.Ytmkkhfkfjmfdcaa
open Go.RowKit

/-- The bits that tell what a representation is. -/
def hiOf (b : UInt8) : Nat := if 128 ≤ b.toNat then 128 else if 64 ≤ b.toNat then 64 else if 32 ≤ b.toNat then 32 else if 16 ≤ b.toNat then 16 else 0
theorem hp_and128 : ∀ y : Nat, y < 256 → Go.bits .and .u8 (y : Int) 128 = (if 128 ≤ y then 128 else 0) := by decide +kernel
theorem hp_and64 : ∀ y : Nat, y < 128 → Go.bits .and .u8 (y : Int) 64 = (if 64 ≤ y then 64 else 0) := by decide +kernel
theorem hp_and32 : ∀ y : Nat, y < 64 → Go.bits .and .u8 (y : Int) 32 = (if 32 ≤ y then 32 else 0) := by decide +kernel
theorem hp_and16 : ∀ y : Nat, y < 32 → Go.bits .and .u8 (y : Int) 16 = (if 16 ≤ y then 16 else 0) := by decide +kernel

set_option maxRecDepth 20000 in
theorem split_at (x : UInt8) (y : Nat) (hx : x.toNat = y) (h k : Nat) (hh : hiOf x = h) (hk : (Hp.kind x).2 = k) (w : World) :
    Calls Try.prog 34 #[.int .u8 (y : Int)] w fun e w' => e = .returned (.tuple #[.int .u8 (h : Int), .int .i64 (k : Int)]) ∧ w' = w := by
  have hy : y < 256 := by rw [← hx]; exact x.toNat_lt
  unfold hiOf at hh
  unfold Hp.kind at hk
  rw [hx] at hh hk
  clear hx
  by_cases c1 : 128 ≤ y
  · rw [if_pos c1] at hh hk
    subst hh hk
    have e1 := hp_and128 y hy
    rw [if_pos c1] at e1
    clear hy c1
    go_enter Try.func34, Try.ntmps34
    go_wp2
    go_ret2
    exact ⟨rfl, rfl⟩
  · rw [if_neg c1] at hh hk
    have e1 := hp_and128 y hy
    rw [if_neg c1] at e1
    by_cases c2 : 64 ≤ y
    · rw [if_pos c2] at hh hk
      subst hh hk
      have e2 := hp_and64 y (by omega)
      rw [if_pos c2] at e2
      clear hy c1 c2
      go_enter Try.func34, Try.ntmps34
      go_wp2
      go_ret2
      exact ⟨rfl, rfl⟩
    · rw [if_neg c2] at hh hk
      have e2 := hp_and64 y (by omega)
      rw [if_neg c2] at e2
      by_cases c3 : 32 ≤ y
      · rw [if_pos c3] at hh hk
        subst hh hk
        have e3 := hp_and32 y (by omega)
        rw [if_pos c3] at e3
        clear hy c1 c2 c3
        go_enter Try.func34, Try.ntmps34
        go_wp2
        go_ret2
        exact ⟨rfl, rfl⟩
      · rw [if_neg c3] at hh hk
        subst hk
        have e3 := hp_and32 y (by omega)
        rw [if_neg c3] at e3
        have e4 : Go.bits .and .u8 (y : Int) 16 = (h : Int) := by
          rw [hp_and16 y (by omega), ← hh]
          split <;> rfl
        clear hy c1 c2 c3 hh
        go_enter Try.func34, Try.ntmps34
        go_wp2
        go_ret2
        exact ⟨rfl, rfl⟩

theorem tooMuch_at (B g : Nat) (v : Value) (wt most : Int) (n : Nat) (xs : List Value) (r : Bool) (hr : decide (most < wt) = r) (w : World) (h : RG w B g 61 55 2 v [.int .i64 wt, .int .i64 most] n xs) :
    Calls Try.prog 25 #[.pointer (some ⟨g, 0, none⟩)] w fun e w' => e = .returned (.bool r) ∧ ∃ m, w' = w.drewN m := by
  have c1 := h.obj.cell 1 _ rfl
  have c2 := h.obj.cell 2 _ rfl
  clear h
  go_enter Try.func25, Try.ntmps25
  go_wp2
  go_quiet (fail)
  go_wp2
  go_ret
  subst hr
  exact ⟨rfl, _, rfl⟩

theorem any_at (B g : Nat) (v : Value) (wt most : Int) (n : Nat) (xs : List Value) (r : Bool) (hr : decide (0 < wt) = r) (w : World) (h : RG w B g 61 55 2 v [.int .i64 wt, .int .i64 most] n xs) :
    Calls Try.prog 37 #[.pointer (some ⟨g, 0, none⟩)] w fun e w' => e = .returned (.bool r) ∧ w' = w := by
  have c1 := h.obj.cell 1 _ rfl
  clear h
  go_enter Try.func37, Try.ntmps37
  go_wp2
  go_ret
  subst hr
  exact ⟨rfl, rfl⟩

theorem refuse_at (d : Nat) (p : Value) (list : Int) (lim er left : Nat) (o1 o2 : Value) (w : World) (h : Ar w d 51 #[p, .int .i64 list, .int .i64 (lim : Int), o1, o2]) :
    Calls Try.prog 24 #[.pointer (some ⟨d, 0, none⟩), .int .i64 (er : Int), .int .i64 (left : Int)] w fun e w' => e = .returned (.tuple #[]) ∧ CX w' d list lim er left ∧ Fr (· = d) w w' := by
  have c0 := h.cell 0 _ rfl
  have c3 := h.cell 3 _ rfl
  have c4 := h.cell 4 _ rfl
  have f0 := h.free 0
  have f3 := h.free 3
  have f4 := h.free 4
  have H := hid' h
  clear h
  go_enter Try.func24, Try.ntmps24
  go_wp2
  go_end0
  refine ⟨rfl, ?_, ((Fr.of_set (S := (· = d)) d 3 _ w rfl).and (Fr.of_set d 4 _ _ rfl)).and (Fr.of_set d 0 _ _ rfl)⟩
  have := ((H.out.set 3 (.int .i64 (er : Int))).set 4 (.int .i64 (left : Int))).set 0 (.pointer none)
  unfold CX
  simpa using this

theorem isSecret_any (n : List UInt8) (r : Bool) (hr : Hp.never n = r) (w : World) :
    Calls Try.prog 58 #[.string ⟨n.toArray⟩] w fun e w' => e = .returned (.bool r) ∧ w' = w := by
  unfold Hp.never at hr
  cases h0 : (n == [97, 117, 116, 104, 111, 114, 105, 122, 97, 116, 105, 111, 110]) with
  | true =>
    obtain rfl : r = true := by rw [← hr, h0]; rfl
    clear hr
    go_enter Try.func58, Try.ntmps58
    go_wp2
    go_ret
    exact ⟨rfl, rfl⟩
  | false =>
    cases h1 : (n == [99, 111, 111, 107, 105, 101]) with
    | true =>
      obtain rfl : r = true := by rw [← hr, h0, h1]; rfl
      clear hr
      go_enter Try.func58, Try.ntmps58
      go_wp2
      go_ret
      exact ⟨rfl, rfl⟩
    | false =>
      cases h2 : (n == [112, 114, 111, 120, 121, 45, 97, 117, 116, 104, 111, 114, 105, 122, 97, 116, 105, 111, 110]) with
      | true =>
        obtain rfl : r = true := by rw [← hr, h0, h1, h2]; rfl
        clear hr
        go_enter Try.func58, Try.ntmps58
        go_wp2
        go_ret
        exact ⟨rfl, rfl⟩
      | false =>
        cases h3 : (n == [115, 101, 116, 45, 99, 111, 111, 107, 105, 101]) with
        | true =>
          obtain rfl : r = true := by rw [← hr, h0, h1, h2, h3]; rfl
          clear hr
          go_enter Try.func58, Try.ntmps58
          go_wp2
          go_ret
          exact ⟨rfl, rfl⟩
        | false =>
          obtain rfl : r = false := by rw [← hr, h0, h1, h2, h3]; rfl
          clear hr
          go_enter Try.func58, Try.ntmps58
          go_wp2
          go_ret
          exact ⟨rfl, rfl⟩

theorem isPassing_any (n : List UInt8) (r : Bool) (hr : Hp.nots n = r) (w : World) :
    Calls Try.prog 59 #[.string ⟨n.toArray⟩] w fun e w' => e = .returned (.bool r) ∧ w' = w := by
  unfold Hp.nots at hr
  cases h0 : (n == [58, 112, 97, 116, 104]) with
  | true =>
    obtain rfl : r = true := by rw [← hr, h0]; rfl
    clear hr
    go_enter Try.func59, Try.ntmps59
    go_wp2
    go_ret
    exact ⟨rfl, rfl⟩
  | false =>
    cases h1 : (n == [99, 111, 110, 116, 101, 110, 116, 45, 108, 101, 110, 103, 116, 104]) with
    | true =>
      obtain rfl : r = true := by rw [← hr, h0, h1]; rfl
      clear hr
      go_enter Try.func59, Try.ntmps59
      go_wp2
      go_ret
      exact ⟨rfl, rfl⟩
    | false =>
      cases h2 : (n == [99, 111, 110, 116, 101, 110, 116, 45, 114, 97, 110, 103, 101]) with
      | true =>
        obtain rfl : r = true := by rw [← hr, h0, h1, h2]; rfl
        clear hr
        go_enter Try.func59, Try.ntmps59
        go_wp2
        go_ret
        exact ⟨rfl, rfl⟩
      | false =>
        cases h3 : (n == [100, 97, 116, 101]) with
        | true =>
          obtain rfl : r = true := by rw [← hr, h0, h1, h2, h3]; rfl
          clear hr
          go_enter Try.func59, Try.ntmps59
          go_wp2
          go_ret
          exact ⟨rfl, rfl⟩
        | false =>
          cases h4 : (n == [101, 116, 97, 103]) with
          | true =>
            obtain rfl : r = true := by rw [← hr, h0, h1, h2, h3, h4]; rfl
            clear hr
            go_enter Try.func59, Try.ntmps59
            go_wp2
            go_ret
            exact ⟨rfl, rfl⟩
          | false =>
            cases h5 : (n == [108, 97, 115, 116, 45, 109, 111, 100, 105, 102, 105, 101, 100]) with
            | true =>
              obtain rfl : r = true := by rw [← hr, h0, h1, h2, h3, h4, h5]; rfl
              clear hr
              go_enter Try.func59, Try.ntmps59
              go_wp2
              go_ret
              exact ⟨rfl, rfl⟩
            | false =>
              cases h6 : (n == [108, 111, 99, 97, 116, 105, 111, 110]) with
              | true =>
                obtain rfl : r = true := by rw [← hr, h0, h1, h2, h3, h4, h5, h6]; rfl
                clear hr
                go_enter Try.func59, Try.ntmps59
                go_wp2
                go_ret
                exact ⟨rfl, rfl⟩
              | false =>
                obtain rfl : r = false := by rw [← hr, h0, h1, h2, h3, h4, h5, h6]; rfl
                clear hr
                go_enter Try.func59, Try.ntmps59
                go_wp2
                go_ret
                exact ⟨rfl, rfl⟩

end Go.Proofs.Ytmkkhfkfjmfdcaa
