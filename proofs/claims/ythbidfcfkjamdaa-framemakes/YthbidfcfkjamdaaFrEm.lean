/-
  ostlerref07.fits and five, by their contracts.
  ostlerref07.payload of DATA, HEADERS, PRIORITY, PING, MORE and of kinds that are none: by its contract.
  ostlerref07.payload of RESET, WINDOW, UPDATE and AWAY: by its contract.
  ostlerref07.payload of AWAY whose last stream has no room: by its contract.
-/
import Derived.Test.YthbidfcfkjamdaaFrRb
import Derived.Test.YthbidfcfkjamdaaFrZ
import Derived.Deep.RegionHeld3
import Derived.Test.YthbidfcfkjamdaaFrS
namespace Go.Proofs.Ythbidfcfkjamdaa
open Go.RowKit

/-- May a number be written in two bytes, in four? -/
def Fm.fit2 (n : Int) : Bool := decide (0 ≤ n ∧ n < 65536)
def Fm.fit4 (n : Int) : Bool := decide (0 ≤ n ∧ n < 4294967296)
theorem Fm.fit4_yes {n : Int} (h : Fm.fit4 n = true) : 0 ≤ n ∧ n < 4294967296 := by simpa [Fm.fit4] using h
theorem Fm.fit2_yes {n : Int} (h : Fm.fit2 n = true) : 0 ≤ n ∧ n < 65536 := by simpa [Fm.fit2] using h

set_option maxHeartbeats 2000000 in
theorem rfits_four (n : Int) (r : Bool) (hr : Fm.fit4 n = r) (w : World) : Calls Try.prog 52 #[.int .i64 n, .int .i64 4] w fun e w' => e = .returned (.bool r) ∧ w' = w := by
  have HR := hid' hr
  clear hr
  go_enter Try.func52, Try.ntmps52
  go_wp2
  go_loopw [5, 6] (fun s5 s6 wr => ∃ (i : Nat) (mo : Int), s6 = .int .i64 (i : Int) ∧ s5 = .int .i64 mo ∧ i ≤ 4 ∧ Hid (mo = 256 ^ i) ∧ wr = w) (fun _ s6 _ => 4 - (intOf s6).toNat)
  case atStart => exact ⟨0, 1, rfl, rfl, by omega, hid' rfl, rfl⟩
  case round =>
    obtain ⟨i, mo, rfl, rfl, hi, HM, hwr⟩ := hrel
    subst wr
    have hi5 : i = 0 ∨ i = 1 ∨ i = 2 ∨ i = 3 ∨ i = 4 := by omega
    rcases hi5 with rfl | rfl | rfl | rfl | rfl
    · obtain rfl : mo = 1 := HM.out
      go_wp2
      go_roundw
      case rel => exact ⟨1, 256, by go_num, rfl, by omega, hid' (by decide), trivial⟩
      case measure => simp [intOf]
    · obtain rfl : mo = 256 := HM.out
      go_wp2
      go_roundw
      case rel => exact ⟨2, 65536, by go_num, rfl, by omega, hid' (by decide), trivial⟩
      case measure => simp [intOf]
    · obtain rfl : mo = 65536 := HM.out
      go_wp2
      go_roundw
      case rel => exact ⟨3, 16777216, by go_num, rfl, by omega, hid' (by decide), trivial⟩
      case measure => simp [intOf]
    · obtain rfl : mo = 16777216 := HM.out
      go_wp2
      go_roundw
      case rel => exact ⟨4, 4294967296, by go_num, rfl, by omega, hid' (by decide), trivial⟩
      case measure => simp [intOf]
    · obtain rfl : mo = 4294967296 := HM.out
      clear HM
      by_cases h0 : 0 ≤ n
      · by_cases h1 : n < 4294967296
        · obtain rfl : true = r := by rw [← HR.out]; simp [Fm.fit4, h0, h1]
          go_wp2
          go_ret
          exact ⟨rfl, rfl⟩
        · obtain rfl : false = r := by rw [← HR.out]; simp [Fm.fit4, h1]
          go_wp2
          go_ret
          exact ⟨rfl, rfl⟩
      · obtain rfl : false = r := by rw [← HR.out]; simp [Fm.fit4, h0]
        go_wp2
        go_ret
        exact ⟨rfl, rfl⟩

set_option maxHeartbeats 2000000 in
theorem rfits_two (n : Int) (r : Bool) (hr : Fm.fit2 n = r) (w : World) : Calls Try.prog 52 #[.int .i64 n, .int .i64 2] w fun e w' => e = .returned (.bool r) ∧ w' = w := by
  have HR := hid' hr
  clear hr
  go_enter Try.func52, Try.ntmps52
  go_wp2
  go_loopw [5, 6] (fun s5 s6 wr => ∃ (i : Nat) (mo : Int), s6 = .int .i64 (i : Int) ∧ s5 = .int .i64 mo ∧ i ≤ 2 ∧ Hid (mo = 256 ^ i) ∧ wr = w) (fun _ s6 _ => 2 - (intOf s6).toNat)
  case atStart => exact ⟨0, 1, rfl, rfl, by omega, hid' rfl, rfl⟩
  case round =>
    obtain ⟨i, mo, rfl, rfl, hi, HM, hwr⟩ := hrel
    subst wr
    have hi5 : i = 0 ∨ i = 1 ∨ i = 2 := by omega
    rcases hi5 with rfl | rfl | rfl
    · obtain rfl : mo = 1 := HM.out
      go_wp2
      go_roundw
      case rel => exact ⟨1, 256, by go_num, rfl, by omega, hid' (by decide), trivial⟩
      case measure => simp [intOf]
    · obtain rfl : mo = 256 := HM.out
      go_wp2
      go_roundw
      case rel => exact ⟨2, 65536, by go_num, rfl, by omega, hid' (by decide), trivial⟩
      case measure => simp [intOf]
    · obtain rfl : mo = 65536 := HM.out
      clear HM
      by_cases h0 : 0 ≤ n
      · by_cases h1 : n < 65536
        · obtain rfl : true = r := by rw [← HR.out]; simp [Fm.fit2, h0, h1]
          go_wp2
          go_ret
          exact ⟨rfl, rfl⟩
        · obtain rfl : false = r := by rw [← HR.out]; simp [Fm.fit2, h1]
          go_wp2
          go_ret
          exact ⟨rfl, rfl⟩
      · obtain rfl : false = r := by rw [← HR.out]; simp [Fm.fit2, h0]
        go_wp2
        go_ret
        exact ⟨rfl, rfl⟩

/-- Five bytes of a priority, and whether there are some. -/
def Fm.onl (n : Int) (o : Bool) : Int := if o then n + 2147483647 + 1 else n
def Fm.five (p : Fm.Pt) : List UInt8 := Fm.enc 4 (Fm.onl p.last p.only) ++ Fm.enc 1 (p.weight - 1)
def Fm.fiveOk (p : Fm.Pt) : Bool := decide ((0 ≤ p.last ∧ p.last ≤ 2147483647) ∧ 1 ≤ p.weight ∧ p.weight ≤ 256)

set_option maxHeartbeats 2000000 in
set_option maxRecDepth 20000 in
theorem rfive_no (p : Fm.Pt) (ao : Option Addr) (n cap : Nat) (h : Fm.fiveOk p = false) (w : World) :
    Calls Try.prog 51 #[.agg (ptC p (.slice ao n cap))] w fun e w' => e = .returned (.tuple #[.string ⟨#[]⟩, .bool false]) ∧ Below w.heap.size w w' := by
  obtain ⟨pd, pp, pc, pl, pw, po, pm, ps⟩ := p
  simp only [Fm.fiveOk, decide_eq_false_iff_not] at h
  have HH := hid' h
  clear h
  go_enter Try.func51, Try.ntmps51
  go_wp2_with (refine wpl_box 27 _ rfl rfl (ptC ⟨pd, pp, pc, pl, pw, po, pm, ps⟩ (.slice ao n cap)) (by kernel_rfl) ?_)
  intro b w0 hg0 ha0 hb0
  obtain ⟨x0, x1, x2, x3, x4, x5, x6, x7⟩ := pt_cells ha0
  simp only at x0 x1 x2 x3 x4 x5 x6
  have HB := hid' hb0
  clear ha0 hb0
  obtain ⟨r, hr⟩ : ∃ r, Fm.fit4 pl = r := ⟨_, rfl⟩
  have HF := hid' hr
  go_wp2_with fail
  refine (rfits_four pl r HF.out _).mono ?_
  rintro e w1 ⟨rfl, hw1⟩
  subst w1
  cases r with
  | false =>
    clear hr
    go_wp2
    go_ret2
    exact ⟨rfl, HB.out⟩
  | true =>
    have hf := Fm.fit4_yes hr
    clear hr
    by_cases h1 : 2147483647 < pl
    · go_wp2
      go_ret2
      exact ⟨rfl, HB.out⟩
    · by_cases h2 : pw < 1
      · go_wp2
        go_ret2
        exact ⟨rfl, HB.out⟩
      · have h3 : 256 < pw := by have := HH.out; omega
        go_wp2
        go_ret2
        exact ⟨rfl, HB.out⟩

set_option maxHeartbeats 4000000 in
set_option maxRecDepth 20000 in
theorem rfive_yes (p : Fm.Pt) (ao : Option Addr) (n cap : Nat) (h : Fm.fiveOk p = true) (w : World) :
    Calls Try.prog 51 #[.agg (ptC p (.slice ao n cap))] w fun e w' => e = .returned (.tuple #[.string ⟨(Fm.five p).toArray⟩, .bool true]) ∧ Below w.heap.size w w' := by
  obtain ⟨pd, pp, pc, pl, pw, po, pm, ps⟩ := p
  simp only [Fm.fiveOk, decide_eq_true_eq] at h
  obtain ⟨⟨g0, g1⟩, g2, g3⟩ := h
  obtain ⟨X, hX⟩ : ∃ X, Fm.onl pl po = X := ⟨_, rfl⟩
  have hx0 : 0 ≤ X := by rw [← hX]; unfold Fm.onl; split <;> omega
  have hx1 : X ≤ 4294967295 := by rw [← hX]; unfold Fm.onl; split <;> omega
  obtain ⟨a, ha⟩ : ∃ a, Fm.enc 4 X = a := ⟨_, rfl⟩
  obtain ⟨c, hc⟩ : ∃ a, Fm.enc 1 (pw - 1) = a := ⟨_, rfl⟩
  have hal : a.length = 4 := by rw [← ha]; exact Fm.enc_length _ _
  have hcl : c.length = 1 := by rw [← hc]; exact Fm.enc_length _ _
  have E1 : Hid (Fm.enc (Int.toNat 4) X = a) := hid' ha
  have E2 : Hid (Fm.enc (Int.toNat 1) (pw - 1) = c) := hid' hc
  obtain ⟨s1, hs1⟩ : ∃ s, a ++ c = s := ⟨_, rfl⟩
  have HWR : Hid (Fm.five ⟨pd, pp, pc, pl, pw, po, pm, ps⟩ = s1) := hid' (by simp only [Fm.five]; rw [hX, ha, hc, hs1])
  have j1 := str_cat a c
  rw [hs1] at j1
  rw [HWR.out]
  have HX := hid' hX
  have HFT : Hid (Fm.fit4 pl = true) := hid' (by simp [Fm.fit4]; omega)
  clear ha hc hX hs1
  go_enter Try.func51, Try.ntmps51
  go_wp2_with (refine wpl_box 27 _ rfl rfl (ptC ⟨pd, pp, pc, pl, pw, po, pm, ps⟩ (.slice ao n cap)) (by kernel_rfl) ?_)
  intro b w0 hg0 ha0 hb0
  obtain ⟨x0, x1, x2, x3, x4, x5, x6, x7⟩ := pt_cells ha0
  simp only at x0 x1 x2 x3 x4 x5 x6
  have HB := hid' hb0
  have HA := hid' ha0
  clear ha0 hb0
  go_wp2_with fail
  refine (rfits_four pl true HFT.out _).mono ?_
  rintro e w1 ⟨rfl, hw1⟩
  subst w1
  have hwr : IntKind.i64.wrap (pw - 1) = pw - 1 := by rw [IntKind.wrap_i64]; omega
  have hS : Below w0.heap.size w0 w0 ∧ w0.cell? ⟨b, 4, none⟩ = some (.int .i64 pw) := ⟨Below.refl _ _, x4⟩
  have sOf : ∀ W W1 : World, (Below w0.heap.size w0 W ∧ W.cell? ⟨b, 4, none⟩ = some (.int .i64 pw)) → Below W.heap.size W W1 → (Below w0.heap.size w0 W1 ∧ W1.cell? ⟨b, 4, none⟩ = some (.int .i64 pw)) := fun W W1 h hb => ⟨below_two h.1 hb, (pt_cells (HA.out.keep (below_two h.1 hb))).2.2.2.2.1⟩
  cases po with
  | true =>
    obtain rfl : X = pl + 2147483647 + 1 := by rw [← HX.out]; rfl
    clear HX
    go_upto_region 6 with fail
    go_region_held3 (fun W => Below w0.heap.size w0 W ∧ W.cell? ⟨b, 4, none⟩ = some (.int .i64 pw))
      (first | assumption | exact sOf _ _ (by assumption) (by assumption) | exact sOf _ _ (by assumption) ((Below.refl _ _).drew))
      (first | (go_at_call 50; refine (rwritten_any _ _ ?_ ?_ ?_ _).mono ?_; omega; omega; omega; rintro e w5 ⟨rfl, hb5⟩; (first | rw [E1.out] | rw [E2.out])))
    have HBB : Hid (Below w.heap.size w w5) := hid' (below_two HB.out (And.left (by assumption : Below w0.heap.size w0 w5 ∧ w5.cell? ⟨b, 4, none⟩ = some (.int .i64 pw))))
    clear hb5 sOf hS
    go_wp2
    go_ret2
    exact ⟨rfl, HBB.out⟩
  | false =>
    obtain rfl : X = pl := by rw [← HX.out]; rfl
    clear HX
    go_upto_region 6 with fail
    go_region_held3 (fun W => Below w0.heap.size w0 W ∧ W.cell? ⟨b, 4, none⟩ = some (.int .i64 pw))
      (first | assumption | exact sOf _ _ (by assumption) (by assumption) | exact sOf _ _ (by assumption) ((Below.refl _ _).drew))
      (first | (go_at_call 50; refine (rwritten_any _ _ ?_ ?_ ?_ _).mono ?_; omega; omega; omega; rintro e w5 ⟨rfl, hb5⟩; (first | rw [E1.out] | rw [E2.out])))
    have HBB : Hid (Below w.heap.size w w5) := hid' (below_two HB.out (And.left (by assumption : Below w0.heap.size w0 w5 ∧ w5.cell? ⟨b, 4, none⟩ = some (.int .i64 pw))))
    clear hb5 sOf hS
    go_wp2
    go_ret2
    exact ⟨rfl, HBB.out⟩

end Go.Proofs.Ythbidfcfkjamdaa

namespace Go.Proofs.Ythbidfcfkjamdaa
open Go.RowKit

/-- The document's payload is so; there is none. -/
def RPok (k fl : Int) (p : Fm.Pt) (s : List UInt8) : Prop := ∀ (w : World) (v : Value), SR w v p.sets → Calls Try.prog 37 #[.int .i64 k, .int .i64 fl, .agg (ptC p v)] w fun e w' => e = .returned (.tuple #[.string ⟨s.toArray⟩, .bool true]) ∧ Below w.heap.size w w'
def RPno (k fl : Int) (p : Fm.Pt) : Prop := ∀ (w : World) (v : Value), SR w v p.sets → Calls Try.prog 37 #[.int .i64 k, .int .i64 fl, .agg (ptC p v)] w fun e w' => (∃ s : List UInt8, e = .returned (.tuple #[.string ⟨s.toArray⟩, .bool false])) ∧ Below w.heap.size w w'

theorem wrap_div {fl d : Int} (h0 : 0 ≤ fl) (h1 : fl ≤ 255) (hd : d = 8 ∨ d = 32) : wrap64 (fl.tdiv d) = fl.tdiv d := by
  rw [Int.tdiv_eq_ediv_of_nonneg h0]
  rcases hd with rfl | rfl
  · unfold wrap64; omega
  · unfold wrap64; omega
theorem flag8 {fl : Int} (h0 : 0 ≤ fl) {r : Bool} (h : Fm.has fl 8 = r) : (fl.tdiv 8).tmod 2 = if r then 1 else 0 := by
  rw [Int.tdiv_eq_ediv_of_nonneg h0, Int.tmod_eq_emod_of_nonneg (by omega)]
  cases r with
  | true => have h1 : 8 ≤ fl % 16 := by simpa [Fm.has] using h
            simp only [if_true]; omega
  | false => have h1 : ¬ 8 ≤ fl % 16 := by simpa [Fm.has] using h
             simp only [if_false, Bool.false_eq_true]; omega
theorem flag32 {fl : Int} (h0 : 0 ≤ fl) {r : Bool} (h : Fm.has fl 32 = r) : (fl.tdiv 32).tmod 2 = if r then 1 else 0 := by
  rw [Int.tdiv_eq_ediv_of_nonneg h0, Int.tmod_eq_emod_of_nonneg (by omega)]
  cases r with
  | true => have h1 : 32 ≤ fl % 64 := by simpa [Fm.has] using h
            simp only [if_true]; omega
  | false => have h1 : ¬ 32 ≤ fl % 64 := by simpa [Fm.has] using h
             simp only [if_false, Bool.false_eq_true]; omega

set_option maxHeartbeats 2000000 in
set_option maxRecDepth 20000 in
theorem rpay_data (fl : Int) (p : Fm.Pt) (hf : 0 ≤ fl ∧ fl ≤ 255) (h8 : Fm.has fl 8 = false) : RPok 0 fl p p.data := by
  intro w v hv
  obtain ⟨ao, cap, rfl⟩ := hv.shape
  obtain ⟨pd, pp, pc, pl, pw, po, pm, ps⟩ := p
  simp only at *
  obtain ⟨n, hn⟩ : ∃ n, ps.length = n := ⟨_, rfl⟩
  rw [hn]
  clear hn hv
  have q8 : (fl.tdiv 8).tmod 2 = 0 := flag8 hf.1 h8
  have e8 : wrap64 (fl.tdiv 8) = fl.tdiv 8 := wrap_div hf.1 hf.2 (by decide)
  clear h8 hf
  go_enter Try.func37, Try.ntmps37
  go_wp2_with (refine wpl_box 27 _ rfl rfl (ptC ⟨pd, pp, pc, pl, pw, po, pm, ps⟩ (.slice ao n cap)) (by kernel_rfl) ?_)
  intro b w0 hg0 ha0 hb0
  obtain ⟨x0, x1, x2, x3, x4, x5, x6, x7⟩ := pt_cells ha0
  simp only at x0 x1 x2 x3 x4 x5 x6
  have HB := hid' hb0
  have HA := hid' ha0
  clear ha0 hb0
  go_wp2
  go_ret2
  exact ⟨rfl, HB.out⟩

set_option maxHeartbeats 2000000 in
set_option maxRecDepth 20000 in
theorem rpay_datano (fl : Int) (p : Fm.Pt) (hf : 0 ≤ fl ∧ fl ≤ 255) (h8 : Fm.has fl 8 = true) (hp : p.pad < 1 ∨ 256 < p.pad) : RPno 0 fl p := by
  intro w v hv
  obtain ⟨ao, cap, rfl⟩ := hv.shape
  obtain ⟨pd, pp, pc, pl, pw, po, pm, ps⟩ := p
  simp only at *
  obtain ⟨n, hn⟩ : ∃ n, ps.length = n := ⟨_, rfl⟩
  rw [hn]
  clear hn hv
  have q8 : (fl.tdiv 8).tmod 2 = 1 := flag8 hf.1 h8
  have e8 : wrap64 (fl.tdiv 8) = fl.tdiv 8 := wrap_div hf.1 hf.2 (by decide)
  clear h8 hf
  go_enter Try.func37, Try.ntmps37
  go_wp2_with (refine wpl_box 27 _ rfl rfl (ptC ⟨pd, pp, pc, pl, pw, po, pm, ps⟩ (.slice ao n cap)) (by kernel_rfl) ?_)
  intro b w0 hg0 ha0 hb0
  obtain ⟨x0, x1, x2, x3, x4, x5, x6, x7⟩ := pt_cells ha0
  simp only at x0 x1 x2 x3 x4 x5 x6
  have HB := hid' hb0
  have HA := hid' ha0
  clear ha0 hb0
  by_cases h1 : pp < 1
  · clear hp
    go_wp2
    go_ret2
    exact ⟨⟨[], rfl⟩, HB.out⟩
  · have h2 : 256 < pp := by omega
    clear hp
    go_wp2
    go_ret2
    exact ⟨⟨[], rfl⟩, HB.out⟩

set_option maxHeartbeats 2000000 in
set_option maxRecDepth 20000 in
theorem rpay_ping (fl : Int) (p : Fm.Pt) : RPok 6 fl p p.data := by
  intro w v hv
  obtain ⟨ao, cap, rfl⟩ := hv.shape
  obtain ⟨pd, pp, pc, pl, pw, po, pm, ps⟩ := p
  simp only at *
  obtain ⟨n, hn⟩ : ∃ n, ps.length = n := ⟨_, rfl⟩
  rw [hn]
  clear hn hv
  go_enter Try.func37, Try.ntmps37
  go_wp2_with (refine wpl_box 27 _ rfl rfl (ptC ⟨pd, pp, pc, pl, pw, po, pm, ps⟩ (.slice ao n cap)) (by kernel_rfl) ?_)
  intro b w0 hg0 ha0 hb0
  obtain ⟨x0, x1, x2, x3, x4, x5, x6, x7⟩ := pt_cells ha0
  simp only at x0 x1 x2 x3 x4 x5 x6
  have HB := hid' hb0
  have HA := hid' ha0
  clear ha0 hb0
  go_wp2
  go_ret2
  exact ⟨rfl, HB.out⟩

set_option maxHeartbeats 2000000 in
set_option maxRecDepth 20000 in
theorem rpay_more (fl : Int) (p : Fm.Pt) : RPok 9 fl p p.data := by
  intro w v hv
  obtain ⟨ao, cap, rfl⟩ := hv.shape
  obtain ⟨pd, pp, pc, pl, pw, po, pm, ps⟩ := p
  simp only at *
  obtain ⟨n, hn⟩ : ∃ n, ps.length = n := ⟨_, rfl⟩
  rw [hn]
  clear hn hv
  go_enter Try.func37, Try.ntmps37
  go_wp2_with (refine wpl_box 27 _ rfl rfl (ptC ⟨pd, pp, pc, pl, pw, po, pm, ps⟩ (.slice ao n cap)) (by kernel_rfl) ?_)
  intro b w0 hg0 ha0 hb0
  obtain ⟨x0, x1, x2, x3, x4, x5, x6, x7⟩ := pt_cells ha0
  simp only at x0 x1 x2 x3 x4 x5 x6
  have HB := hid' hb0
  have HA := hid' ha0
  clear ha0 hb0
  go_wp2
  go_ret2
  exact ⟨rfl, HB.out⟩

set_option maxHeartbeats 2000000 in
set_option maxRecDepth 20000 in
theorem rpay_kind (k fl : Int) (p : Fm.Pt) (hk : k ≠ 0 ∧ k ≠ 1 ∧ k ≠ 2 ∧ k ≠ 3 ∧ k ≠ 4 ∧ k ≠ 6 ∧ k ≠ 7 ∧ k ≠ 8 ∧ k ≠ 9 ∧ k ≠ 16) : RPno k fl p := by
  intro w v hv
  obtain ⟨ao, cap, rfl⟩ := hv.shape
  obtain ⟨pd, pp, pc, pl, pw, po, pm, ps⟩ := p
  simp only at *
  obtain ⟨n, hn⟩ : ∃ n, ps.length = n := ⟨_, rfl⟩
  rw [hn]
  clear hn hv
  obtain ⟨k0, k1, k2, k3, k4, k6, k7, k8, k9, k16⟩ := hk
  have t0 : (k == 0) = false := beq_false_of_ne k0
  have t1 : (k == 1) = false := beq_false_of_ne k1
  have t2 : (k == 2) = false := beq_false_of_ne k2
  have t3 : (k == 3) = false := beq_false_of_ne k3
  have t4 : (k == 4) = false := beq_false_of_ne k4
  have t6 : (k == 6) = false := beq_false_of_ne k6
  have t7 : (k == 7) = false := beq_false_of_ne k7
  have t8 : (k == 8) = false := beq_false_of_ne k8
  have t9 : (k == 9) = false := beq_false_of_ne k9
  have t16 : (k == 16) = false := beq_false_of_ne k16
  clear k0 k1 k2 k3 k4 k6 k7 k8 k9 k16
  go_enter Try.func37, Try.ntmps37
  go_wp2_with (refine wpl_box 27 _ rfl rfl (ptC ⟨pd, pp, pc, pl, pw, po, pm, ps⟩ (.slice ao n cap)) (by kernel_rfl) ?_)
  intro b w0 hg0 ha0 hb0
  obtain ⟨x0, x1, x2, x3, x4, x5, x6, x7⟩ := pt_cells ha0
  simp only at x0 x1 x2 x3 x4 x5 x6
  have HB := hid' hb0
  have HA := hid' ha0
  clear ha0 hb0
  go_wp2
  go_ret2
  exact ⟨⟨[], rfl⟩, HB.out⟩

set_option maxHeartbeats 2000000 in
set_option maxRecDepth 20000 in
theorem rpay_head (fl : Int) (p : Fm.Pt) (hf : 0 ≤ fl ∧ fl ≤ 255) (h8 : Fm.has fl 8 = false) (h5 : Fm.has fl 32 = false) : RPok 1 fl p p.data := by
  intro w v hv
  obtain ⟨ao, cap, rfl⟩ := hv.shape
  obtain ⟨pd, pp, pc, pl, pw, po, pm, ps⟩ := p
  simp only at *
  obtain ⟨n, hn⟩ : ∃ n, ps.length = n := ⟨_, rfl⟩
  rw [hn]
  clear hn hv
  have q32 : (fl.tdiv 32).tmod 2 = 0 := flag32 hf.1 h5
  have e32 : wrap64 (fl.tdiv 32) = fl.tdiv 32 := wrap_div hf.1 hf.2 (by decide)
  clear h5
  have q8 : (fl.tdiv 8).tmod 2 = 0 := flag8 hf.1 h8
  have e8 : wrap64 (fl.tdiv 8) = fl.tdiv 8 := wrap_div hf.1 hf.2 (by decide)
  clear h8 hf
  go_enter Try.func37, Try.ntmps37
  go_wp2_with (refine wpl_box 27 _ rfl rfl (ptC ⟨pd, pp, pc, pl, pw, po, pm, ps⟩ (.slice ao n cap)) (by kernel_rfl) ?_)
  intro b w0 hg0 ha0 hb0
  obtain ⟨x0, x1, x2, x3, x4, x5, x6, x7⟩ := pt_cells ha0
  simp only at x0 x1 x2 x3 x4 x5 x6
  have HB := hid' hb0
  have HA := hid' ha0
  clear ha0 hb0
  go_wp2
  go_ret2
  exact ⟨rfl, HB.out⟩

set_option maxHeartbeats 2000000 in
set_option maxRecDepth 20000 in
theorem rpay_headpad (fl : Int) (p : Fm.Pt) (hf : 0 ≤ fl ∧ fl ≤ 255) (h8 : Fm.has fl 8 = true) (h5 : Fm.has fl 32 = false) : RPno 1 fl p := by
  intro w v hv
  obtain ⟨ao, cap, rfl⟩ := hv.shape
  obtain ⟨pd, pp, pc, pl, pw, po, pm, ps⟩ := p
  simp only at *
  obtain ⟨n, hn⟩ : ∃ n, ps.length = n := ⟨_, rfl⟩
  rw [hn]
  clear hn hv
  have q32 : (fl.tdiv 32).tmod 2 = 0 := flag32 hf.1 h5
  have e32 : wrap64 (fl.tdiv 32) = fl.tdiv 32 := wrap_div hf.1 hf.2 (by decide)
  clear h5
  have q8 : (fl.tdiv 8).tmod 2 = 1 := flag8 hf.1 h8
  have e8 : wrap64 (fl.tdiv 8) = fl.tdiv 8 := wrap_div hf.1 hf.2 (by decide)
  clear h8 hf
  go_enter Try.func37, Try.ntmps37
  go_wp2_with (refine wpl_box 27 _ rfl rfl (ptC ⟨pd, pp, pc, pl, pw, po, pm, ps⟩ (.slice ao n cap)) (by kernel_rfl) ?_)
  intro b w0 hg0 ha0 hb0
  obtain ⟨x0, x1, x2, x3, x4, x5, x6, x7⟩ := pt_cells ha0
  simp only at x0 x1 x2 x3 x4 x5 x6
  have HB := hid' hb0
  have HA := hid' ha0
  clear ha0 hb0
  go_wp2
  go_ret2
  exact ⟨⟨pd, rfl⟩, HB.out⟩

set_option maxHeartbeats 2000000 in
set_option maxRecDepth 20000 in
theorem rpay_prio_no (fl : Int) (p : Fm.Pt) (h5 : Fm.fiveOk p = false) : RPno 2 fl p := by
  intro w v hv
  obtain ⟨ao, cap, rfl⟩ := hv.shape
  obtain ⟨pd, pp, pc, pl, pw, po, pm, ps⟩ := p
  simp only at *
  obtain ⟨n, hn⟩ : ∃ n, ps.length = n := ⟨_, rfl⟩
  rw [hn]
  clear hn hv
  have H5 := hid' h5
  clear h5
  go_enter Try.func37, Try.ntmps37
  go_wp2_with (refine wpl_box 27 _ rfl rfl (ptC ⟨pd, pp, pc, pl, pw, po, pm, ps⟩ (.slice ao n cap)) (by kernel_rfl) ?_)
  intro b w0 hg0 ha0 hb0
  obtain ⟨x0, x1, x2, x3, x4, x5, x6, x7⟩ := pt_cells ha0
  simp only at x0 x1 x2 x3 x4 x5 x6
  have HB := hid' hb0
  have HA := hid' ha0
  clear ha0 hb0
  go_wp2_with fail
  refine (rfive_no ⟨pd, pp, pc, pl, pw, po, pm, ps⟩ ao n cap H5.out _).mono ?_
  rintro e w1 ⟨rfl, hb1⟩
  have HB1 := hid' (below_two HB.out hb1)
  obtain ⟨x0, x1, x2, x3, x4, x5, x6, x7⟩ := pt_cells (HA.out.keep hb1)
  simp only at x0 x1 x2 x3 x4 x5 x6
  clear hb1
  go_wp2
  go_ret2
  exact ⟨⟨[], rfl⟩, HB1.out⟩

set_option maxHeartbeats 2000000 in
set_option maxRecDepth 20000 in
theorem rpay_prio (fl : Int) (p : Fm.Pt) (h5 : Fm.fiveOk p = true) : RPok 2 fl p (Fm.five p) := by
  intro w v hv
  obtain ⟨ao, cap, rfl⟩ := hv.shape
  obtain ⟨pd, pp, pc, pl, pw, po, pm, ps⟩ := p
  simp only at *
  obtain ⟨n, hn⟩ : ∃ n, ps.length = n := ⟨_, rfl⟩
  rw [hn]
  clear hn hv
  have H5 := hid' h5
  clear h5
  go_enter Try.func37, Try.ntmps37
  go_wp2_with (refine wpl_box 27 _ rfl rfl (ptC ⟨pd, pp, pc, pl, pw, po, pm, ps⟩ (.slice ao n cap)) (by kernel_rfl) ?_)
  intro b w0 hg0 ha0 hb0
  obtain ⟨x0, x1, x2, x3, x4, x5, x6, x7⟩ := pt_cells ha0
  simp only at x0 x1 x2 x3 x4 x5 x6
  have HB := hid' hb0
  have HA := hid' ha0
  clear ha0 hb0
  go_wp2_with fail
  refine (rfive_yes ⟨pd, pp, pc, pl, pw, po, pm, ps⟩ ao n cap H5.out _).mono ?_
  rintro e w1 ⟨rfl, hb1⟩
  have HB1 := hid' (below_two HB.out hb1)
  obtain ⟨x0, x1, x2, x3, x4, x5, x6, x7⟩ := pt_cells (HA.out.keep hb1)
  simp only at x0 x1 x2 x3 x4 x5 x6
  obtain ⟨F5, hF5⟩ : ∃ F5, Fm.five ⟨pd, pp, pc, pl, pw, po, pm, ps⟩ = F5 := ⟨_, rfl⟩
  rw [hF5]
  have hF5l : F5.length = 5 := by rw [← hF5]; simp [Fm.five, Fm.enc_length]
  have HF5 := hid' hF5
  clear hb1 hF5
  go_wp2
  go_ret2
  exact ⟨by rw [HF5.out]; rfl, HB1.out⟩

set_option maxHeartbeats 2000000 in
set_option maxRecDepth 20000 in
theorem rpay_hp_no (fl : Int) (p : Fm.Pt) (hf : 0 ≤ fl ∧ fl ≤ 255) (hd : p.data.length ≤ 140737488355328) (h32 : Fm.has fl 32 = true) (h5 : Fm.fiveOk p = false) : RPno 1 fl p := by
  intro w v hv
  obtain ⟨ao, cap, rfl⟩ := hv.shape
  obtain ⟨pd, pp, pc, pl, pw, po, pm, ps⟩ := p
  simp only at *
  obtain ⟨n, hn⟩ : ∃ n, ps.length = n := ⟨_, rfl⟩
  rw [hn]
  clear hn hv
  have H5 := hid' h5
  have q32 : (fl.tdiv 32).tmod 2 = 1 := flag32 hf.1 h32
  have e32 : wrap64 (fl.tdiv 32) = fl.tdiv 32 := wrap_div hf.1 hf.2 (by decide)
  clear h5 h32 hf
  have hdl : pd.length ≤ 140737488355328 := hd
  clear hd
  go_enter Try.func37, Try.ntmps37
  go_wp2_with (refine wpl_box 27 _ rfl rfl (ptC ⟨pd, pp, pc, pl, pw, po, pm, ps⟩ (.slice ao n cap)) (by kernel_rfl) ?_)
  intro b w0 hg0 ha0 hb0
  obtain ⟨x0, x1, x2, x3, x4, x5, x6, x7⟩ := pt_cells ha0
  simp only at x0 x1 x2 x3 x4 x5 x6
  have HB := hid' hb0
  have HA := hid' ha0
  clear ha0 hb0
  go_wp2_with fail
  refine (rfive_no ⟨pd, pp, pc, pl, pw, po, pm, ps⟩ ao n cap H5.out _).mono ?_
  rintro e w1 ⟨rfl, hb1⟩
  have HB1 := hid' (below_two HB.out hb1)
  obtain ⟨x0, x1, x2, x3, x4, x5, x6, x7⟩ := pt_cells (HA.out.keep hb1)
  simp only at x0 x1 x2 x3 x4 x5 x6
  clear hb1
  have j1 := str_cat [] pd
  rw [List.nil_append] at j1
  have hsum : (9223372036854775807 < pd.length) = False := eq_false (by omega)
  go_wp2
  go_ret2
  exact ⟨⟨pd, rfl⟩, HB1.out⟩

set_option maxHeartbeats 2000000 in
set_option maxRecDepth 20000 in
theorem rpay_hp_pad (fl : Int) (p : Fm.Pt) (hf : 0 ≤ fl ∧ fl ≤ 255) (hd : p.data.length ≤ 140737488355328) (h32 : Fm.has fl 32 = true) (h8 : Fm.has fl 8 = true) (h5 : Fm.fiveOk p = true) : RPno 1 fl p := by
  intro w v hv
  obtain ⟨ao, cap, rfl⟩ := hv.shape
  obtain ⟨pd, pp, pc, pl, pw, po, pm, ps⟩ := p
  simp only at *
  obtain ⟨n, hn⟩ : ∃ n, ps.length = n := ⟨_, rfl⟩
  rw [hn]
  clear hn hv
  have H5 := hid' h5
  have q32 : (fl.tdiv 32).tmod 2 = 1 := flag32 hf.1 h32
  have e32 : wrap64 (fl.tdiv 32) = fl.tdiv 32 := wrap_div hf.1 hf.2 (by decide)
  clear h5 h32
  have q8 : (fl.tdiv 8).tmod 2 = 1 := flag8 hf.1 h8
  have e8 : wrap64 (fl.tdiv 8) = fl.tdiv 8 := wrap_div hf.1 hf.2 (by decide)
  clear h8 hf
  have hdl : pd.length ≤ 140737488355328 := hd
  clear hd
  go_enter Try.func37, Try.ntmps37
  go_wp2_with (refine wpl_box 27 _ rfl rfl (ptC ⟨pd, pp, pc, pl, pw, po, pm, ps⟩ (.slice ao n cap)) (by kernel_rfl) ?_)
  intro b w0 hg0 ha0 hb0
  obtain ⟨x0, x1, x2, x3, x4, x5, x6, x7⟩ := pt_cells ha0
  simp only at x0 x1 x2 x3 x4 x5 x6
  have HB := hid' hb0
  have HA := hid' ha0
  clear ha0 hb0
  go_wp2_with fail
  refine (rfive_yes ⟨pd, pp, pc, pl, pw, po, pm, ps⟩ ao n cap H5.out _).mono ?_
  rintro e w1 ⟨rfl, hb1⟩
  have HB1 := hid' (below_two HB.out hb1)
  obtain ⟨x0, x1, x2, x3, x4, x5, x6, x7⟩ := pt_cells (HA.out.keep hb1)
  simp only at x0 x1 x2 x3 x4 x5 x6
  obtain ⟨F5, hF5⟩ : ∃ F5, Fm.five ⟨pd, pp, pc, pl, pw, po, pm, ps⟩ = F5 := ⟨_, rfl⟩
  rw [hF5]
  have hF5l : F5.length = 5 := by rw [← hF5]; simp [Fm.five, Fm.enc_length]
  have HF5 := hid' hF5
  clear hb1 hF5
  obtain ⟨y, hy⟩ : ∃ y, F5 ++ pd = y := ⟨_, rfl⟩
  have j1 := str_cat F5 pd
  rw [hy] at j1
  have HY := hid' hy
  have hsum : (9223372036854775807 < 5 + pd.length) = False := eq_false (by omega)
  clear hy
  go_wp2
  go_ret2
  exact ⟨⟨y, rfl⟩, HB1.out⟩

set_option maxHeartbeats 2000000 in
set_option maxRecDepth 20000 in
theorem rpay_hp (fl : Int) (p : Fm.Pt) (hf : 0 ≤ fl ∧ fl ≤ 255) (hd : p.data.length ≤ 140737488355328) (h32 : Fm.has fl 32 = true) (h8 : Fm.has fl 8 = false) (h5 : Fm.fiveOk p = true) : RPok 1 fl p (Fm.five p ++ p.data) := by
  intro w v hv
  obtain ⟨ao, cap, rfl⟩ := hv.shape
  obtain ⟨pd, pp, pc, pl, pw, po, pm, ps⟩ := p
  simp only at *
  obtain ⟨n, hn⟩ : ∃ n, ps.length = n := ⟨_, rfl⟩
  rw [hn]
  clear hn hv
  have H5 := hid' h5
  have q32 : (fl.tdiv 32).tmod 2 = 1 := flag32 hf.1 h32
  have e32 : wrap64 (fl.tdiv 32) = fl.tdiv 32 := wrap_div hf.1 hf.2 (by decide)
  clear h5 h32
  have q8 : (fl.tdiv 8).tmod 2 = 0 := flag8 hf.1 h8
  have e8 : wrap64 (fl.tdiv 8) = fl.tdiv 8 := wrap_div hf.1 hf.2 (by decide)
  clear h8 hf
  have hdl : pd.length ≤ 140737488355328 := hd
  clear hd
  go_enter Try.func37, Try.ntmps37
  go_wp2_with (refine wpl_box 27 _ rfl rfl (ptC ⟨pd, pp, pc, pl, pw, po, pm, ps⟩ (.slice ao n cap)) (by kernel_rfl) ?_)
  intro b w0 hg0 ha0 hb0
  obtain ⟨x0, x1, x2, x3, x4, x5, x6, x7⟩ := pt_cells ha0
  simp only at x0 x1 x2 x3 x4 x5 x6
  have HB := hid' hb0
  have HA := hid' ha0
  clear ha0 hb0
  go_wp2_with fail
  refine (rfive_yes ⟨pd, pp, pc, pl, pw, po, pm, ps⟩ ao n cap H5.out _).mono ?_
  rintro e w1 ⟨rfl, hb1⟩
  have HB1 := hid' (below_two HB.out hb1)
  obtain ⟨x0, x1, x2, x3, x4, x5, x6, x7⟩ := pt_cells (HA.out.keep hb1)
  simp only at x0 x1 x2 x3 x4 x5 x6
  obtain ⟨F5, hF5⟩ : ∃ F5, Fm.five ⟨pd, pp, pc, pl, pw, po, pm, ps⟩ = F5 := ⟨_, rfl⟩
  rw [hF5]
  have hF5l : F5.length = 5 := by rw [← hF5]; simp [Fm.five, Fm.enc_length]
  have HF5 := hid' hF5
  clear hb1 hF5
  obtain ⟨y, hy⟩ : ∃ y, F5 ++ pd = y := ⟨_, rfl⟩
  have j1 := str_cat F5 pd
  rw [hy] at j1
  have HY := hid' hy
  have hsum : (9223372036854775807 < 5 + pd.length) = False := eq_false (by omega)
  clear hy
  go_wp2
  go_ret2
  exact ⟨by rw [HF5.out, HY.out]; rfl, HB1.out⟩

theorem step_makeB {w : World} {ops : Array Oper} {o : Oper} {a : Act} {K : Act → World → Prop} {Q : Exit → Act → World → Prop} {E : Prop} (hgd : o.guard = none) (x y : Operand) (ho : o.op = .makeSlice 66 x y) (m : Nat) (hm : m ≤ 1048576) (hx : a.eval x = .int .i64 (m : Int)) (hy : a.eval y = .int .i64 (m : Int))
    (h : ∀ b w', Ar w' b 5 (byA (List.replicate m 0)) → Below w.heap.size w w' → K (a.put o.dst (.slice (some ⟨b, 0, none⟩) m m)) w') :
    if Region.wanted o (yielded ops a.tmps) = true then Oper.wp Try.prog o a w K Q else E := by
  have hw : Region.wanted o (yielded ops a.tmps) = true := by simp [Region.wanted, hgd]
  rw [if_pos hw]
  obtain ⟨i, hi, hz0, hz1, hz2⟩ := info_parts' infoByte'
  have hr := run_make (P := Try.prog) w 66 5 i (.int .u8 0) Try.underlying66 hi hz0 .i64 .i64 (m : Int) (m : Int) (by omega) (by omega) (by rw [hz2]; omega) (by omega)
  rw [hz1, Int.toNat_natCast, Nat.mul_one] at hr
  unfold Oper.wp execOp
  simp only [ho, hx, hy, Sem.run_bind, Sem.run_pure, hr, Result.andThen_ok]
  refine h _ _ ?_ ((Below.refl _ w).alloc (Nat.le_refl _) _)
  rw [byA_zero]; exact heap_alloc_last w _

end Go.Proofs.Ythbidfcfkjamdaa

namespace Go.Proofs.Ythbidfcfkjamdaa
open Go.RowKit

theorem rfits_b (n : Int) (r : Bool) (hr : Fm.fit4 n = r) (w : World) : Calls Try.prog 52 #[.int .i64 n, .int .i64 4] w fun e w' => e = .returned (.bool r) ∧ Below w.heap.size w w' :=
  (rfits_four n r hr w).mono fun _ _ ⟨h1, h2⟩ => ⟨h1, by rw [h2]; exact Below.refl _ _⟩
def Fm.pos (n : Int) : Int := max n 0

set_option maxHeartbeats 4000000 in
set_option maxRecDepth 20000 in
theorem rpay_reset (fl : Int) (p : Fm.Pt) (hc : p.code ≤ 9223372036854775807) (w : World) (v : Value) (hv : SR w v p.sets) :
    Calls Try.prog 37 #[.int .i64 3, .int .i64 fl, .agg (ptC p v)] w fun e w' => e = .returned (.tuple #[.string ⟨(Fm.enc 4 (Fm.pos p.code)).toArray⟩, .bool (Fm.fit4 p.code)]) ∧ Below w.heap.size w w' := by
  obtain ⟨ao, cap, rfl⟩ := hv.shape
  obtain ⟨pd, pp, pc, pl, pw, po, pm, ps⟩ := p
  simp only at *
  obtain ⟨n, hn⟩ : ∃ n, ps.length = n := ⟨_, rfl⟩
  rw [hn]
  clear hn hv
  obtain ⟨r, hr⟩ : ∃ r, Fm.fit4 pc = r := ⟨_, rfl⟩
  rw [hr]
  have HR := hid' hr
  obtain ⟨a, ha⟩ : ∃ a, Fm.enc 4 (max pc 0) = a := ⟨_, rfl⟩
  have hal : a.length = 4 := by rw [← ha]; exact Fm.enc_length _ _
  simp only [Fm.pos]
  rw [ha]
  have E1 : Hid (Fm.enc (Int.toNat 4) (max pc 0) = a) := hid' ha
  clear hr ha
  go_enter Try.func37, Try.ntmps37
  go_wp2_with (refine wpl_box 27 _ rfl rfl (ptC ⟨pd, pp, pc, pl, pw, po, pm, ps⟩ (.slice ao n cap)) (by kernel_rfl) ?_)
  intro b w0 hg0 ha0 hb0
  obtain ⟨x0, x1, x2, x3, x4, x5, x6, x7⟩ := pt_cells ha0
  simp only at x0 x1 x2 x3 x4 x5 x6
  have HB := hid' hb0
  have HA := hid' ha0
  clear ha0 hb0
  have hS : Below w0.heap.size w0 w0 ∧ w0.cell? ⟨b, 2, none⟩ = some (.int .i64 pc) := ⟨Below.refl _ _, x2⟩
  have sOf : ∀ W W1 : World, (Below w0.heap.size w0 W ∧ W.cell? ⟨b, 2, none⟩ = some (.int .i64 pc)) → Below W.heap.size W W1 → (Below w0.heap.size w0 W1 ∧ W1.cell? ⟨b, 2, none⟩ = some (.int .i64 pc)) := fun W W1 h hb => ⟨below_two h.1 hb, (pt_cells (HA.out.keep (below_two h.1 hb))).2.2.1⟩
  clear x0 x1 x2 x3 x4 x5 x6 x7
  go_upto_region 16 with fail
  go_region_held3 (fun W => Below w0.heap.size w0 W ∧ W.cell? ⟨b, 2, none⟩ = some (.int .i64 pc))
    (first | assumption | exact sOf _ _ (by assumption) (by assumption) | exact sOf _ _ (by assumption) ((Below.refl _ _).drew))
    (first | (go_at_call 50; refine (rwritten_any _ _ ?_ ?_ ?_ _).mono ?_; omega; omega; omega; rintro e w5 ⟨rfl, hb5⟩; rw [E1.out]) | (go_at_call 52; refine (rfits_b pc r HR.out _).mono ?_; rintro e w5 ⟨rfl, hb5⟩))
  all_goals
    have HBB : Hid (Below w.heap.size w w5) := hid' (below_two HB.out (And.left (by assumption : Below w0.heap.size w0 w5 ∧ w5.cell? ⟨b, 2, none⟩ = some (.int .i64 pc))))
    clear hb5 sOf hS
    go_wp2
    go_ret2
    exact ⟨rfl, HBB.out⟩

set_option maxHeartbeats 4000000 in
set_option maxRecDepth 20000 in
theorem rpay_window (fl : Int) (p : Fm.Pt) (hc : p.more ≤ 9223372036854775807) (w : World) (v : Value) (hv : SR w v p.sets) :
    Calls Try.prog 37 #[.int .i64 8, .int .i64 fl, .agg (ptC p v)] w fun e w' => e = .returned (.tuple #[.string ⟨(Fm.enc 4 (Fm.pos p.more)).toArray⟩, .bool (Fm.fit4 p.more)]) ∧ Below w.heap.size w w' := by
  obtain ⟨ao, cap, rfl⟩ := hv.shape
  obtain ⟨pd, pp, pc, pl, pw, po, pm, ps⟩ := p
  simp only at *
  obtain ⟨n, hn⟩ : ∃ n, ps.length = n := ⟨_, rfl⟩
  rw [hn]
  clear hn hv
  obtain ⟨r, hr⟩ : ∃ r, Fm.fit4 pm = r := ⟨_, rfl⟩
  rw [hr]
  have HR := hid' hr
  obtain ⟨a, ha⟩ : ∃ a, Fm.enc 4 (max pm 0) = a := ⟨_, rfl⟩
  have hal : a.length = 4 := by rw [← ha]; exact Fm.enc_length _ _
  simp only [Fm.pos]
  rw [ha]
  have E1 : Hid (Fm.enc (Int.toNat 4) (max pm 0) = a) := hid' ha
  clear hr ha
  go_enter Try.func37, Try.ntmps37
  go_wp2_with (refine wpl_box 27 _ rfl rfl (ptC ⟨pd, pp, pc, pl, pw, po, pm, ps⟩ (.slice ao n cap)) (by kernel_rfl) ?_)
  intro b w0 hg0 ha0 hb0
  obtain ⟨x0, x1, x2, x3, x4, x5, x6, x7⟩ := pt_cells ha0
  simp only at x0 x1 x2 x3 x4 x5 x6
  have HB := hid' hb0
  have HA := hid' ha0
  clear ha0 hb0
  have hS : Below w0.heap.size w0 w0 ∧ w0.cell? ⟨b, 6, none⟩ = some (.int .i64 pm) := ⟨Below.refl _ _, x6⟩
  have sOf : ∀ W W1 : World, (Below w0.heap.size w0 W ∧ W.cell? ⟨b, 6, none⟩ = some (.int .i64 pm)) → Below W.heap.size W W1 → (Below w0.heap.size w0 W1 ∧ W1.cell? ⟨b, 6, none⟩ = some (.int .i64 pm)) := fun W W1 h hb => ⟨below_two h.1 hb, (pt_cells (HA.out.keep (below_two h.1 hb))).2.2.2.2.2.2.1⟩
  clear x0 x1 x2 x3 x4 x5 x6 x7
  go_upto_region 33 with fail
  go_region_held3 (fun W => Below w0.heap.size w0 W ∧ W.cell? ⟨b, 6, none⟩ = some (.int .i64 pm))
    (first | assumption | exact sOf _ _ (by assumption) (by assumption) | exact sOf _ _ (by assumption) ((Below.refl _ _).drew))
    (first | (go_at_call 50; refine (rwritten_any _ _ ?_ ?_ ?_ _).mono ?_; omega; omega; omega; rintro e w5 ⟨rfl, hb5⟩; rw [E1.out]) | (go_at_call 52; refine (rfits_b pm r HR.out _).mono ?_; rintro e w5 ⟨rfl, hb5⟩))
  all_goals
    have HBB : Hid (Below w.heap.size w w5) := hid' (below_two HB.out (And.left (by assumption : Below w0.heap.size w0 w5 ∧ w5.cell? ⟨b, 6, none⟩ = some (.int .i64 pm))))
    clear hb5 sOf hS
    go_wp2
    go_ret2
    exact ⟨rfl, HBB.out⟩

set_option maxHeartbeats 4000000 in
set_option maxRecDepth 20000 in
theorem rpay_update (fl : Int) (p : Fm.Pt) (hc : p.last ≤ 9223372036854775807) (hd : p.data.length ≤ 140737488355328) (w : World) (v : Value) (hv : SR w v p.sets) :
    Calls Try.prog 37 #[.int .i64 16, .int .i64 fl, .agg (ptC p v)] w fun e w' => e = .returned (.tuple #[.string ⟨(Fm.enc 4 (Fm.pos p.last) ++ p.data).toArray⟩, .bool (Fm.fit4 p.last)]) ∧ Below w.heap.size w w' := by
  obtain ⟨ao, cap, rfl⟩ := hv.shape
  obtain ⟨pd, pp, pc, pl, pw, po, pm, ps⟩ := p
  simp only at *
  obtain ⟨n, hn⟩ : ∃ n, ps.length = n := ⟨_, rfl⟩
  rw [hn]
  clear hn hv
  obtain ⟨r, hr⟩ : ∃ r, Fm.fit4 pl = r := ⟨_, rfl⟩
  rw [hr]
  have HR := hid' hr
  obtain ⟨a, ha⟩ : ∃ a, Fm.enc 4 (max pl 0) = a := ⟨_, rfl⟩
  have hal : a.length = 4 := by rw [← ha]; exact Fm.enc_length _ _
  simp only [Fm.pos]
  rw [ha]
  have E1 : Hid (Fm.enc (Int.toNat 4) (max pl 0) = a) := hid' ha
  obtain ⟨s1, hs1⟩ : ∃ s, a ++ pd = s := ⟨_, rfl⟩
  have j1 := str_cat a pd
  rw [hs1] at j1
  rw [hs1]
  have hsum1 : (9223372036854775807 < 4 + pd.length) = False := eq_false (by omega)
  clear hs1
  clear hr ha
  go_enter Try.func37, Try.ntmps37
  go_wp2_with (refine wpl_box 27 _ rfl rfl (ptC ⟨pd, pp, pc, pl, pw, po, pm, ps⟩ (.slice ao n cap)) (by kernel_rfl) ?_)
  intro b w0 hg0 ha0 hb0
  obtain ⟨x0, x1, x2, x3, x4, x5, x6, x7⟩ := pt_cells ha0
  simp only at x0 x1 x2 x3 x4 x5 x6
  have HB := hid' hb0
  have HA := hid' ha0
  clear ha0 hb0
  have hS : Below w0.heap.size w0 w0 ∧ w0.cell? ⟨b, 3, none⟩ = some (.int .i64 pl) ∧ w0.cell? ⟨b, 0, none⟩ = some (.string ⟨pd.toArray⟩) := ⟨Below.refl _ _, x3, x0⟩
  have sOf : ∀ W W1 : World, (Below w0.heap.size w0 W ∧ W.cell? ⟨b, 3, none⟩ = some (.int .i64 pl) ∧ W.cell? ⟨b, 0, none⟩ = some (.string ⟨pd.toArray⟩)) → Below W.heap.size W W1 → (Below w0.heap.size w0 W1 ∧ W1.cell? ⟨b, 3, none⟩ = some (.int .i64 pl) ∧ W1.cell? ⟨b, 0, none⟩ = some (.string ⟨pd.toArray⟩)) := fun W W1 h hb => ⟨below_two h.1 hb, (pt_cells (HA.out.keep (below_two h.1 hb))).2.2.2.1, (pt_cells (HA.out.keep (below_two h.1 hb))).1⟩
  clear x0 x1 x2 x3 x4 x5 x6 x7
  go_upto_region 35 with fail
  go_region_held3 (fun W => Below w0.heap.size w0 W ∧ W.cell? ⟨b, 3, none⟩ = some (.int .i64 pl) ∧ W.cell? ⟨b, 0, none⟩ = some (.string ⟨pd.toArray⟩))
    (first | assumption | exact sOf _ _ (by assumption) (by assumption) | exact sOf _ _ (by assumption) ((Below.refl _ _).drew))
    (first | (go_at_call 50; refine (rwritten_any _ _ ?_ ?_ ?_ _).mono ?_; omega; omega; omega; rintro e w5 ⟨rfl, hb5⟩; rw [E1.out]) | (go_at_call 52; refine (rfits_b pl r HR.out _).mono ?_; rintro e w5 ⟨rfl, hb5⟩))
  all_goals
    have HBB : Hid (Below w.heap.size w w5) := hid' (below_two HB.out (And.left (by assumption : Below w0.heap.size w0 w5 ∧ w5.cell? ⟨b, 3, none⟩ = some (.int .i64 pl) ∧ w5.cell? ⟨b, 0, none⟩ = some (.string ⟨pd.toArray⟩))))
    clear hb5 sOf hS
    go_wp2
    go_ret2
    exact ⟨rfl, HBB.out⟩

end Go.Proofs.Ythbidfcfkjamdaa

namespace Go.Proofs.Ythbidfcfkjamdaa
open Go.RowKit

section
variable {P : Program} {md : Region.Mode} {ops : Array Oper} {Q : Exit → Act → World → Prop} {S : World → Prop}
/-- An operation is taken first, its slot written out. -/
theorem take_d {i : Nat} {oi : Oper} {d : Option Tmp} {v : Value} {fuel : Nat} {listed : Array Bool} {a : Act} {w : World} (hi : ops[i]? = some oi) (hd : oi.dst = d)
    (hs : Region.noSelect ops = true) (hf : Region.free md ops listed i = true) (hr : (Region.ready md ops listed).contains i = true)
    (hQ : ∀ c a w, Q (.panic c) (a.put d v) w → Q (.panic c) a w) (hy : YieldsIf P ops S oi v a) (hS : S w)
    (h : wpAnyH P md ops Q S fuel (listed.setIfInBounds i true) (a.put d v) w) : wpAnyH P md ops Q S (fuel + 1) listed a w := by
  subst hd
  exact wpAnyH_take hi hs hf hr hQ hy hS h
end

set_option maxHeartbeats 4000000 in
set_option maxRecDepth 20000 in
theorem rpay_away_no (fl : Int) (p : Fm.Pt) (hc : p.code ≤ 9223372036854775807) (hl : p.last ≤ 9223372036854775807) (hd : p.data.length ≤ 140737488355328) (hfl : Fm.fit4 p.last = false) (w : World) (v : Value) (hv : SR w v p.sets) :
    Calls Try.prog 37 #[.int .i64 7, .int .i64 fl, .agg (ptC p v)] w fun e w' => e = .returned (.tuple #[.string ⟨((Fm.enc 4 (Fm.pos p.last) ++ Fm.enc 4 (Fm.pos p.code)) ++ p.data).toArray⟩, .bool (false)]) ∧ Below w.heap.size w w' := by
  obtain ⟨ao, cap, rfl⟩ := hv.shape
  obtain ⟨pd, pp, pc, pl, pw, po, pm, ps⟩ := p
  simp only at *
  obtain ⟨n, hn⟩ : ∃ n, ps.length = n := ⟨_, rfl⟩
  rw [hn]
  clear hn hv
  obtain ⟨r, hr⟩ : ∃ r, Fm.fit4 pc = r := ⟨_, rfl⟩
  have HR := hid' hr
  have HR2 := hid' hfl
  obtain ⟨a, ha⟩ : ∃ a, Fm.enc 4 (max pl 0) = a := ⟨_, rfl⟩
  obtain ⟨c, hcc⟩ : ∃ a, Fm.enc 4 (max pc 0) = a := ⟨_, rfl⟩
  have hal : a.length = 4 := by rw [← ha]; exact Fm.enc_length _ _
  have hcl : c.length = 4 := by rw [← hcc]; exact Fm.enc_length _ _
  simp only [Fm.pos]
  rw [ha, hcc]
  have E1 : Hid (Fm.enc (Int.toNat 4) (max pl 0) = a) := hid' ha
  have E2 : Hid (Fm.enc (Int.toNat 4) (max pc 0) = c) := hid' hcc
  obtain ⟨s1, hs1⟩ : ∃ s, a ++ c = s := ⟨_, rfl⟩
  obtain ⟨s2, hs2⟩ : ∃ s, s1 ++ pd = s := ⟨_, rfl⟩
  have j1 := str_cat a c
  have j2 := str_cat s1 pd
  rw [hs1] at j1
  rw [hs2] at j2
  rw [hs1, hs2]
  have hl1 : s1.length = 8 := by rw [← hs1, List.length_append]; omega
  have hsum1 : (9223372036854775807 < 8 + pd.length) = False := eq_false (by omega)
  clear hr ha hcc hs1 hs2 hfl
  go_enter Try.func37, Try.ntmps37
  go_wp2_with (refine wpl_box 27 _ rfl rfl (ptC ⟨pd, pp, pc, pl, pw, po, pm, ps⟩ (.slice ao n cap)) (by kernel_rfl) ?_)
  intro b w0 hg0 ha0 hb0
  obtain ⟨x0, x1, x2, x3, x4, x5, x6, x7⟩ := pt_cells ha0
  simp only at x0 x1 x2 x3 x4 x5 x6
  have HB := hid' hb0
  have HA := hid' ha0
  clear ha0 hb0
  have hS : Below w0.heap.size w0 w0 ∧ w0.cell? ⟨b, 2, none⟩ = some (.int .i64 pc) ∧ w0.cell? ⟨b, 3, none⟩ = some (.int .i64 pl) ∧ w0.cell? ⟨b, 0, none⟩ = some (.string ⟨pd.toArray⟩) := ⟨Below.refl _ _, x2, x3, x0⟩
  have sOf : ∀ W W1 : World, (Below w0.heap.size w0 W ∧ W.cell? ⟨b, 2, none⟩ = some (.int .i64 pc) ∧ W.cell? ⟨b, 3, none⟩ = some (.int .i64 pl) ∧ W.cell? ⟨b, 0, none⟩ = some (.string ⟨pd.toArray⟩)) → Below W.heap.size W W1 → (Below w0.heap.size w0 W1 ∧ W1.cell? ⟨b, 2, none⟩ = some (.int .i64 pc) ∧ W1.cell? ⟨b, 3, none⟩ = some (.int .i64 pl) ∧ W1.cell? ⟨b, 0, none⟩ = some (.string ⟨pd.toArray⟩)) := fun W W1 h hb => ⟨below_two h.1 hb, (pt_cells (HA.out.keep (below_two h.1 hb))).2.2.1, (pt_cells (HA.out.keep (below_two h.1 hb))).2.2.2.1, (pt_cells (HA.out.keep (below_two h.1 hb))).1⟩
  clear x0 x1 x2 x3 x4 x5 x6 x7
  go_upto_region 31 with fail
  refine wp_region_held_drew (S := fun W => Below w0.heap.size w0 W ∧ W.cell? ⟨b, 2, none⟩ = some (.int .i64 pc) ∧ W.cell? ⟨b, 3, none⟩ = some (.int .i64 pl) ∧ W.cell? ⟨b, 0, none⟩ = some (.string ⟨pd.toArray⟩)) (by kernel_rfl) (sOf _ _ (by assumption) ((Below.refl _ _).drew)) (fun hHeld => ?_)
  refine take_d (i := 0) (d := some 128) (v := ?_) rfl rfl (by kernel_rfl) (by kernel_rfl) (by kernel_rfl) (fun _ _ _ h => h) (Or.inl ⟨by rfl, ?_⟩) (by assumption) ?_
  rotate_left
  · intro w hSw
    (try dsimp only at hSw)
    go_simp
    try with_reducible rfl
  simp only [Act.put, List.setIfInBounds_toArray, List.set_cons_zero, List.set_cons_succ]
  refine take_d (i := 1) (d := some 129) (v := ?_) rfl rfl (by kernel_rfl) (by kernel_rfl) (by kernel_rfl) (fun _ _ _ h => h) (Or.inl ⟨by rfl, ?_⟩) (by assumption) ?_
  rotate_left
  · intro w hSw
    (try dsimp only at hSw)
    go_simp
    try with_reducible rfl
  simp only [Act.put, List.setIfInBounds_toArray, List.set_cons_zero, List.set_cons_succ]
  refine take_d (i := 2) (d := some 130) (v := ?_) rfl rfl (by kernel_rfl) (by kernel_rfl) (by kernel_rfl) (fun _ _ _ h => h) (Or.inl ⟨by rfl, ?_⟩) (by assumption) ?_
  rotate_left
  · intro w hSw
    (try dsimp only at hSw)
    go_simp
    try with_reducible rfl
  simp only [Act.put, List.setIfInBounds_toArray, List.set_cons_zero, List.set_cons_succ]
  refine take_d (i := 4) (d := some 132) (v := ?_) rfl rfl (by kernel_rfl) (by kernel_rfl) (by kernel_rfl) (fun _ _ _ h => h) (Or.inl ⟨by rfl, ?_⟩) (by assumption) ?_
  rotate_left
  · intro w hSw
    (try dsimp only at hSw)
    go_simp
    try with_reducible rfl
  simp only [Act.put, List.setIfInBounds_toArray, List.set_cons_zero, List.set_cons_succ]
  refine take_d (i := 5) (d := some 133) (v := ?_) rfl rfl (by kernel_rfl) (by kernel_rfl) (by kernel_rfl) (fun _ _ _ h => h) (Or.inl ⟨by rfl, ?_⟩) (by assumption) ?_
  rotate_left
  · intro w hSw
    (try dsimp only at hSw)
    go_simp
    try with_reducible rfl
  simp only [Act.put, List.setIfInBounds_toArray, List.set_cons_zero, List.set_cons_succ]
  refine take_d (i := 6) (d := some 134) (v := ?_) rfl rfl (by kernel_rfl) (by kernel_rfl) (by kernel_rfl) (fun _ _ _ h => h) (Or.inl ⟨by rfl, ?_⟩) (by assumption) ?_
  rotate_left
  · intro w hSw
    (try dsimp only at hSw)
    go_simp
    try with_reducible rfl
  simp only [Act.put, List.setIfInBounds_toArray, List.set_cons_zero, List.set_cons_succ]
  refine take_d (i := 9) (d := some 137) (v := ?_) rfl rfl (by kernel_rfl) (by kernel_rfl) (by kernel_rfl) (fun _ _ _ h => h) (Or.inl ⟨by rfl, ?_⟩) (by assumption) ?_
  rotate_left
  · intro w hSw
    (try dsimp only at hSw)
    go_simp
    try with_reducible rfl
  simp only [Act.put, List.setIfInBounds_toArray, List.set_cons_zero, List.set_cons_succ]
  refine take_d (i := 10) (d := some 138) (v := ?_) rfl rfl (by kernel_rfl) (by kernel_rfl) (by kernel_rfl) (fun _ _ _ h => h) (Or.inl ⟨by rfl, ?_⟩) (by assumption) ?_
  rotate_left
  · intro w hSw
    (try dsimp only at hSw)
    go_simp
    try with_reducible rfl
  simp only [Act.put, List.setIfInBounds_toArray, List.set_cons_zero, List.set_cons_succ]
  refine take_d (i := 12) (d := some 140) (v := ?_) rfl rfl (by kernel_rfl) (by kernel_rfl) (by kernel_rfl) (fun _ _ _ h => h) (Or.inl ⟨by rfl, ?_⟩) (by assumption) ?_
  rotate_left
  · intro w hSw
    (try dsimp only at hSw)
    go_simp
    try with_reducible rfl
  simp only [Act.put, List.setIfInBounds_toArray, List.set_cons_zero, List.set_cons_succ]
  refine take_d (i := 13) (d := some 141) (v := ?_) rfl rfl (by kernel_rfl) (by kernel_rfl) (by kernel_rfl) (fun _ _ _ h => h) (Or.inl ⟨by rfl, ?_⟩) (by assumption) ?_
  rotate_left
  · intro w hSw
    (try dsimp only at hSw)
    go_simp
    try with_reducible rfl
  simp only [Act.put, List.setIfInBounds_toArray, List.set_cons_zero, List.set_cons_succ]
  refine wpAnyH_ready (rs := [3]) (by kernel_rfl) (by simp) ?_
  refine AllReadyH.cons (o := { dst := some 131, op := Op.call { callee := Callee.value (Operand.func 50), args := #[Operand.tmp 130, Operand.const (Value.int IntKind.i64 4)], argTypes := #[3, 3] }, type := 9, pos := "ref.go:272", after := #[{ on := 2, ground := Ground.data }], guard := none }) rfl (fun K hK => ?_) AllReadyH.nil
  go_simp
  refine (rwritten_any _ _ ?_ ?_ ?_ _).mono ?_; omega; omega; omega; rintro e w5 ⟨rfl, hb5⟩; rw [E1.out]
  go_wp2_with fail
  refine hK.out _ _ (sOf _ _ (by assumption) (by assumption)) (fun hHeld => ?_)
  clear hK K
  try simp only [Act.put, List.setIfInBounds_toArray, List.set_cons_zero, List.set_cons_succ]
  refine wpAnyH_ready (rs := [7]) (by kernel_rfl) (by simp) ?_
  refine AllReadyH.cons (o := { dst := some 135, op := Op.call { callee := Callee.value (Operand.func 50), args := #[Operand.tmp 134, Operand.const (Value.int IntKind.i64 4)], argTypes := #[3, 3] }, type := 9, pos := "ref.go:272", after := #[{ on := 6, ground := Ground.data }, { on := 3, ground := Ground.chain }], guard := none }) rfl (fun K hK => ?_) AllReadyH.nil
  go_simp
  refine (rwritten_any _ _ ?_ ?_ ?_ _).mono ?_; omega; omega; omega; rintro e w5 ⟨rfl, hb5⟩; rw [E2.out]
  go_wp2_with fail
  refine hK.out _ _ (sOf _ _ (by assumption) (by assumption)) (fun hHeld => ?_)
  clear hK K
  try simp only [Act.put, List.setIfInBounds_toArray, List.set_cons_zero, List.set_cons_succ]
  refine take_d (i := 8) (d := some 136) (v := ?_) rfl rfl (by kernel_rfl) (by kernel_rfl) (by kernel_rfl) (fun _ _ _ h => h) (Or.inl ⟨by rfl, ?_⟩) (by assumption) ?_
  rotate_left
  · intro w hSw
    (try dsimp only at hSw)
    go_simp
    try with_reducible rfl
  simp only [Act.put, List.setIfInBounds_toArray, List.set_cons_zero, List.set_cons_succ]
  refine take_d (i := 11) (d := some 139) (v := ?_) rfl rfl (by kernel_rfl) (by kernel_rfl) (by kernel_rfl) (fun _ _ _ h => h) (Or.inl ⟨by rfl, ?_⟩) (by assumption) ?_
  rotate_left
  · intro w hSw
    (try dsimp only at hSw)
    go_simp
    try with_reducible rfl
  simp only [Act.put, List.setIfInBounds_toArray, List.set_cons_zero, List.set_cons_succ]
  refine wpAnyH_ready (rs := [14]) (by kernel_rfl) (by simp) ?_
  refine AllReadyH.cons (o := { dst := some 142, op := Op.call { callee := Callee.value (Operand.func 52), args := #[Operand.tmp 141, Operand.const (Value.int IntKind.i64 4)], argTypes := #[3, 3] }, type := 4, pos := "ref.go:272", after := #[{ on := 13, ground := Ground.data }, { on := 7, ground := Ground.chain }], guard := none }) rfl (fun K hK => ?_) AllReadyH.nil
  go_simp
  refine (rfits_b _ _ HR2.out _).mono ?_; rintro e w5 ⟨rfl, hb5⟩
  go_wp2_with fail
  refine hK.out _ _ (sOf _ _ (by assumption) (by assumption)) (fun hHeld => ?_)
  clear hK K
  try simp only [Act.put, List.setIfInBounds_toArray, List.set_cons_zero, List.set_cons_succ]
  refine take_d (i := 15) (d := some 143) (v := ?_) rfl rfl (by kernel_rfl) (by kernel_rfl) (by kernel_rfl) (fun _ _ _ h => h) (Or.inl ⟨by rfl, ?_⟩) (by assumption) ?_
  rotate_left
  · intro w hSw
    (try dsimp only at hSw)
    go_simp
    try with_reducible rfl
  simp only [Act.put, List.setIfInBounds_toArray, List.set_cons_zero, List.set_cons_succ]
  refine take_d (i := 16) (d := some 144) (v := undef) rfl rfl (by kernel_rfl) (by kernel_rfl) (by kernel_rfl) (fun _ _ _ h => h) (Or.inr ⟨by rfl, rfl⟩) (by assumption) ?_
  simp only [Act.put, List.setIfInBounds_toArray, List.set_cons_zero, List.set_cons_succ]
  refine take_d (i := 17) (d := some 145) (v := undef) rfl rfl (by kernel_rfl) (by kernel_rfl) (by kernel_rfl) (fun _ _ _ h => h) (Or.inr ⟨by rfl, rfl⟩) (by assumption) ?_
  simp only [Act.put, List.setIfInBounds_toArray, List.set_cons_zero, List.set_cons_succ]
  refine take_d (i := 18) (d := some 146) (v := undef) rfl rfl (by kernel_rfl) (by kernel_rfl) (by kernel_rfl) (fun _ _ _ h => h) (Or.inr ⟨by rfl, rfl⟩) (by assumption) ?_
  simp only [Act.put, List.setIfInBounds_toArray, List.set_cons_zero, List.set_cons_succ]
  refine take_d (i := 19) (d := some 147) (v := ?_) rfl rfl (by kernel_rfl) (by kernel_rfl) (by kernel_rfl) (fun _ _ _ h => h) (Or.inl ⟨by rfl, ?_⟩) (by assumption) ?_
  rotate_left
  · intro w hSw
    (try dsimp only at hSw)
    go_simp
    try with_reducible rfl
  simp only [Act.put, List.setIfInBounds_toArray, List.set_cons_zero, List.set_cons_succ]
  refine take_d (i := 20) (d := some 6) (v := ?_) rfl rfl (by kernel_rfl) (by kernel_rfl) (by kernel_rfl) (fun _ _ _ h => h) (Or.inl ⟨by rfl, ?_⟩) (by assumption) ?_
  rotate_left
  · intro w hSw
    (try dsimp only at hSw)
    go_simp
    try with_reducible rfl
  simp only [Act.put, List.setIfInBounds_toArray, List.set_cons_zero, List.set_cons_succ]
  refine take_d (i := 21) (d := some 7) (v := ?_) rfl rfl (by kernel_rfl) (by kernel_rfl) (by kernel_rfl) (fun _ _ _ h => h) (Or.inl ⟨by rfl, ?_⟩) (by assumption) ?_
  rotate_left
  · intro w hSw
    (try dsimp only at hSw)
    go_simp
    try with_reducible rfl
  simp only [Act.put, List.setIfInBounds_toArray, List.set_cons_zero, List.set_cons_succ]
  refine wpAnyH_done (by kernel_rfl) ?_ _
  all_goals
    have HBB : Hid (Below w.heap.size w w5) := hid' (below_two HB.out (And.left (by assumption : Below w0.heap.size w0 w5 ∧ w5.cell? ⟨b, 2, none⟩ = some (.int .i64 pc) ∧ w5.cell? ⟨b, 3, none⟩ = some (.int .i64 pl) ∧ w5.cell? ⟨b, 0, none⟩ = some (.string ⟨pd.toArray⟩))))
    clear hb5 sOf hS
    go_wp2
    go_ret2
    exact ⟨rfl, HBB.out⟩

end Go.Proofs.Ythbidfcfkjamdaa
