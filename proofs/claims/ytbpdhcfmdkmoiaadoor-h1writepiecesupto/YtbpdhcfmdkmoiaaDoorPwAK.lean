/-
  The code's isPlain, isOfHead, Trailers, text.Same, decimal, Length: by their contracts.
-/
import Derived.Deep.CutRange
import Derived.Test.YtbpdhcfmdkmoiaaDoorPwAI
import Derived.Test.YtbpdhcfmdkmoiaaDoorPwAJ
namespace Go.Proofs.YtbpdhcfmdkmoiaaDoor
open Go.RowKit

/-- What a world holds of the library's variables. -/
def TB (w : World) : Prop := Lib.TabIs Tryd.prog w "internal/strconv.uint64pow10" .u64 Lib.pow10Tab ∧ ∃ m, w.cell? ⟨1, 0, none⟩ = some (.int .i64 m)
theorem cell_lt {w : World} {a : Addr} {v : Value} (h : w.cell? a = some v) : a.block < w.heap.size := by
  unfold World.cell? at h
  cases hq : w.heap[a.block]? with
  | none => rw [hq] at h; simp at h
  | some o => exact (Array.getElem?_eq_some_iff.1 hq).1
theorem TB.keep {w w' : World} (h : TB w) (hb : Below w.heap.size w w') : TB w' := by
  obtain ⟨h1, m, h2⟩ := h
  exact ⟨tab_below h1 hb, m, (hb.cell (cell_lt h2)).trans h2⟩

set_option maxHeartbeats 1000000 in
theorem csame14 (a b : ByteArray) (r : Bool) (hr : (Tx.lower a.data.toList == Tx.lower b.data.toList) = r) (w : World) (ha : a.size ≤ 140737488355328) (hb : b.size ≤ 140737488355328) :
    Calls Tryd.prog 45 #[.string a, .string b] w fun e w' => e = .returned (.bool r) ∧ Below w.heap.size w w' := by
  obtain ⟨y, hy⟩ : ∃ y : ByteArray, (⟨(Tx.lower a.data.toList).toArray⟩ : ByteArray) = y := ⟨_, rfl⟩
  obtain ⟨z, hz⟩ : ∃ z : ByteArray, (⟨(Tx.lower b.data.toList).toArray⟩ : ByteArray) = z := ⟨_, rfl⟩
  have HR : Hid ((y.toList == z.toList) = r) := hid' (by rw [← hr, ← hy, ← hz, ba_list, ba_list])
  clear hr
  go_enter Tryd.func45, Tryd.ntmps45
  go_wp2_with fail
  refine (lower_any a _ (by unfold maxLen; omega)).mono ?_
  rintro e w1 ⟨rfl, hb1⟩
  rw [hy]
  have HB1 := hid' hb1
  clear hb1 hy
  go_wp2_with fail
  refine (lower_any b _ (by unfold maxLen; omega)).mono ?_
  rintro e w2 ⟨rfl, hb2⟩
  rw [hz]
  have HB2 := hid' (below_two HB1.out hb2)
  clear hb2 hz
  go_wp2
  go_ret
  exact ⟨by rw [← HR.out]; rfl, HB2.out⟩

theorem num_bd (l : List UInt8) : 0 ≤ (Tx.num 10 l).1 ∧ (Tx.num 10 l).1 ≤ 9223372036854775807 := by
  unfold Tx.num
  split
  · exact ⟨by decide, by decide⟩
  · split
    · exact ⟨by decide, by decide⟩
    · rename_i h
      rw [Tx.top_eq] at h
      exact ⟨Tx.numv_nonneg 10 (by decide) l, by simp only; omega⟩

set_option maxHeartbeats 2000000 in
set_option maxRecDepth 20000 in
theorem cdec14 (x : ByteArray) (d : Bool) (hd : Ms.dec x = d) (w : World) (hx : x.size ≤ 140737488355328) (hT : TB w) :
    Calls Tryd.prog 46 #[.string x] w fun e w' => e = .returned (.tuple #[.int .i64 (Tx.num 10 x.data.toList).1, .bool d]) ∧ Below w.heap.size w w' := by
  have hbd := num_bd x.data.toList
  obtain ⟨n, hn⟩ : ∃ n, (Tx.num 10 x.data.toList).1 = n := ⟨_, rfl⟩
  obtain ⟨er, her⟩ : ∃ er, (Tx.num 10 x.data.toList).2 = er := ⟨_, rfl⟩
  have HNM : Hid (∀ W, Calls Tryd.prog 64 #[.string x] W fun e w' => e = .returned (.tuple #[.int .i64 n, .int .i64 er]) ∧ w' = W) := hid' (fun W => by have := number_any x W (by unfold maxLen; omega); rwa [hn, her] at this)
  rw [hn] at hbd ⊢
  have HD := hid' hd
  have HTB := hid' hT
  have HBD := hid' hbd
  have hyes : d = true → er = 0 ∧ x.size ≤ 15 ∧ Lib.itoa n = Ms.tx x := by
    intro e
    rw [e] at hd
    obtain ⟨u, h1, h2, h3⟩ := Ms.dec_num hd
    have hs : x.size ≤ 15 := by
      rw [Ms.dec_eq] at hd
      simp only [Bool.and_eq_true, decide_eq_true_eq] at hd
      exact hd.1.1.2
    unfold Ms.tx at h1 h2 ⊢
    rw [h1] at hn her
    simp only at hn her
    exact ⟨her.symm, hs, by rw [← hn, Lib.itoa_nonneg]; exact h2⟩
  have hno : er = 0 → x.size ≤ 15 → Lib.itoa n = Ms.tx x → d = true := by
    intro e1 e2 e3
    rw [← hd]
    unfold Ms.tx at e3
    refine Ms.dec_of (by unfold Ms.tx; rw [her]; exact e1) e2 ?_
    unfold Ms.tx
    rw [hn]; exact e3
  have HY := hid' hyes
  have HNO := hid' hno
  clear hd hT hbd hn her hyes hno
  cases c1 : (er == 0)
  · have HF : Hid (d = false) := hid' (by cases d with | false => rfl | true => have := (HY.out rfl).1; rw [this] at c1; simp at c1)
    go_enter Tryd.func46, Tryd.ntmps46
    go_wp2_with fail
    refine (HNM.out _).mono ?_
    rintro e w1 ⟨rfl, hw⟩
    subst w1
    go_wp2
    go_ret2
    exact ⟨by rw [HF.out]; rfl, Below.refl _ _⟩
  by_cases h15 : x.size ≤ 15
  · have h15' : (x.size : Int) ≤ 15 := by omega
    obtain ⟨y, hy⟩ : ∃ y : ByteArray, (⟨(Lib.itoa n).toArray⟩ : ByteArray) = y := ⟨_, rfl⟩
    have HF : Hid (d = (y.toList == x.toList)) := hid' (by
      have h0 : er = 0 := beq_iff_eq.1 c1
      rw [← hy, ba_list, Lib.toList_data]
      cases d with
      | false =>
        symm
        apply beq_false_of_ne
        intro e
        exact absurd (HNO.out h0 h15 e) (by decide)
      | true =>
        have := (HY.out rfl).2.2
        symm
        rw [beq_iff_eq]
        exact this)
    go_enter Tryd.func46, Tryd.ntmps46
    go_wp2_with fail
    refine (HNM.out _).mono ?_
    rintro e w1 ⟨rfl, hw⟩
    subst w1
    go_wp2_with fail
    refine (decimal_any n (by have := HBD.out.1; omega) HBD.out.2 _ HTB.out.1).mono ?_
    rintro e w1 ⟨rfl, hb⟩
    rw [hy]
    have HB := hid' hb
    clear hb hy
    go_wp2
    go_ret2
    exact ⟨by rw [HF.out]; rfl, HB.out⟩
  · have h15' : ¬ (x.size : Int) ≤ 15 := by omega
    have HF : Hid (d = false) := hid' (by cases d with | false => rfl | true => exact absurd (HY.out rfl).2.1 h15)
    go_enter Tryd.func46, Tryd.ntmps46
    go_wp2_with fail
    refine (HNM.out _).mono ?_
    rintro e w1 ⟨rfl, hw⟩
    subst w1
    go_wp2
    go_ret2
    exact ⟨by rw [HF.out]; rfl, Below.refl _ _⟩

namespace Ms
/-- The length that was said so far. -/
def lenN (has : Bool) (v : ByteArray) : Int := if has then (Tx.num 10 v.data.toList).1 else 0
end Ms

set_option maxHeartbeats 2000000 in
set_option maxRecDepth 20000 in
theorem clen14 (v : Value) (l : List Fd) (o : Option (Option ByteArray)) (ho : Ms.lenGo none l = o) (w : World) (h : FW w v l) (hT : TB w) (hl : l.length ≤ 1048576) (hs : ∀ f ∈ l, f.n.size ≤ 140737488355328 ∧ f.v.size ≤ 140737488355328) :
    Calls Tryd.prog 24 #[v] w fun e w' => e = .returned (Ms.lenV o) ∧ Below w.heap.size w w' := by
  obtain ⟨ao, cap, hv⟩ := h.shape
  subst hv
  obtain ⟨n, hn⟩ : ∃ n, l.length = n := ⟨_, rfl⟩
  rw [hn] at h hl ⊢
  have H := hid' h
  have HN := hid' hn
  have HS := hid' hs
  have HO := hid' ho
  have HTB := hid' hT
  clear h hn hs ho hT
  go_enter Tryd.func24, Tryd.ntmps24
  go_wp2
  go_loopw [5, 6, 13] (fun s5 s6 s13 wr => ∃ (k : Nat) (has : Bool) (val : ByteArray) (len : Int), s13 = .int .i64 (k : Int) ∧ s6 = .bool has ∧ s5 = .int .i64 len ∧ k ≤ n ∧ Hid (len = Ms.lenN has val) ∧ Hid (has = true → Ms.dec val = true) ∧ Hid (Ms.lenGo (Ms.opt has val) (l.drop k) = o) ∧ Hid (Below w.heap.size w wr)) (fun _ _ s13 _ => n - (intOf s13).toNat)
  case atStart => exact ⟨0, false, ⟨#[]⟩, 0, rfl, rfl, rfl, Nat.zero_le _, hid' rfl, hid' (by simp), HO, hid' (Below.refl _ _)⟩
  case round =>
    obtain ⟨k, has, val, len, rfl, rfl, rfl, hk, HLN, HDV, HI, HB⟩ := hrel
    by_cases hlt : k < n
    · have hlt2 : (k : Int) < (n : Int) := by omega
      obtain ⟨p, hp⟩ : ∃ p, l[k]? = some p := ⟨_, List.getElem?_eq_getElem (by rw [HN.out]; exact hlt)⟩
      obtain ⟨a, hao, y0, y1⟩ := (H.out.keep HB.out).two k p hp
      subst hao
      have hd := Ms.len_drop hp (Ms.opt has val)
      rw [HI.out] at hd
      have HPS := hid' (HS.out p (List.mem_of_getElem? hp))
      obtain ⟨sm, hsm⟩ : ∃ sm, (Ms.lo p.n == Ms.sLen) = sm := ⟨_, rfl⟩
      rw [hsm] at hd
      have HSM : Hid ((Tx.lower p.n.data.toList == Tx.lower (⟨#[99, 111, 110, 116, 101, 110, 116, 45, 108, 101, 110, 103, 116, 104]⟩ : ByteArray).data.toList) = sm) := hid' hsm
      have HX := hid' (fd_new wr p)
      have HB1 := hid' (below_two HB.out (bl_alloc wr (.cells #[.string p.n, .string p.v] 45)))
      clear hp hsm
      go_wp2_with fail
      obtain ⟨xb, hxb⟩ : ∃ xb, wr.heap.size = xb := ⟨_, rfl⟩
      rw [hxb] at HX ⊢
      clear hxb y0 y1 HB
      generalize wr.alloc (.cells #[.string p.n, .string p.v] 45) = w1 at *
      refine (csame14 p.n _ sm HSM.out w1 HPS.out.1 (by decide)).mono ?_
      rintro e w2 ⟨rfl, hb2⟩
      have HB2 := hid' (below_two HB1.out hb2)
      have HX2 := hid' (HX.out.keep hb2)
      have x0 := HX2.out.cell 0 _ rfl
      have x1 := HX2.out.cell 1 _ rfl
      clear hb2 HB1 HX
      cases sm
      · simp only [Bool.false_eq_true, if_false] at hd
        have HD := hid' hd
        clear hd
        go_wp2
        go_roundw
        case rel => exact ⟨k + 1, has, val, len, by go_num, rfl, rfl, by omega, HLN, HDV, hid' HD.out.symm, HB2⟩
        case measure => simp [intOf]; omega
      · simp only [if_true] at hd
        obtain ⟨d, hdc⟩ : ∃ d, Ms.dec p.v = d := ⟨_, rfl⟩
        have HDC := hid' hdc
        rw [hdc] at hd
        have HD := hid' hd
        obtain ⟨nv, hnv⟩ : ∃ nv, (Tx.num 10 p.v.data.toList).1 = nv := ⟨_, rfl⟩
        have HNV := hid' hnv
        clear hd hdc
        go_wp2_with fail
        refine (cdec14 p.v d HDC.out w2 HPS.out.2 (HTB.out.keep HB2.out)).mono ?_
        rw [hnv]
        rintro e w3 ⟨rfl, hb3⟩
        have HB3 := hid' (below_two HB2.out hb3)
        clear hb3 hnv x0 x1 HX2 HB2
        cases d
        · have HE : Hid (o = none) := hid' (by rw [HD.out]; rfl)
          go_wp2
          go_ret3
          exact ⟨by rw [HE.out]; rfl, HB3.out⟩
        · cases has
          · have HE : Hid (Ms.lenGo (Ms.opt true p.v) (l.drop (k + 1)) = o) := hid' (by rw [HD.out]; rfl)
            go_wp2
            go_roundw
            case rel => exact ⟨k + 1, true, p.v, nv, by go_num, rfl, rfl, by omega, hid' HNV.out.symm, hid' (fun _ => HDC.out), HE, HB3⟩
            case measure => simp [intOf]; omega
          · have HEQ : Hid ((p.v.toList == val.toList) = (nv == len)) := hid' (by
              rw [HLN.out, ← HNV.out]
              simp only [Ms.lenN, if_true]
              rw [Bool.eq_iff_iff, beq_iff_eq, beq_iff_eq, Lib.toList_data, Lib.toList_data]
              constructor
              · intro e; rw [e]
              · intro e; exact Ms.dec_inj HDC.out (HDV.out rfl) e)
            cases c2 : (nv == len)
            · have c3 : (nv != len) = true := by unfold bne; rw [c2]; rfl
              have c4 : ¬ nv = len := by intro e; rw [e] at c2; simp at c2
              have HE : Hid (o = none) := hid' (by rw [HD.out]; simp only [Ms.opt, if_true, HEQ.out, c2]; rfl)
              go_wp2
              go_ret3
              exact ⟨by rw [HE.out]; rfl, HB3.out⟩
            · have c3 : (nv != len) = false := by unfold bne; rw [c2]; rfl
              have c4 : nv = len := beq_iff_eq.1 c2
              have HE : Hid (Ms.lenGo (Ms.opt true p.v) (l.drop (k + 1)) = o) := hid' (by rw [HD.out]; simp only [Ms.opt, if_true, HEQ.out, c2]; rfl)
              clear c2 c3
              subst c4
              have c2 : (nv == nv) = true := by simp
              have c3 : (nv != nv) = false := by simp
              go_wp2
              go_roundw
              case rel => exact ⟨k + 1, true, p.v, nv, by go_num, rfl, rfl, by omega, hid' HNV.out.symm, hid' (fun _ => HDC.out), HE, HB3⟩
              case measure => simp [intOf]; omega
    · obtain rfl : k = n := by omega
      have hlt2 : ¬ (k : Int) < (k : Int) := by omega
      have HE : Hid (o = some (Ms.opt has val)) := hid' (by rw [← HI.out, List.drop_of_length_le (by rw [HN.out]; exact Nat.le_refl _)]; rfl)
      clear hlt
      go_wp2
      go_ret3
      cases has
      · exact ⟨by rw [HE.out, HLN.out]; rfl, HB.out⟩
      · exact ⟨by rw [HE.out, HLN.out]; rfl, HB.out⟩

end Go.Proofs.YtbpdhcfmdkmoiaaDoor
