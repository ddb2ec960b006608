/-
  What a reader keeps, and how much: what is of no program.
-/
import Derived.Lib.IndexBytes
import Derived.Lib.IndexLaws
import Derived.Test.YtbpdhcfmdkmoiaaGreatDoorPnAE
namespace Go.Proofs.YtbpdhcfmdkmoiaaGreatDoor
namespace Hr

theorem idx_none {c : UInt8} {l : T8} (h : c ∉ l) : Lib.indexByte l c = -1 := by
  rcases Int.lt_or_le (Lib.indexByte l c) 0 with h0 | h0
  · have := Lib.index_ge l [c]
    rw [Lib.index_one] at this
    omega
  · obtain ⟨o, ho⟩ := Int.eq_ofNat_of_zero_le h0
    have := (Lib.indexByte_some ho).1
    exact absurd (List.mem_of_getElem? this) h
theorem idx_some {c : UInt8} {a b : T8} (h : c ∉ a) : Lib.indexByte (a ++ c :: b) c = (a.length : Int) := by
  rcases Int.lt_or_le (Lib.indexByte (a ++ c :: b) c) 0 with h0 | h0
  · have h1 := Lib.index_ge (a ++ c :: b) [c]
    rw [Lib.index_one] at h1
    have h2 : Lib.indexByte (a ++ c :: b) c = -1 := by omega
    have := Lib.indexByte_none h2 a.length
    simp at this
  · obtain ⟨o, ho⟩ := Int.eq_ofNat_of_zero_le h0
    obtain ⟨k1, k2⟩ := Lib.indexByte_some ho
    rcases Nat.lt_trichotomy o a.length with h3 | h3 | h3
    · rw [List.getElem?_append_left h3] at k1
      exact absurd (List.mem_of_getElem? k1) h
    · rw [ho, h3]
    · have := k2 a.length h3
      simp at this
theorem cut_no1 {c : UInt8} {l : T8} (h : c ∉ l) : Lib.cut l [c] = (l, [], false) := by
  unfold Lib.cut
  rw [Lib.index_one, idx_none h, if_neg (by decide)]
theorem cut_yes1 {c : UInt8} {a b : T8} (h : c ∉ a) : Lib.cut (a ++ c :: b) [c] = (a, b, true) := by
  unfold Lib.cut
  rw [Lib.index_one, idx_some h, if_pos (by omega)]
  simp
theorem cut_form (c : UInt8) (l : T8) : (c ∉ l ∧ Lib.cut l [c] = (l, [], false)) ∨ ∃ a b, l = a ++ c :: b ∧ c ∉ a ∧ Lib.cut l [c] = (a, b, true) := by
  by_cases h : c ∈ l
  · obtain ⟨a, b, hl, ha⟩ := (show ∃ a b, l = a ++ c :: b ∧ c ∉ a from by
      induction l with
      | nil => simp at h
      | cons x r ih =>
        by_cases hx : x = c
        · exact ⟨[], r, by rw [hx]; rfl, by simp⟩
        · have hr : c ∈ r := by
            rcases List.mem_cons.1 h with e | e
            · exact absurd e.symm hx
            · exact e
          obtain ⟨a, b, e, ha⟩ := ih hr
          exact ⟨x :: a, b, by rw [e]; rfl, by simp [ha, Ne.symm hx]⟩)
    right
    refine ⟨a, b, hl, ha, ?_⟩
    rw [hl]
    exact cut_yes1 ha
  · exact .inl ⟨h, cut_no1 h⟩
theorem cut_len (c : UInt8) (l : T8) : (Lib.cut l [c]).1.length + (Lib.cut l [c]).2.1.length + (if (Lib.cut l [c]).2.2 then 1 else 0) = l.length := by
  rcases cut_form c l with ⟨_, h⟩ | ⟨a, b, hl, _, h⟩
  · rw [h]; simp
  · rw [h, hl]; simp only [List.length_append, List.length_cons, if_true]; omega

/-- How many bytes must have come in for what is kept. -/
def cost (s : St) : Nat := lnH s + s.m.size + s.t.size + fsH s.fs + 2 * s.fs.length
theorem fsH_app (l : List Fd) (f : Fd) : fsH (l ++ [f]) = fsH l + f.n.size + f.v.size := by simp [fsH]; omega
theorem size_fsH (l : List Fd) : Ms.size l = 32 * l.length + fsH l := by
  induction l with
  | nil => rfl
  | cons f r ih =>
    simp only [Ms.size, fsH, List.map_cons, List.sum_cons, List.length_cons, Ms.wt] at ih ⊢
    omega
theorem mem_fsH {l : List Fd} {f : Fd} (h : f ∈ l) : f.n.size + f.v.size ≤ fsH l := by
  induction l with
  | nil => simp at h
  | cons g r ih =>
    simp only [fsH, List.map_cons, List.sum_cons] at ih ⊢
    rcases List.mem_cons.1 h with rfl | h
    · omega
    · have := ih h; omega
theorem ba_size (l : T8) : (ba l).size = l.length := by rw [Lib.size_eq]; simp [ba]
def bgOf (md : Md) : Bool := match md with | (.inl false) => false | (.inr .u64) => false | _ => true
structure Ok (s : St) : Prop where
  L1 : 1 ≤ s.L
  ln : s.ln.length ≤ most s
  fs : Ms.size s.fs ≤ s.L
  mt : s.m.size + s.t.size ≤ s.L
  left : s.left ≤ s.M
  room : s.room ≤ s.M
  line : lineM s = false → s.ln = [] ∧ s.cr = false
  none : s.bg = false → s.m.size = 0 ∧ s.t.size = 0 ∧ s.fs = []
  bgm : s.bg = bgOf s.md
theorem Ok.zero {L M : Nat} (h : 1 ≤ L) : Ok (zero L M (.inl false)) := by
  refine ⟨h, Nat.zero_le _, Nat.zero_le _, Nat.zero_le _, Nat.zero_le _, Nat.zero_le _, fun _ => ⟨rfl, rfl⟩, fun _ => ⟨rfl, rfl, rfl⟩, rfl⟩
theorem Ok.broke {s : St} (h : Ok s) (c : Int) : Ok (broke s c).2 := by
  refine ⟨h.L1, Nat.zero_le _, Nat.zero_le _, Nat.zero_le _, Nat.zero_le _, Nat.zero_le _, fun _ => ⟨rfl, rfl⟩, fun _ => ⟨rfl, rfl, rfl⟩, rfl⟩
theorem cost_broke (s : St) (c : Int) : cost (broke s c).2 = 0 := rfl
theorem Ok.fresh {s : St} (h : Ok s) : Ok (fresh s) := Ok.zero h.L1
theorem lenN_nn (l : List Fd) : 0 ≤ lenN l := by
  unfold lenN
  split
  · unfold Tx.num
    split
    · exact Int.le_refl _
    · split
      · exact Int.le_refl _
      · exact Tx.numv_nonneg 10 (by decide) _
  · exact Int.le_refl _
theorem hex_nn (l : T8) : 0 ≤ (Tx.num 16 l).1 := by
  unfold Tx.num
  split
  · exact Int.le_refl _
  · split
    · exact Int.le_refl _
    · exact Tx.numv_nonneg 16 (by decide) _
theorem headE_len {s : St} (h : headE s = 0) : lenN s.fs ≤ s.M := by
  unfold headE at h
  split at h
  · rename_i h1
    have h2 : lenE s = 0 := by simpa using h1
    unfold lenE at h2
    split at h2
    · split at h2
      · exact absurd h2 (by decide)
      · split at h2
        · exact absurd h2 (by decide)
        · omega
    · rename_i h3; exact absurd h2 (by simpa using h3)
  · rename_i h1; exact absurd h (by simpa using h1)
theorem Ok.behind {s : St} (h : Ok s) (h0 : headE s = 0) : Ok (behind s) ∧ cost (behind s) = 0 := by
  have hl := headE_len h0
  unfold Hr.behind
  split
  · exact ⟨⟨h.L1, Nat.zero_le _, Nat.zero_le _, Nat.zero_le _, Nat.zero_le _, Nat.le_refl _, fun _ => ⟨rfl, rfl⟩, fun h => (by cases h), rfl⟩, rfl⟩
  · split
    · exact ⟨⟨h.L1, Nat.zero_le _, Nat.zero_le _, Nat.zero_le _, by simp only [Hr.zero]; omega, Nat.zero_le _, fun _ => ⟨rfl, rfl⟩, fun h => (by cases h), rfl⟩, rfl⟩
    · exact ⟨h.fresh, rfl⟩
theorem fld_size (l : T8) (h : fldB l = true) : (fld l).n.size + (fld l).v.size + 1 ≤ l.length := by
  unfold fldB at h
  simp only [Bool.and_eq_true] at h
  have h1 := cut_len 58 l
  rw [h.1.1, if_pos rfl] at h1
  unfold fld
  simp only
  rw [ba_size, ba_size, Tx.lower_length]
  have := Tx.trim_le (Lib.cut l [58]).2.1
  unfold fldN fldV
  omega
theorem addF_ok (s : St) (h : Ok s) (hl : lineM s = true) (hb : s.bg = true) (l : T8) : Ok (addF s l).2 ∧ cost (addF s l).2 ≤ cost s + l.length + 1 := by
  have hd := (line_good hl).2
  unfold addF
  split
  · rename_i hf
    split
    · exact ⟨h.broke _, by rw [cost_broke]; omega⟩
    · rename_i hL
      refine ⟨⟨h.L1, h.ln, by simp only; omega, h.mt, h.left, h.room, h.line, fun hx => (by have hx' : s.bg = false := hx; rw [hb] at hx'; cases hx'), h.bgm⟩, ?_⟩
      have := fld_size l hf
      unfold cost
      simp only [lnH]
      rw [fsH_app]
      simp only [List.length_append, List.length_singleton]
      omega
  · exact ⟨h.broke _, by rw [cost_broke]; omega⟩
theorem parts_len (l : T8) (h : startE l = 0) : (p1 l).length + (p2 l).length ≤ l.length := by
  have h1 := cut_len 32 l
  have h2 := cut_len 32 (Lib.cut l [32]).2.1
  unfold p1 p2
  have : startE l = 0 := h
  omega
theorem useL_ok (s : St) (h : Ok s) (hL : lineM s = true) (hz : s.ln = [] ∧ s.cr = false) (l : T8) (hl : l.length ≤ most s) : Ok (useL s l).2 ∧ cost (useL s l).2 ≤ cost s + l.length + 1 := by
  have hd := (line_good hL).2
  have hb := h.bgm
  have h0 : cost s ≤ cost s + l.length + 1 := by omega
  unfold useL
  split
  · rename_i hm
    rw [hm] at hb
    simp only [bgOf] at hb
    unfold useStart
    split
    · exact ⟨h, h0⟩
    · split
      · rename_i he
        have hp := parts_len l (by simpa using he)
        have hmo : most s = s.L := by unfold most; rw [hm]
        refine ⟨⟨h.L1, by simp only [hz.1]; exact Nat.zero_le _, h.fs, by simp only [ba_size]; omega, h.left, h.room, fun hx => (by cases hx), fun hx => (by cases hx), rfl⟩, ?_⟩
        have := (h.none hb).2.2
        unfold cost
        simp only [lnH, ba_size, hz.1, hz.2, this]
        simp [fsH]
        omega
      · exact ⟨h.broke _, by rw [cost_broke]; omega⟩
  · rename_i hm
    rw [hm] at hb
    simp only [bgOf] at hb
    unfold useField
    split
    · split
      · rename_i he
        obtain ⟨k1, k2⟩ := h.behind (by simpa using he)
        exact ⟨k1, by rw [k2]; omega⟩
      · exact ⟨h.broke _, by rw [cost_broke]; omega⟩
    · exact addF_ok s h hL hb l
  · rename_i hm
    rw [hm] at hb
    simp only [bgOf] at hb
    have hroom := h.room
    unfold useSize
    split
    · exact ⟨h.broke _, by rw [cost_broke]; omega⟩
    · split
      · exact ⟨h.broke _, by rw [cost_broke]; omega⟩
      · split
        · exact ⟨⟨h.L1, by simp only [hz.1]; exact Nat.zero_le _, h.fs, h.mt, h.left, h.room, fun hx => (by cases hx), h.none, hb⟩, h0⟩
        · rename_i h1 h2
          have := hex_nn (digs l)
          exact ⟨⟨h.L1, by simp only [hz.1]; exact Nat.zero_le _, h.fs, h.mt, by simp only; omega, by simp only; omega, fun _ => hz, h.none, hb⟩, h0⟩
  · rename_i hm1 hm2 hm3
    have hb' : s.bg = true := by
      rw [hb]
      unfold lineM at hL
      rcases hm : s.md with ((_ | _) | (_ | _ | _ | _ | _ | _ | _ | _)) <;> rw [hm] at hL <;> simp at hL <;> first | rfl | exact absurd hm hm1
    unfold useTrailer
    split
    · split
      · exact ⟨h.fresh, by rw [show cost (fresh s) = 0 from rfl]; omega⟩
      · exact ⟨h.broke _, by rw [cost_broke]; omega⟩
    · exact addF_ok s h hL hb' l
theorem takeB_ok (s : St) (h : Ok s) (hL : lineM s = true) (b : UInt8) : Ok (takeB s b).2 ∧ cost (takeB s b).2 ≤ cost s + 1 := by
  have hd := (line_good hL).2
  unfold takeB
  split
  · exact ⟨h.broke _, by rw [cost_broke]; omega⟩
  · split
    · rename_i hc
      have h1 : Ok { s with ln := [], cr := false } := ⟨h.L1, Nat.zero_le _, h.fs, h.mt, h.left, h.room, fun _ => ⟨rfl, rfl⟩, h.none, h.bgm⟩
      obtain ⟨k1, k2⟩ := useL_ok _ h1 hL ⟨rfl, rfl⟩ s.ln h.ln
      refine ⟨k1, Nat.le_trans k2 ?_⟩
      unfold cost lnH
      simp only [hc, if_true, List.length_nil, Bool.false_eq_true, if_false]
      omega
    · split
      · rename_i hc _
        refine ⟨⟨h.L1, h.ln, h.fs, h.mt, h.left, h.room, fun hx => (by have hx' : lineM s = false := hx; rw [hL] at hx'; cases hx'), h.none, h.bgm⟩, ?_⟩
        unfold cost lnH
        simp only [if_true]
        split <;> omega
      · split
        · exact ⟨h.broke _, by rw [cost_broke]; omega⟩
        · rename_i hne
          have hln := h.ln
          have hne' : s.ln.length ≠ most s := by simpa using hne
          refine ⟨⟨h.L1, by show (s.ln ++ [b]).length ≤ most s; simp only [List.length_append, List.length_singleton]; omega, h.fs, h.mt, h.left, h.room, fun hx => (by have hx' : lineM s = false := hx; rw [hL] at hx'; cases hx'), h.none, h.bgm⟩, ?_⟩
          unfold cost lnH
          simp only [List.length_append, List.length_singleton]
          omega
theorem one_ok (s : St) (h : Ok s) (hl : lone s = false) (b : UInt8) : Ok (one s b).2 ∧ cost (one s b).2 ≤ cost s + 1 := by
  cases hL : lineM s with
  | true => rw [one_line hL]; exact takeB_ok s h hL b
  | false =>
    have hmd : s.md = (.inr .u8) ∨ s.md = (.inr .u16) := by
      unfold lineM at hL
      unfold lone at hl
      rcases hm : s.md with ((_ | _) | (_ | _ | _ | _ | _ | _ | _ | _)) <;> rw [hm] at hL hl <;> simp at hL hl <;> simp
    obtain ⟨z1, z2⟩ := h.line hL
    have hb := h.bgm
    unfold one
    rcases hmd with hm | hm <;> rw [hm] at hb ⊢ <;> simp only
    · split
      · exact ⟨⟨h.L1, by simp only [z1]; exact Nat.zero_le _, h.fs, h.mt, h.left, h.room, fun _ => ⟨z1, z2⟩, h.none, hb⟩, Nat.le_succ _⟩
      · exact ⟨h.broke _, by rw [cost_broke]; omega⟩
    · split
      · exact ⟨⟨h.L1, by simp only [z1]; exact Nat.zero_le _, h.fs, h.mt, h.left, h.room, fun hx => (by cases hx), h.none, hb⟩, Nat.le_succ _⟩
      · exact ⟨h.broke _, by rw [cost_broke]; omega⟩
theorem part_ok (s : St) (h : Ok s) (hb : isBody s = true) (md : Md) (hmd : md = (.inr .u32) ∨ md = (.inr .u8)) (d : T8) : Ok (part s md d).2.2 ∧ cost (part s md d).2.2 = cost s := by
  have hL : lineM s = false := by unfold isBody at hb; unfold lineM; rcases hm : s.md with ((_ | _) | (_ | _ | _ | _ | _ | _ | _ | _)) <;> rw [hm] at hb <;> simp at hb <;> rfl
  have hg : s.bg = true := by rw [h.bgm]; unfold isBody at hb; rcases hm : s.md with ((_ | _) | (_ | _ | _ | _ | _ | _ | _ | _)) <;> rw [hm] at hb <;> simp at hb <;> rfl
  obtain ⟨z1, z2⟩ := h.line hL
  have hleft := h.left
  unfold part
  split
  · exact ⟨h, rfl⟩
  · refine ⟨⟨h.L1, by simp only [z1]; exact Nat.zero_le _, h.fs, h.mt, by simp only; omega, h.room, fun _ => ⟨z1, z2⟩, h.none, ?_⟩, rfl⟩
    simp only
    rw [hg]
    split
    · rcases hmd with rfl | rfl <;> rfl
    · rw [← h.bgm, hg]
theorem rl_ok : ∀ (d : T8) (s : St), Ok s → lineM s = true → Ok (rl s d).2.2 ∧ cost (rl s d).2.2 ≤ cost s + (rl s d).1
  | [], s, h, _ => ⟨h, Nat.le_refl _⟩
  | b :: r, s, h, hL => by
    obtain ⟨k1, k2⟩ := takeB_ok s h hL b
    rw [rl]
    split
    · exact ⟨k1, k2⟩
    · rename_i hn
      have hc : s.cr = false := by cases hc : s.cr <;> rw [hc] at hn <;> simp at hn <;> rfl
      have hm : ((takeB s b).1.mark == 0) = true := by cases hm : ((takeB s b).1.mark == 0) <;> rw [hm, hc] at hn <;> simp at hn <;> rfl
      have hmd := (takeB_stay hc hm).1
      have hL' : lineM (takeB s b).2 = true := by unfold lineM at *; rw [hmd]; exact hL
      obtain ⟨j1, j2⟩ := rl_ok r _ k1 hL'
      refine ⟨j1, ?_⟩
      simp only
      omega
theorem nx_ok (s : St) (h : Ok s) (d : T8) : Ok (nx s d).2.2 ∧ cost (nx s d).2.2 ≤ cost s + (nx s d).1 := by
  cases hL : lineM s with
  | true => rw [nx_line hL]; exact rl_ok d s h hL
  | false =>
    unfold lineM at hL
    unfold nx
    have hlo : s.md = (.inr .u8) ∨ s.md = (.inr .u16) → ∀ b r, Ok (one s b).2 ∧ cost (one s b).2 ≤ cost s + 1 ∧ (nx s (b :: r) = (1, one s b)) := by
      intro hm b r
      have hl : lone s = false := by unfold lone; rcases hm with hm | hm <;> rw [hm]
      obtain ⟨j1, j2⟩ := one_ok s h hl b
      refine ⟨j1, j2, ?_⟩
      unfold nx one
      rcases hm with hm | hm <;> rw [hm] <;> simp only [oneB] <;> split <;> rfl
    rcases hm : s.md with ((_ | _) | (_ | _ | _ | _ | _ | _ | _ | _)) <;> rw [hm] at hL <;> simp at hL <;> simp only
    · obtain ⟨j1, j2⟩ := part_ok s h (by unfold isBody; rw [hm]) (.inr .u32) (.inl rfl) d
      exact ⟨j1, by rw [j2]; omega⟩
    · obtain ⟨j1, j2⟩ := part_ok s h (by unfold isBody; rw [hm]) (.inr .u8) (.inr rfl) d
      exact ⟨j1, by rw [j2]; omega⟩
    · cases d with
      | nil => exact ⟨h, Nat.le_refl _⟩
      | cons b r =>
        obtain ⟨j1, j2, j3⟩ := hlo (.inl hm) b r
        unfold nx at j3
        rw [hm] at j3
        simp only at j3
        rw [j3]
        exact ⟨j1, j2⟩
    · cases d with
      | nil => exact ⟨h, Nat.le_refl _⟩
      | cons b r =>
        obtain ⟨j1, j2, j3⟩ := hlo (.inr hm) b r
        unfold nx at j3
        rw [hm] at j3
        simp only at j3
        rw [j3]
        exact ⟨j1, j2⟩
    · exact ⟨h.fresh, by rw [show cost (fresh s) = 0 from rfl]; omega⟩
    · exact ⟨h, Nat.le_refl _⟩

end Hr

end Go.Proofs.YtbpdhcfmdkmoiaaGreatDoor
