/-
  What the row stands on.
-/
import Derived.Test.YthhpejgpfaikaabGreatDoorPqAO
import Derived.Test.YthhpejgpfaikaabGreatDoorPqAQ
import Derived.Test.YthhpejgpfaikaabGreatDoorPqAT
import Derived.Test.YthhpejgpfaikaabGreatDoorPqAX
import Derived.Lib.SlicesCompact
import Derived.Lib.RowBridge
import Derived.Deep.RegionHeld3
import Derived.Test.YthhpejgpfaikaabGreatDoorPqAS
namespace Go.Proofs.YthhpejgpfaikaabGreatDoor
set_option maxHeartbeats 64000000

namespace Fs
def Fit (r : Rp) : Prop := 200 ≤ r.s ∧ r.s ≤ 416 ∧ r.b.length ≤ 1048576
theorem plain_fit (s : Int) (l : List Fd) (h0 : 200 ≤ s) (h1 : s ≤ 416) : Fit (plain s l) := by
 refine ⟨h0, h1, ?_⟩;have h := Rg.itoa_19 (n := s) (by omega) (by omega);show (bd s).length ≤ 1048576;unfold bd;rw [List.length_append];simp only [List.length_cons, List.length_nil];omega
theorem whole_fit (kd : T8) (e : Dk.En) (he : EN19 e) : Fit (whole kd e) := by
 have h := he.b;rw [Lib.size_eq] at h;refine ⟨by show (200 : Int) ≤ 200; decide, by show (200 : Int) ≤ 416; decide, ?_⟩;show e.body.data.toList.length ≤ 1048576;omega
theorem sev_fit (kd : T8) (hk : kd.length ≤ 24) (e : Dk.En) (he : EN19 e) (rs : List Rg.Rn) (hr : rs.length ≤ 8) : Fit (sev kd e rs) := by
 have h := he.b;rw [Lib.size_eq] at h;refine ⟨by show (200 : Int) ≤ 206; decide, by show (206 : Int) ≤ 416; decide, ?_⟩;show (Rg.partsS e.body.data.toList kd (line e.body.data.toList) rs).length ≤ 1048576;unfold Rg.partsS;split
 ·rename_i ho;unfold Rg.okP at ho;rw [Bool.and_eq_true] at ho;have hl : (line e.body.data.toList).length ≤ 25 := by
   obtain ⟨q, hq, e1⟩ := line_ex e.body.data.toList;rw [e1];exact Rg.line_len _ (Nat.lt_of_le_of_lt hq.2.2 (by omega))
  have h1 := Rg.flat_len (k := kd) (ln := line e.body.data.toList) ho.2 (by omega);unfold Rg.parts Rg.fin;simp only [List.length_append, Rg.dd, Rg.crlf, List.length_cons, List.length_nil];have h2 : rs.length * (e.body.data.toList.length + kd.length + (line e.body.data.toList).length + 200) ≤ 8 * 65785 := Nat.mul_le_mul hr (by omega);omega
 ·exact Nat.zero_le _
theorem rgd_fit (kd : T8) (hk : kd.length ≤ 24) (e : Dk.En) (he : EN19 e) (v : T8) : Fit (rgd kd e v) := by
 have h := he.b;rw [Lib.size_eq] at h;unfold rgd;split
 ·exact plain_fit 416 _ (by decide) (by decide)
 ·split
  ·split
   ·refine ⟨by show (200 : Int) ≤ 206; decide, by show (206 : Int) ≤ 416; decide, ?_⟩;unfold one;simp only [List.length_drop, List.length_take];omega
   ·exact sev_fit kd hk e he _ (Rg.res_len19 _ _)
  ·exact whole_fit kd e he
theorem part_fit (p : T8) (e : Dk.En) (he : EN19 e) (g : Bool) (l : List Fd) : Fit (part (kind p) e g l) := by
 unfold part;split
 ·exact rgd_fit _ (kind_le p) e he _
 ·exact whole_fit _ e he
theorem get_mem (p : T8) (es : List Dk.En) (e : Dk.En) (h : Dk.get p es = some e) : e ∈ es := by
 unfold Dk.get at h;split at h
 ·exact List.mem_of_getElem? h
 ·cases h
theorem ans_fit (es : List Dk.En) (root m t s : T8) (l : List Fd) (he : ∀ e ∈ es, EN19 e) : Fit (ans es root m t s l) := by
 unfold ans ansOf;split
 ·split
  ·split
   ·exact plain_fit 301 _ (by decide) (by decide)
   ·exact plain_fit 404 _ (by decide) (by decide)
  ·rename_i e hg;have hm := he e (get_mem _ _ _ hg);split
   ·exact plain_fit 412 _ (by decide) (by decide)
   ·split
    ·exact ⟨by show (200 : Int) ≤ 304; decide, by show (304 : Int) ≤ 416; decide, Nat.zero_le _⟩
    ·exact part_fit _ e hm _ _
 ·exact plain_fit 405 _ (by decide) (by decide)
end Fs
namespace Ap
def Fit (r : Rp) : Prop := 200 ≤ r.s ∧ r.s ≤ 599 ∧ r.b.length ≤ 140737488355328
theorem of_fit {r : Fs.Rp} (h : Fs.Fit r) : Fit (of r) := ⟨h.1, Int.le_trans h.2.1 (by decide), Nat.le_trans h.2.2 (by decide)⟩
theorem part_five (kd : Fs.T8) (e : Dk.En) (g : Bool) (l : List Fd) : (Fs.part kd e g l).fs.length ≤ 5 := by
 unfold Fs.part;split
 ·unfold Fs.rgd;split
  ·exact Nat.le_of_ble_eq_true rfl
  ·split
   ·split
    ·exact Nat.le_of_ble_eq_true rfl
    ·exact Nat.le_of_ble_eq_true rfl
   ·exact Nat.le_of_ble_eq_true rfl
 ·exact Nat.le_of_ble_eq_true rfl
theorem ans_five (es : List Dk.En) (r m t s : Fs.T8) (l : List Fd) : (Fs.ans es r m t s l).fs.length ≤ 5 := by
 unfold Fs.ans Fs.ansOf;split
 ·split
  ·split
   ·exact Nat.le_of_ble_eq_true rfl
   ·exact Nat.le_of_ble_eq_true rfl
  ·split
   ·exact Nat.le_of_ble_eq_true rfl
   ·split
    ·exact Nat.le_of_ble_eq_true rfl
    ·exact part_five _ _ _ _
 ·exact Nat.le_of_ble_eq_true rfl
theorem by_fit (x : Rt.Ro × ByteArray) (es : List Dk.En) (r : Rq) (cl : T8) (ps : List (T8 × T8)) (hes : ∀ e ∈ es, EN19 e) (hb : r.b.size ≤ 1048576) (hn : ps.length ≤ 4194305) (hps : ∀ c ∈ ps, c.1.length ≤ 4194304 ∧ c.2.length ≤ 4194304) : Fit (by' x es r cl ps) ∧ (by' x es r cl ps).fs.length ≤ 5 := by
 unfold by'
 split
 ·exact ⟨of_fit (Fs.ans_fit _ _ _ _ _ _ hes), ans_five _ _ _ _ _ _⟩
 ·split
  ·refine ⟨⟨by show (200 : Int) ≤ 200; decide, by show (200 : Int) ≤ 599; decide, ?_⟩, Nat.le_of_ble_eq_true rfl⟩;show r.b.data.toList.length ≤ 140737488355328;rw [← Lib.size_eq];omega
  ·split
   ·refine ⟨⟨by show (200 : Int) ≤ 200; decide, by show (200 : Int) ≤ 599; decide, ?_⟩, Nat.le_of_ble_eq_true rfl⟩;have h := line_take ps ps.length 4194304 4194304 hps;rw [List.take_length] at h;show (line ps ++ [10]).length ≤ 140737488355328;rw [List.length_append];simp only [List.length_cons, List.length_nil];omega
   ·exact ⟨of_fit (Fs.plain_fit 410 _ (by decide) (by decide)), Nat.le_of_ble_eq_true rfl⟩
theorem raw_fit (l : List (Rt.Ro × ByteArray)) (es : List Dk.En) (r : Rq) (hes : ∀ e ∈ es, EN19 e) (hbd : ∀ x ∈ l, x.1.p.length ≤ 4194304) (hp : r.p.size ≤ 1048570) (hb : r.b.size ≤ 1048576) : Fit (raw l es r) ∧ (raw l es r).fs.length ≤ 5 := by
 have hc := clean_size r.p.data.toList;rw [← Lib.size_eq] at hc;unfold raw;split
 ·exact ⟨⟨by show (200 : Int) ≤ 204; decide, by show (204 : Int) ≤ 599; decide, Nat.zero_le _⟩, Nat.zero_le _⟩
 ·split
  ·rcases find_lies (l.map (·.1)) r.m.data.toList (Pt.clean r.p.data.toList).1 with he | ⟨al, he⟩ | ⟨al, he⟩ | ⟨k, rr, hk, he⟩
   ·rw [he]; exact ⟨of_fit (Fs.plain_fit 404 _ (by decide) (by decide)), Nat.le_of_ble_eq_true rfl⟩
   ·rw [he]; exact ⟨of_fit (Fs.plain_fit 405 _ (by decide) (by decide)), Nat.le_of_ble_eq_true rfl⟩
   ·rw [he]; exact ⟨⟨by show (200 : Int) ≤ 204; decide, by show (204 : Int) ≤ 599; decide, Nat.zero_le _⟩, Nat.le_of_ble_eq_true rfl⟩
   ·rw [he];obtain ⟨x, hx, hxr⟩ : ∃ x, l[k]? = some x ∧ x.1 = rr := by rw [List.getElem?_map, Option.map_eq_some_iff] at hk; exact hk
    subst hxr;have h1 := caught_size x.1 (Pt.clean r.p.data.toList).1;have h2 := hbd x (List.mem_of_getElem? hx);unfold met;rw [if_neg (show ¬ ((200 : Int) == 404) = true by decide), if_neg (show ¬ ((200 : Int) == 405) = true by decide), if_neg (by simp only; omega)];simp only [Int.toNat_natCast, hx];exact by_fit x es r _ _ hes hb (by omega) (fun c hcm => by have := h1.2 c hcm; omega)
  ·exact ⟨of_fit (Fs.plain_fit 400 _ (by decide) (by decide)), Nat.le_of_ble_eq_true rfl⟩
end Ap

namespace Rt
structure Gp (p : Prt) : Prop where
 k : p.k ≤ 2
 t : p.k = 0 → Gd p.t ∧ (123 : UInt8) ∉ p.t
theorem vis_no123 {s : T8} (h : s.all vis = true) : (123 : UInt8) ∉ s := fun hm => by
 have := List.all_eq_true.1 h 123 hm
 revert this
 decide
theorem prt_vis {s : T8} (h : (prt s).2 = true) (hk : (prt s).1.k = 0) : s.all vis = true := by
 unfold prt at h hk;split at h
 ·rename_i h1;rw [if_pos h1] at hk;split at hk
  ·simp at hk
  ·simp at hk
 ·split at h
  ·assumption
  ·cases h
theorem prt_gp {x : T8} (h47 : (47 : UInt8) ∉ x) (h : (prt x).2 = true) : Gp (prt x).1 :=
 ⟨prt_k x, fun hk => by
  obtain ⟨h1, h2⟩ := prt_plain h hk;rw [h1];exact ⟨⟨h2, h47⟩, vis_no123 (prt_vis h hk)⟩⟩
theorem pattern_gp {s : T8} {ps : List Prt} (h : pattern s = some ps) : ∀ p ∈ ps, Gp p := by
 unfold pattern at h;split at h
 ·injection h with h;rw [← h]; intro p hp; simp at hp
 ·split at h
  ·obtain ⟨e, h2, _⟩ := pats_out _ _ _ h;rw [List.nil_append] at e;intro p hp;rw [e] at hp;obtain ⟨x, hx, rfl⟩ := List.mem_map.1 hp;exact prt_gp (Pt.cutS_no _ [] (by simp) x hx).1 (h2 x hx)
  ·cases h
theorem pat_gp {r : Ro} : ∀ p ∈ pat r, Gp p := by
 unfold pat;cases h : pattern r.p with
 | none => intro p hp; simp at hp
 | some ps => exact pattern_gp h
theorem prt_c0 {l : T8} (h : (l.head? == some 123) = false) : (prt l).2 = (l.all vis && !l.isEmpty) ∧ ((prt l).2 = true → (prt l).1 = ⟨0, l⟩) := by
 unfold prt;rw [h];simp only [Bool.false_and, Bool.and_false, Bool.false_eq_true, if_false];cases hv : l.all vis
 ·simp
 ·simp
theorem prt_c1 {r : T8} (h : (r.getLast? == some 125) = false) : (prt (123 :: r)).2 = false := by
 have h2 : (decide (2 ≤ (123 :: r : T8).length) && ((123 :: r : T8).head? == some 123 && (123 :: r : T8).getLast? == some 125)) = false := by
  cases r with
  | nil => rfl
  | cons a b =>
   rw [List.getLast?_cons_cons, h];simp
 unfold prt;rw [h2];have hv : (123 :: r : T8).all vis = false := by rw [List.all_cons]; rfl
 rw [hv];rfl
theorem prt_cl {m : T8} : (decide (2 ≤ (123 :: (m ++ [125]) : T8).length) && ((123 :: (m ++ [125]) : T8).head? == some 123 && (123 :: (m ++ [125]) : T8).getLast? == some 125)) = true := by
 have h1 : (123 :: (m ++ [125]) : T8).getLast? = some 125 := by
  rw [show (123 :: (m ++ [125]) : T8) = (123 :: m) ++ [125] from rfl, List.getLast?_append]; rfl
 rw [h1];simp
theorem drop4 (m : T8) : (123 :: (m ++ [125]) : T8).drop ((123 :: (m ++ [125]) : T8).length - 4) = (if 3 ≤ m.length then m.drop (m.length - 3) ++ [125] else (123 :: (m ++ [125]) : T8).drop (m.length + 2 - 4)) := by
 have hl : (123 :: (m ++ [125]) : T8).length = m.length + 2 := by simp
 rw [hl];split
 ·rename_i h;rw [show m.length + 2 - 4 = (m.length - 3) + 1 by omega, List.drop_succ_cons, List.drop_append_of_le_length (by omega)]
 ·rfl
theorem prt_c2 {m : T8} (h : ([46, 46, 46] : T8).isSuffixOf m = false) : prt (123 :: (m ++ [125])) = (⟨1, m⟩, nameB m) := by
 have hl : (123 :: (m ++ [125]) : T8).length = m.length + 2 := by simp
 have h4 : (decide (5 ≤ (123 :: (m ++ [125]) : T8).length) && (123 :: (m ++ [125]) : T8).drop ((123 :: (m ++ [125]) : T8).length - 4) == [46, 46, 46, 125]) = false := by
  rw [Bool.eq_false_iff];intro hc;rw [Bool.and_eq_true, beq_iff_eq, decide_eq_true_eq] at hc;obtain ⟨h5, h6⟩ := hc;rw [hl] at h5;rw [drop4, if_pos (by omega)] at h6;have h7 : m.drop (m.length - 3) = [46, 46, 46] := by
   have : m.drop (m.length - 3) ++ [125] = [46, 46, 46] ++ [125] := h6;exact List.append_cancel_right this
  have h8 : ([46, 46, 46] : T8) <:+ m := by rw [← h7]; exact List.drop_suffix _ _
  rw [List.isSuffixOf_iff_suffix.2 h8] at h;cases h
 unfold prt;rw [prt_cl, h4, hl];simp
theorem prt_c3 {n : T8} : prt (123 :: ((n ++ [46, 46, 46]) ++ [125])) = (⟨2, n⟩, nameB n) := by
 have hl : (123 :: ((n ++ [46, 46, 46]) ++ [125]) : T8).length = n.length + 5 := by simp
 have h4 : (decide (5 ≤ (123 :: ((n ++ [46, 46, 46]) ++ [125]) : T8).length) && (123 :: ((n ++ [46, 46, 46]) ++ [125]) : T8).drop ((123 :: ((n ++ [46, 46, 46]) ++ [125]) : T8).length - 4) == [46, 46, 46, 125]) = true := by
  rw [drop4, if_pos (by simp)];simp
 unfold prt;rw [prt_cl, h4, hl];simp
def lastR (out : List Prt) : Bool := out.getLast?.map (·.k) == some 2
def cgo : List Prt → List T8 → Option (List Prt)
 | out, [] => some out
 | out, x :: r => if !(prt x).2 || lastR out then none else cgo (out ++ [(prt x).1]) r
theorem cgo_app : ∀ (xs : List T8) {out ps : List Prt}, cgo out xs = some ps → ps = out ++ xs.map (fun x => (prt x).1) := by
 intro xs
 induction xs with
 | nil => intro out ps h; rw [cgo] at h; injection h with h; rw [← h]; simp
 | cons x r ih =>
  intro out ps h;rw [cgo] at h;split at h
  ·cases h
  ·rw [ih h]; simp
theorem namesU_app (a b : List Prt) : names (a ++ b) = names a ++ names b := by unfold names; rw [List.filter_append, List.map_append]
theorem names_one (p : Prt) : names [p] = if p.k == 0 then [] else [p.t] := by
 unfold names;cases h : (p.k == 0) <;> simp [h]
theorem dup_mem {out : List Prt} {p : Prt} : dup out p = true ↔ (p.k == 0) = false ∧ p.t ∈ names out := by
 unfold dup names;rw [List.any_eq_true];constructor
 ·rintro ⟨q, hq, h⟩;simp only [Bool.and_eq_true, Bool.not_eq_true', beq_iff_eq] at h;refine ⟨h.2.1, ?_⟩;rw [← h.2.2];exact List.mem_map.2 ⟨q, List.mem_filter.2 ⟨hq, by rw [h.1]; rfl⟩, rfl⟩
 ·rintro ⟨h1, h2⟩;obtain ⟨q, hq, he⟩ := List.mem_map.1 h2;obtain ⟨hq1, hq2⟩ := List.mem_filter.1 hq;exact ⟨q, hq1, by rw [hq2, h1, he]; simp⟩
theorem lastR_app (out : List Prt) (p : Prt) : lastR (out ++ [p]) = (p.k == 2) := by
 unfold lastR;rw [List.getLast?_append];simp
theorem cgo_pats : ∀ (xs : List T8) (out : List Prt), (names out).Nodup → (xs ≠ [] → lastR out = false) → pats out xs = (cgo out xs).bind (fun ps => if (names ps).Nodup then some ps else none) := by
 intro xs
 induction xs with
 | nil => intro out h _; rw [pats, cgo]; simp [h]
 | cons x r ih =>
  intro out h hl;rw [pats, cgo, hl (by simp), Bool.or_false];cases hx : (prt x).2
  ·simp
  ·cases h2 : ((prt x).1.k == 2 && !r.isEmpty)
   ·simp only [Bool.not_true, Bool.or_false, Bool.false_eq_true, if_false];cases hd : dup out (prt x).1
    ·simp only [Bool.false_eq_true, if_false];refine ih (out ++ [(prt x).1]) ?_ (fun hr => ?_)
     ·rw [namesU_app, names_one];split
      ·simpa using h
      ·rename_i hk;rw [List.nodup_append];refine ⟨h, by simp, fun a ha b hb hab => ?_⟩;simp at hb;subst hb;rw [hab] at ha;have := dup_mem.2 ⟨by simpa using hk, ha⟩;rw [hd] at this;cases this
     ·rw [lastR_app];cases r with
      | nil => exact absurd rfl hr
      | cons a b => simpa using h2
    ·simp only [if_true];obtain ⟨hk, hm⟩ := dup_mem.1 hd;cases hc : cgo (out ++ [(prt x).1]) r with
     | none => rfl
     | some ps =>
      have := cgo_app _ hc;have hn : ¬ (names ps).Nodup := fun hn => by
       rw [this, namesU_app, namesU_app, names_one, hk] at hn;simp only [Bool.false_eq_true, if_false] at hn;have := (List.nodup_append.1 hn).1;exact (List.nodup_append.1 this).2.2 _ hm (prt x).1.t (by simp) rfl
      simp [hn]
   ·simp only [Bool.not_true, Bool.or_true, if_true, Bool.false_eq_true, if_false];rw [Bool.and_eq_true] at h2;cases r with
    | nil => simp at h2
    | cons a b =>
     rw [cgo, lastR_app, h2.1];simp
theorem pattern_cgo {s : T8} : pattern s = if s == [47] then some [] else if s.head? == some 47 then (cgo [] (Pt.cutS [] (s.drop 1))).bind (fun ps => if (names ps).Nodup then some ps else none) else none := by
 unfold pattern;rw [cgo_pats _ [] (by simp [names]) (fun _ => rfl)]
def shp (p : Prt) : T8 := if p.k == 0 then p.t else if p.k == 1 then [123, 125] else [123, 46, 46, 46, 125]
def txt (ps : List Prt) : T8 := ps.flatMap (fun p => 47 :: shp p)
theorem shp_gd {p : Prt} (h : Gp p) : Gd (shp p) := by
 unfold shp;split
 ·rename_i hk; exact (h.t (eq_of_beq hk)).1
 ·split <;> exact ⟨by simp, by decide⟩
theorem k3 {p : Prt} (h : Gp p) : p.k = 0 ∨ p.k = 1 ∨ p.k = 2 := by have := h.k; omega
theorem shp_alike {p q : Prt} (hp : Gp p) (hq : Gp q) : shp p = shp q ↔ alike p q = true := by
 have n1 : ∀ x : T8, (123 : UInt8) ∉ x → x ≠ [123, 125] ∧ x ≠ [123, 46, 46, 46, 125] := fun x hx => ⟨fun h => hx (by rw [h]; decide), fun h => hx (by rw [h]; decide)⟩
 unfold shp alike;rcases k3 hp with e | e | e <;> rcases k3 hq with e' | e' | e' <;> rw [e, e'] <;> simp
 ·exact (n1 _ (hp.t e).2).1
 ·exact (n1 _ (hp.t e).2).2
 ·exact fun h => (n1 _ (hq.t e').2).1 h.symm
 ·exact fun h => (n1 _ (hq.t e').2).2 h.symm
theorem txt_map (ps : List Prt) : txt ps = (ps.map shp).flatMap (fun x => 47 :: x) := by
 unfold txt
 induction ps with
 | nil => rfl
 | cons p x ih => rw [List.flatMap_cons, ih]; rfl
theorem shape_shp : ∀ {a b : List Prt}, (∀ p ∈ a, Gp p) → (∀ p ∈ b, Gp p) → (a.map shp = b.map shp ↔ shape a b = true) := by
 intro a
 induction a with
 | nil => intro b _ _; cases b with | nil => simp [shape] | cons q y => simp [shape]
 | cons p x ih =>
  intro b ha hb;cases b with
  | nil => simp [shape]
  | cons q y =>
   rw [shape, Bool.and_eq_true, List.map_cons, List.map_cons, List.cons.injEq, shp_alike (ha p (by simp)) (hb q (by simp)), ih (fun z hz => ha z (List.mem_cons_of_mem _ hz)) (fun z hz => hb z (List.mem_cons_of_mem _ hz))]
theorem txt_shape {a b : List Prt} (ha : ∀ p ∈ a, Gp p) (hb : ∀ p ∈ b, Gp p) : txt a = txt b ↔ shape a b = true := by
 rw [← shape_shp ha hb];constructor
 ·intro h;rw [txt_map, txt_map] at h;have g : ∀ {c : List Prt}, (∀ p ∈ c, Gp p) → ∀ x ∈ c.map shp, Gd x := fun hc x hx => by
   obtain ⟨p, hp, rfl⟩ := List.mem_map.1 hx;exact shp_gd (hc p hp)
  by_cases ea : a.map shp = []
  ·by_cases eb : b.map shp = []
   ·rw [ea, eb]
   ·rw [ea, Pt.join_flat _ eb] at h;cases h
  ·by_cases eb : b.map shp = []
   ·rw [eb, Pt.join_flat _ ea] at h;cases h
   ·rw [Pt.join_flat _ ea, Pt.join_flat _ eb] at h;injection h with _ h;exact join_inj (g ha) (g hb) h
 ·intro h;rw [txt_map, txt_map, h]
def vals (ps : List Prt) (l : List T8) (e : Bool) : List T8 := (caught ps l e).map (·.2)
theorem caught_fst : ∀ {ps : List Prt} {l : List T8} {e : Bool}, (∀ p ∈ ps, p.k ≤ 2) → (caught ps l e).map (·.1) = names ps := by
 intro ps
 induction ps with
 | nil => intro l e _; rfl
 | cons p x ih =>
  intro l e h;have ihx := ih (l := l.tail) (e := e) (fun q hq => h q (List.mem_cons_of_mem _ hq));have e1 : names (p :: x) = names [p] ++ names x := by rw [← namesU_app]; rfl
  rw [caught, e1, names_one, ← ihx];have := h p (by simp);have hk : p.k = 0 ∨ p.k = 1 ∨ p.k = 2 := by omega
  rcases hk with hk | hk | hk <;> rw [hk] <;> rfl
theorem caught_zip {ps : List Prt} {l : List T8} {e : Bool} (h : ∀ p ∈ ps, p.k ≤ 2) : caught ps l e = (names ps).zip (vals ps l e) := by
 rw [← caught_fst (l := l) (e := e) h, vals];generalize caught ps l e = c
 induction c with
 | nil => rfl
 | cons a r ih => rw [List.map_cons, List.map_cons, List.zip_cons_cons, ← ih]
theorem vals_shape : ∀ {a b : List Prt} {l : List T8} {e : Bool}, shape a b = true → vals a l e = vals b l e := by
 intro a
 induction a with
 | nil => intro b l e h; cases b with | nil => rfl | cons q y => cases h
 | cons p x ih =>
  intro b l e h;cases b with
  | nil => cases h
  | cons q y =>
   rw [shape, Bool.and_eq_true] at h;have h1 := h.1;unfold alike at h1;simp only [Bool.and_eq_true, beq_iff_eq] at h1;have := ih (l := l.tail) (e := e) h.2;unfold vals at *;rw [caught, caught, h1.1];split
   ·rw [List.map_cons, List.map_cons, this]
   ·split
    ·rw [List.map_cons, List.map_cons, this]
    ·exact this
theorem vals_cons (p : Prt) (x : List Prt) (l : List T8) (e : Bool) : vals (p :: x) l e = (if p.k == 1 then [l.headD []] else if p.k == 2 then [Pt.join l ++ (if !l.isEmpty && e then [47] else [])] else []) ++ vals x l.tail e := by
 unfold vals;rw [caught];split
 ·rfl
 ·split <;> rfl
structure Rep (rs reps : List Ro) : Prop where
 sub : ∀ p ∈ reps, p ∈ rs
 cov : ∀ r ∈ rs, ∃ p ∈ reps, shape (pat r) (pat p) = true
 one : reps.Pairwise (fun p q => shape (pat p) (pat q) = false)
theorem best_rep {rs reps : List Ro} {l : List T8} (h : Rep rs reps) : (best rs l = none ∧ best reps l = none) ∨ ∃ q q', best rs l = some q ∧ best reps l = some q' ∧ shape q q' = true := by
 cases hb : best rs l with
 | none => exact .inl ⟨rfl, best_none.2 (fun r hr => best_none.1 hb r (h.sub r hr))⟩
 | some q =>
  right;obtain ⟨⟨r, hr, hrq⟩, h2, h3⟩ := best_some hb;obtain ⟨p, hp, hs⟩ := h.cov r hr;rw [hrq] at hs;cases h' : best reps l with
  | none =>
   have := best_none.1 h' p hp;rw [← shape_fits hs, h2] at this; cases this
  | some q' =>
   obtain ⟨⟨r', hr', hrq'⟩, h2', h3'⟩ := best_some h';refine ⟨q, q', rfl, rfl, kinds_shape h2 h2' ?_⟩;have a1 := h3' p hp (by rw [← shape_fits hs]; exact h2);have a2 := h3 r' (h.sub r' hr') (by rw [hrq']; exact h2');rw [← shape_kinds hs] at a1;rw [hrq'] at a2;rcases lex_tri (kinds q) (kinds q') with h4 | h4 | h4
   ·rw [h4] at a1; cases a1
   ·exact h4
   ·rw [h4] at a2; cases a2
theorem byM_shape {rs : List Ro} {q q' : List Prt} (hs : shape q q' = true) (m : T8) : byM rs q m = byM rs q' m := by
 unfold byM;congr 1
 funext r
 have : shape (pat r) q = shape (pat r) q' := by
  cases h1 : shape (pat r) q
  ·cases h2 : shape (pat r) q'
   ·rfl
   ·rw [shape_trans h2 (shape_symm hs)] at h1; cases h1
  ·rw [shape_trans h1 hs]
 rw [this]
theorem sel_shape {rs : List Ro} {q q' : List Prt} (hs : shape q q' = true) (m : T8) : sel rs q m = sel rs q' m := by
 unfold sel;rw [byM_shape hs m, byM_shape hs sGET, byM_shape hs []]
theorem byM_snoc (ps : List Ro) (r : Ro) (of : List Prt) (m : T8) : byM (ps ++ [r]) of m = (byM ps of m).or (if shape (pat r) of && r.m == m then some ps.length else none) := by
 unfold byM;rw [List.findIdx?_append];congr 1;simp only [List.findIdx?_cons, List.findIdx?_nil];split <;> simp
theorem find_rep {rs reps : List Ro} (h : Rep rs reps) (m path : T8) : find rs m path = match best reps (Pt.parts path) with
  | none => ⟨404, -1, [], []⟩
  | some q => match sel rs q m with
   | some k => ⟨200, k, (names ((rs[k]?.map pat).getD [])).zip (vals q (Pt.parts path) (ends path)), []⟩
   | none => ⟨if m == sOPT then 200 else 405, -1, [], allow rs q⟩ := by
 unfold find;rcases best_rep (l := Pt.parts path) h with ⟨h1, h2⟩ | ⟨q, q', h1, h2, hs⟩
 ·rw [h1, h2]
 ·rw [h1, h2];simp only;rw [← sel_shape hs m];cases hk : sel rs q m with
  | none => simp only; rw [allow_same (fun _ => Iff.rfl) hs]
  | some k =>
   obtain ⟨r, hr, hrs⟩ := sel_some hk;simp only;rw [hr];simp only [Option.map_some, Option.getD_some];rw [caught_zip (fun p hp => (pat_gp p hp).k), vals_shape (shape_trans hrs hs)]
end Rt

namespace Rt
theorem le_lt {x y : T8} (h : x ≤ y) (hn : x ≠ y) : x < y := by
 rcases lt_or x y with h1 | h1 | h1
 ·exact h1
 ·exact absurd h1 hn
 ·exact absurd h1 (List.not_lt.2 h)
theorem lt_le {x y z : T8} (h : x ≤ y) (h2 : y < z) : x < z := by
 rcases lt_or x y with h1 | h1 | h1
 ·exact lt_tr h1 h2
 ·rw [h1]; exact h2
 ·exact absurd h1 (List.not_lt.2 h)
theorem comp_up {l : List T8} (hs : l.Pairwise (fun x y => x ≤ y)) : ∀ m, m ≤ l.length → Rise (Lib.compactUpTo l.toArray m) ∧ ∀ x, x ∈ Lib.compactUpTo l.toArray m ↔ x ∈ l.take m := by
 intro m
 induction m with
 | zero => intro _; exact ⟨by unfold Rise Lib.compactUpTo; simp, fun x => by simp [Lib.compactUpTo]⟩
 | succ m ih =>
  intro hm;obtain ⟨h1, h2⟩ := ih (by omega);have hlt : m < l.length := by omega
  have hd : l.toArray[m]! = l[m] := by simp [hlt]
  have hp := List.pairwise_iff_getElem.1 hs;rw [Lib.compactUpTo_succ, hd, List.take_add_one, List.getElem?_eq_getElem hlt];cases hk : Lib.keeps l.toArray m
  ·have hk2 : ¬ (m = 0 ∨ l.toArray[m]! ≠ l.toArray[m - 1]!) := by
    unfold Lib.keeps at hk;exact of_decide_eq_false hk
   have h0 : m ≠ 0 := fun e => hk2 (.inl e);have he : l[m] = l[m - 1]'(by omega) := by
    have h3 : l.toArray[m - 1]! = l[m - 1]'(by omega) := by simp [show m - 1 < l.length by omega]
    by_cases e : l.toArray[m]! = l.toArray[m - 1]!
    ·rw [hd, h3] at e; exact e
    ·exact absurd (.inr e) hk2
   refine ⟨by simpa using h1, fun x => ?_⟩;simp only [Bool.false_eq_true, if_false, List.append_nil, Option.toList_some, List.mem_append, List.mem_singleton];rw [h2];constructor
   ·exact .inl
   ·rintro (h | h)
    ·exact h
    ·rw [h, he];exact List.mem_take_iff_getElem.2 ⟨m - 1, by omega, rfl⟩
  ·refine ⟨?_, fun x => ?_⟩
   ·unfold Rise;simp only [if_true];rw [List.pairwise_append];refine ⟨h1, by simp, fun x hx y hy => ?_⟩;simp at hy;subst hy;obtain ⟨j, hj, rfl⟩ := List.mem_take_iff_getElem.1 ((h2 x).1 hx);have hjm : j < m := by omega
    have hk2 : l.toArray[m]! ≠ l.toArray[m - 1]! := by
     unfold Lib.keeps at hk;rcases of_decide_eq_true hk with h | h
     ·omega
     ·exact h
    have h3 : l.toArray[m - 1]! = l[m - 1]'(by omega) := by simp [show m - 1 < l.length by omega]
    rw [hd, h3] at hk2;have h4 : l[m - 1]'(by omega) < l[m] := le_lt (hp (m - 1) m (by omega) hlt (by omega)) (fun e => hk2 e.symm);by_cases e : j = m - 1
    ·subst e; exact h4
    ·exact lt_le (hp j (m - 1) (by omega) (by omega) (by omega)) h4
   ·simp only [if_true, List.mem_append, List.mem_singleton, Option.toList_some];rw [h2]
theorem comp_rise {l : List T8} (hs : l.Pairwise (fun x y => x ≤ y)) : Rise (Lib.compact l) ∧ ∀ x, x ∈ Lib.compact l ↔ x ∈ l := by
 have := comp_up hs l.length (Nat.le_refl _);rw [List.take_length] at this;exact this
theorem rise_nodup {l : List T8} (h : Rise l) : l.Nodup := by
 unfold Rise at h;exact h.imp (fun {a b} hab e => by rw [e] at hab; exact lt_irr _ hab)
theorem comp_len {l : List T8} (hs : l.Pairwise (fun x y => x ≤ y)) : decide ((Lib.compact l).length < l.length) = !decide l.Nodup := by
 have key : (Lib.compact l).length < l.length ↔ ¬ l.Nodup := by
  constructor
  ·intro h hn;rw [Lib.compact_all l (fun j hj => ?_)] at h
   ·omega
   ·unfold Lib.keeps;by_cases h0 : j = 0
    ·exact decide_eq_true (.inl h0)
    ·refine decide_eq_true (.inr (fun e => ?_));have e1 : l.toArray[j]! = l[j] := by simp [hj]
     have e2 : l.toArray[j - 1]! = l[j - 1]'(by omega) := by simp [show j - 1 < l.length by omega]
     rw [e1, e2] at e;have := List.pairwise_iff_getElem.1 hn (j - 1) j (by omega) hj (by omega);exact this e.symm
  ·intro hn;have hle := Lib.compact_length_le l;rcases Nat.lt_or_ge (Lib.compact l).length l.length with h | h
   ·exact h
   ·exfalso;have he : ((List.range l.length).filter (Lib.keeps l.toArray)).length = (List.range l.length).length := by
     have : (Lib.compact l).length = ((List.range l.length).filter (Lib.keeps l.toArray)).length := by unfold Lib.compact Lib.compactUpTo; rw [List.length_map]
     rw [← this, List.length_range]; omega
    have hall := List.length_filter_eq_length_iff.1 he;have hc := Lib.compact_all l (fun j hj => hall j (List.mem_range.2 hj));have := (comp_rise hs).1;rw [hc] at this;exact hn (rise_nodup this)
 by_cases h : l.Nodup
 ·rw [decide_eq_true h, decide_eq_false (fun hc => key.1 hc h)]; rfl
 ·rw [decide_eq_false h, decide_eq_true (key.2 h)]; rfl
theorem sort_le (l : List T8) : (l.mergeSort (fun x y => decide (x ≤ y))).Pairwise (fun x y => x ≤ y) := by
 have := List.pairwise_mergeSort (le := fun x y : T8 => decide (x ≤ y)) (fun a b c h1 h2 => decide_eq_true (List.le_trans (of_decide_eq_true h1) (of_decide_eq_true h2))) (fun a b => by
  rw [Bool.or_eq_true, decide_eq_true_eq, decide_eq_true_eq];exact List.le_total a b) l
 exact this.imp (fun h => of_decide_eq_true h)
theorem sort_perm (l : List T8) : (l.mergeSort (fun x y => decide (x ≤ y))).Perm l := List.mergeSort_perm _ _
theorem rep_names (l : List T8) : decide ((Lib.compact (l.mergeSort (fun x y => decide (x ≤ y)))).length < l.length) = !decide l.Nodup := by
 have h := comp_len (sort_le l);rw [(sort_perm l).length_eq] at h;rw [h];congr 1;rw [Bool.eq_iff_iff, decide_eq_true_eq, decide_eq_true_eq];exact (sort_perm l).nodup_iff
end Rt

open Go.RowKit

namespace Rt
def okAt (k : Nat) (c : UInt8) : Bool := isLow c || (!decide (k = 0) && isDg c)
theorem name_bad {l : T8} {k : Nat} {c : UInt8} (h : l[k]? = some c) (hc : okAt k c = false) : nameB l = false := by
 cases l with
 | nil => simp at h
 | cons a r =>
  unfold okAt at hc;rw [Bool.or_eq_false_iff] at hc;rw [nameB];cases k with
  | zero => simp at h; subst h; rw [hc.1]; rfl
  | succ k =>
   have hm : c ∈ r := List.mem_of_getElem? (by simpa using h);have h2 := hc.2;rw [show decide (k + 1 = 0) = false by simp, Bool.not_false, Bool.true_and] at h2;have : r.all (fun d => isLow d || isDg d) = false := by
    rw [Bool.eq_false_iff];intro ht;have := List.all_eq_true.1 ht c hm;rw [hc.1, h2] at this; cases this
   rw [this, Bool.and_false]
theorem name_all {l : T8} (h : ∀ k c, l[k]? = some c → okAt k c = true) : nameB l = !l.isEmpty := by
 cases l with
 | nil => rfl
 | cons a r =>
  rw [nameB];have h0 : isLow a = true := by
   have := h 0 a rfl;unfold okAt at this;simpa using this
  have h1 : r.all (fun d => isLow d || isDg d) = true := by
   rw [List.all_eq_true];intro d hd;obtain ⟨k, hk, hkd⟩ := List.mem_iff_getElem.1 hd;have := h (k + 1) d (by rw [List.getElem?_cons_succ, List.getElem?_eq_getElem hk, hkd]);unfold okAt at this;simpa using this
  rw [h0, h1]; rfl
theorem low_t {c : UInt8} (h1 : (97 : Int) ≤ (c.toNat : Int)) (h2 : (c.toNat : Int) ≤ 122) : isLow c = true := by
 unfold isLow; rw [decide_eq_true (show 97 ≤ c.toNat by omega), decide_eq_true (show c.toNat ≤ 122 by omega)]; rfl
theorem low_f {c : UInt8} (h : ¬ ((97 : Int) ≤ (c.toNat : Int) ∧ (c.toNat : Int) ≤ 122)) : isLow c = false := by
 unfold isLow;cases hq : (decide (97 ≤ c.toNat) && decide (c.toNat ≤ 122))
 ·rfl
 ·rw [Bool.and_eq_true, decide_eq_true_iff, decide_eq_true_iff] at hq;exact absurd ⟨by omega, by omega⟩ h
theorem dg_f {c : UInt8} (h : ¬ ((48 : Int) ≤ (c.toNat : Int) ∧ (c.toNat : Int) ≤ 57)) : isDg c = false := by
 unfold isDg;cases hq : (decide (48 ≤ c.toNat) && decide (c.toNat ≤ 57))
 ·rfl
 ·rw [Bool.and_eq_true, decide_eq_true_iff, decide_eq_true_iff] at hq;exact absurd ⟨by omega, by omega⟩ h
theorem dg_t {c : UInt8} (h1 : (48 : Int) ≤ (c.toNat : Int)) (h2 : (c.toNat : Int) ≤ 57) : isDg c = true := by
 unfold isDg; rw [decide_eq_true (show 48 ≤ c.toNat by omega), decide_eq_true (show c.toNat ≤ 57 by omega)]; rfl
end Rt

end Go.Proofs.YthhpejgpfaikaabGreatDoor
