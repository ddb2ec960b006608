/-
  What the row stands on.
-/
import Derived.Lib.ConvBytes
import Derived.Test.YthhpejgpfaikaabGreatDoorPsAX
import Derived.Test.YthhpejgpfaikaabGreatDoorPsAR
import Derived.Test.YthhpejgpfaikaabGreatDoorPsAV
import Derived.Test.YthhpejgpfaikaabGreatDoorPsAL
import Derived.Test.YthhpejgpfaikaabGreatDoorPsAW
namespace Go.Proofs.YthhpejgpfaikaabGreatDoor
set_option maxHeartbeats 64000000
open Go.RowKit

def BA17 (p : Value) (w : World) (B b g : Nat) (bs : List Value) : Prop := B ≤ b ∧ ∃ v, w.heap[b]? = some (.cells #[p, v] 123 (0, 0)) ∧ w.ownsRow B 5 1 v bs.length bs ∧ v.ownBlock ≠ some b ∧ v.ownBlock ≠ some g ∧ b ≠ g ∧ g < w.heap.size
def BG17 (w : World) (B b g : Nat) (l : List UInt8) : Prop := BA17 (.pointer none) w B b g (Lib.byteCells l) ∨ BA17 (.pointer (some ⟨b, 0, none⟩)) w B b g (Lib.byteCells l)
theorem BA17.at {p : Value} {w : World} {B b g : Nat} {bs : List Value} (h : BA17 p w B b g bs) : Lib.BuilderAt 123 5 B b p bs w := by
 obtain ⟨h1, v, h2, h3, h4, _⟩ := h;exact ⟨h1, v, h2, h3, h4⟩
theorem BG17.bld {w : World} {B b g : Nat} {l : List UInt8} (h : BG17 w B b g l) : Bld w B b l := by
 rcases h with h | h
 ·exact .inl h.at
 ·exact .inr h.at
theorem setc17 {w : World} {b : Nat} {p v q : Value} (h : w.heap[b]? = some (.cells #[p, v] 123 (0, 0))) : (w.setCell ⟨b, 0, none⟩ q).heap[b]? = some (.cells #[q, v] 123 (0, 0)) := by
 simp [World.setCell, Array.getElem?_modify, h]

theorem copyCheck17 (B b g : Nat) (l : List UInt8) (w : World) (h : BG17 w B b g l) :
  Calls Tryz.prog 72 #[.pointer (some ⟨b, 0, none⟩)] w fun e w' => e = .returned (.tuple #[]) ∧ (BA17 (.pointer (some ⟨b, 0, none⟩)) w' B b g (Lib.byteCells l) ∧ Below B w w' ∧ w'.heap[g]? = w.heap[g]?) := by
 rcases h with h | h
 ·refine (copyCheck_fresh b w h.at.cell0 h.at.shape h.at.frozen0).mono ?_;rintro e w' ⟨rfl, rfl⟩;obtain ⟨hB, v, hbk, hown, hne, hng, hbg, hg⟩ := h;refine ⟨rfl, ⟨hB, v, setc17 hbk, own_same hown (fun j hj => (upd_setCell w b 0 _).block j (fun e => hne (by rw [← e]; exact hj))), hne, hng, hbg, by simpa [World.setCell] using hg⟩, (Below.refl B w).setCell (p := ⟨b, 0, none⟩) hB _, (upd_setCell w b 0 _).block g (fun e => hbg e.symm)⟩
 ·refine (copyCheck_used b w h.at.cell0).mono ?_;rintro e w' ⟨rfl, rfl⟩;exact ⟨rfl, h, Below.refl B _, rfl⟩

set_option maxRecDepth 100000 in
theorem writeByte17 (B b g : Nat) (l : List UInt8) (x : UInt8) (c : Int) (hc : c = (x.toNat : Int)) (w : World) (h : BG17 w B b g l) (hlen : l.length + 1 ≤ 140737488355328) (hBw : B ≤ w.heap.size) :
  Calls Tryz.prog 78 #[.pointer (some ⟨b, 0, none⟩), .int .u8 c] w fun e w' => e = .returned .nilIface ∧ (BG17 w' B b g (l ++ [x]) ∧ Below B w w' ∧ w'.heap[g]? = w.heap[g]?) := by
 obtain ⟨i0, hi, hz0, hz1, hz2⟩ := info_parts infoByte;have HX : Hid (Lib.byteCells (l ++ [x]) = Lib.byteCells l ++ [.int .u8 c]) := hid' (by rw [hc]; simp [Lib.byteCells]);have hbl : (Lib.byteCells l).length = l.length := Lib.byteCells_length l;clear hc;go_enter Tryz.func78, Tryz.ntmps78;go_wp2_with fail;refine (copyCheck17 B b g l _ h).mono ?_;rintro e w1 ⟨rfl, h1, hb1, hg1⟩;obtain ⟨hB, v, hbk, hown, hne, hng, hbg, hg⟩ := h1;rw [hbl] at hown;have HG1 := hid' hg1;have HNG := hid' hng;have HBG := hid' hbg;clear hg1 hng hbg hbl;have c0 : w1.cell? ⟨b, 0, none⟩ = some (.pointer (some ⟨b, 0, none⟩)) := by rw [Lib.cell_of_heap hbk]; rfl
 have c1 : w1.cell? ⟨b, 1, none⟩ = some v := by rw [Lib.cell_of_heap hbk]; rfl
 go_wp2_with (at_builtin; refine wpList_append_own_at _ rfl _ _ 78 rfl B 5 i0 (.int .u8 0) 1 1 Tryz.underlying78 hi hz0 hz1 hz2 rfl (by decide) _ _ _ rfl (hown.alloc _) ⟨w1.heap.size, 0, none⟩ 1 1 [.int .u8 c] rfl rfl ?c1 ?c2 ?c3 ?c4 ?c5 ?_)
 case c1 => exact one_cell17 _ _ _
 case c2 => intro u hu; simp at hu; subst hu; rfl
 case c3 => unfold maxLen; omega
 case c4 => omega
 case c5 => have := hb1.size; simp; omega
 intro v' w2 hown' hgrow _ hob;have hlt : b < w1.heap.size := (Array.getElem?_eq_some_iff.1 hbk).1;have hb2 : w2.heap[b]? = some (.cells #[.pointer (some ⟨b, 0, none⟩), v] 123 (0, 0)) := by
  rw [hgrow.block b (by simp; omega) (fun e => hne e.symm), Lib.alloc_old w1 _ b hlt];exact hbk
 have HG2 : Hid (w2.heap[g]? = w.heap[g]?) := hid' (by
  rw [hgrow.block g (by simp; omega) (fun e => HNG.out e.symm), Lib.alloc_old w1 _ g hg];exact HG1.out)
 have HOB : Hid (v'.ownBlock ≠ some b ∧ v'.ownBlock ≠ some g) := hid' (by
  rcases hob with e | e
  ·rw [e]; exact ⟨hne, HNG.out⟩
  ·rw [e];constructor
   ·simp; omega
   ·simp; omega)
 have d1 : w2.cell? ⟨b, 1, none⟩ = some v := by rw [Lib.cell_of_heap hb2]; rfl
 have f1 : w2.frozen? ⟨b, 1, none⟩ = false := Lib.frozen_of_heap hb2 1;have hg2 : g < w2.heap.size := by have := hgrow.size; simp at this; omega
 obtain ⟨g', cap, rfl⟩ : ∃ g cap, v' = .slice (some ⟨g, 0, none⟩) (l.length + 1) cap := by
  rcases hown'.2 with ⟨_, h0⟩ | ⟨g, cap, cur, hv, _⟩
  ·omega
  ·exact ⟨g, cap, hv⟩
 clear hob;go_wp2;go_ret;refine ⟨rfl, .inr ⟨hB, _, ?_, ?_, HOB.out.1, HOB.out.2, HBG.out, by simpa [World.setCell] using hg2⟩, ?_, ?_⟩
 ·simp [World.setCell, Array.getElem?_modify, hb2]
 ·rw [HX.out, List.length_append, Lib.byteCells_length];exact own_same hown' (fun j hj => (upd_setCell w2 b 1 _).block j (fun e => HOB.out.1 (by rw [← e]; exact hj)))
 ·exact ((hb1.alloc (by have := hb1.size; omega) _).grown hgrow (by have := hb1.size; simp; omega) (fun k hk => (hown.lt k hk).1)).setCell (p := ⟨b, 1, none⟩) hB _
 ·rw [(upd_setCell w2 b 1 _).block g (fun e => HBG.out e.symm)];exact HG2.out

section
variable {ops : Array Oper} {rest : List Oper} {o : Oper} {a : Act} {w : World} {Q : Exit → Act → World → Prop}
theorem wpl_tobytes17 (x : Operand) (ho : o.op = .convert 9 78 x) (hgd : o.guard = none) (s : ByteArray) (hx : a.eval x = .string s)
  (h : ∀ b cap w', w.heap.size ≤ b → b < w'.heap.size → (∀ j (hj : j < s.size), w'.cell? ⟨b, j, none⟩ = some (.int .u8 (s[j].toNat : Int))) → Below w.heap.size w w' → wpList Tryz.prog ops Q rest (a.put o.dst (.slice (some ⟨b, 0, none⟩) s.size cap)) w') :
  wpList Tryz.prog ops Q (o :: rest) a w := by
 refine wpList_plain hgd fun _ hK => ?_;have hr := Lib.run_convert_string_bytes (P := Tryz.prog) w 9 78 5 s Tryz.underlying9 Tryz.underlying78 Tryz.underlying5;unfold Oper.wp execOp;simp only [ho, hx, Sem.run_bind, Sem.run_pure, hr, Result.andThen_ok];refine hK _ _ (h w.heap.size _ _ (Nat.le_refl _) (by rw [Lib.bytesWorld_size]; omega) ?_ ?_)
 ·intro j hj;rw [Lib.bytesWorld_cell w 5 s j hj];have : s.data.toList.getD j 0 = s[j] := by
   rw [List.getD_eq_getElem?_getD, Tx.get_byte s j hj];rfl
  rw [this]
 ·exact ⟨rfl, rfl, rfl, by rw [Lib.bytesWorld_size]; omega, fun k hk => Lib.bytesWorld_at_old w _ _ k hk⟩
end

theorem cell_same17 {w w' : World} {g j : Nat} (h : w'.heap[g]? = w.heap[g]?) : w'.cell? ⟨g, j, none⟩ = w.cell? ⟨g, j, none⟩ := by
 unfold World.cell?;rw [h]
namespace Pt
theorem esc_take {l : T8} {k : Nat} {c : UInt8} (h : l[k]? = some c) : esc (l.take (k + 1)) = esc (l.take k) ++ esc1 c := by
 unfold esc;rw [List.take_add_one, h];simp
theorem esc1_len (c : UInt8) : (esc1 c).length ≤ 3 := by
 unfold esc1; split <;> simp
theorem escX_len (l : T8) : (esc l).length ≤ 3 * l.length := by
 unfold esc
 induction l with
 | nil => simp
 | cons c r ih =>
  rw [List.flatMap_cons, List.length_append, List.length_cons];have := esc1_len c;omega
end Pt

set_option maxRecDepth 20000 in
theorem xesc17 (s : ByteArray) (l : List UInt8) (hl : s.data.toList = l) (w : World) (hs : s.size ≤ 4194304) :
  Calls Tryz.prog 145 #[.string s] w fun e w' => e = .returned (.string ⟨(Pt.esc l).toArray⟩) ∧ Below w.heap.size w w' := by
 have HSZ : Hid (s.size = l.length) := hid' (by rw [Lib.size_eq, hl]);have HGB : Hid (∀ k (h : k < s.size), l[k]? = some s[k]) := hid' (fun k h => by rw [← hl]; exact Tx.get_byte s k h);clear hl;obtain ⟨hb, hhb⟩ : ∃ hb, hexB17 = hb := ⟨_, rfl⟩;have HHB : Hid (hb = hexB17) := hid' hhb.symm;have HHL : Hid ((⟨#[48, 49, 50, 51, 52, 53, 54, 55, 56, 57, 65, 66, 67, 68, 69, 70]⟩ : ByteArray) = hb) := hid' hhb;have HBS : Hid (hb.size = 16) := hid' (by rw [← hhb]; rfl);clear hhb;go_enter Tryz.func145, Tryz.ntmps145;go_wp2_with (refine wpl_alloc 123 rfl rfl _ zeroBd17 ?_);intro b w1 hb1 ha1 hl1;go_wp2_with (refine wpl_tobytes17 _ rfl rfl s (by kernel_rfl) ?_);intro g gc w2 hg1 hg2 hgc hl2;have hbg : b ≠ g := by have := ha1.lt; omega
 have HS1 : Hid (BG17 w2 w.heap.size b g [] ∧ Below w.heap.size w w2) := hid' ⟨.inl ⟨hb1, .slice none 0 0, by rw [hl2.block b ha1.lt]; exact ha1, World.ownsRow_nil _ _ _ _, by simp [Value.ownBlock], by simp [Value.ownBlock], hbg, hg2⟩, below_two hl1 hl2⟩;have HGC := hid' hgc;clear hb1 ha1 hl1 hg1 hg2 hgc hl2 hbg;go_wp2;go_loopw [9] (fun s9 wr => ∃ k : Nat, s9 = .int .i64 (k : Int) ∧ k ≤ s.size ∧ Hid (BG17 wr w.heap.size b g (Pt.esc (l.take k))) ∧ Hid (wr.heap[g]? = w2.heap[g]?) ∧ Hid (Below w.heap.size w wr)) (fun s9 _ => s.size - (intOf s9).toNat)
 case atStart => exact ⟨0, rfl, Nat.zero_le _, hid' HS1.out.1, hid' rfl, hid' HS1.out.2⟩
 case round =>
  obtain ⟨k, rfl, hk, HO, HG, HB⟩ := hrel;by_cases hlt : k < s.size
  ·have hlt2 : (k : Int) < (s.size : Int) := by omega
   have y0 : wr.cell? ⟨g, k, none⟩ = some (.int .u8 (s[k].toNat : Int)) := (cell_same17 HG.out).trans (HGC.out k hlt);have HET := hid' (Pt.esc_take (HGB.out k hlt));have HEL : Hid ((Pt.esc (l.take k)).length ≤ 3 * 4194304) := hid' (by
    have h1 := Pt.escX_len (l.take k);have h2 : (l.take k).length ≤ k := by rw [List.length_take]; omega
    omega)
   generalize Pt.esc (l.take k) = Z at *;have HBA := hid' (fun W => cbare17 s[k] W);obtain ⟨c, hc⟩ : ∃ c, s[k] = c := ⟨_, rfl⟩;rw [hc] at y0 HET HBA;have c256 := c.toNat_lt;clear hc;cases hp : Pt.plain c
   ·rw [hp] at HBA;have HE1 : Hid (Pt.esc1 c = [37, Pt.hd16 (c.toNat / 16), Pt.hd16 (c.toNat % 16)]) := hid' (by unfold Pt.esc1; rw [hp]; rfl);have HW1 := hid' (fun W (h : BG17 W w.heap.size b g Z) (hW : w.heap.size ≤ W.heap.size) => writeByte17 w.heap.size b g Z 37 37 rfl W h (by have := HEL.out; omega) hW);obtain ⟨q, hq⟩ : ∃ q : Nat, c.toNat / 16 = q := ⟨_, rfl⟩;obtain ⟨r, hr⟩ : ∃ r : Nat, c.toNat % 16 = r := ⟨_, rfl⟩;rw [hq, hr] at HE1;have hq16 : q < 16 := by omega
    have hr16 : r < 16 := by omega
    go_wp2_with fail;refine (HBA.out _).mono ?_;rintro e w3 ⟨rfl, hw⟩;subst w3;go_wp2_with fail;refine (HW1.out _ HO.out HB.out.size).mono ?_;rintro e w3 ⟨rfl, h1, h2, h3⟩;have HO3 := hid' h1;have HB3 := hid' (HB.out.trans h2);have HG3 := hid' (h3.trans HG.out);clear h1 h2 h3;go_wp2_with fail;refine (writeByte17 w.heap.size b g (Z ++ [37]) (Pt.hd16 q) _ (congrArg (fun x : UInt8 => (x.toNat : Int)) (hexB_at17 q hq16 (by show q < 16; omega))) _ HO3.out (by have := HEL.out; rw [List.length_append]; simp; omega) HB3.out.size).mono ?_;rintro e w4 ⟨rfl, h1, h2, h3⟩;have HO4 := hid' h1;have HB4 := hid' (HB3.out.trans h2);have HG4 := hid' (h3.trans HG3.out);clear h1 h2 h3;go_wp2_with fail;refine (writeByte17 w.heap.size b g (Z ++ [37] ++ [Pt.hd16 q]) (Pt.hd16 r) _ (congrArg (fun x : UInt8 => (x.toNat : Int)) (hexB_at17 r hr16 (by show r < 16; omega))) _ HO4.out (by have := HEL.out; rw [List.length_append, List.length_append]; simp; omega) HB4.out.size).mono ?_;rintro e w5 ⟨rfl, h1, h2, h3⟩;have HO5 := hid' h1;have HB5 := hid' (HB4.out.trans h2);have HG5 := hid' (h3.trans HG4.out);clear h1 h2 h3;go_wp2;go_roundw
    case rel => exact ⟨k + 1, by go_num, by omega, hid' (by rw [HET.out, HE1.out]; have := HO5.out; simpa using this), HG5, HB5⟩
    case measure => simp [intOf]; omega
   ·rw [hp] at HBA;have HE1 : Hid (Pt.esc1 c = [c]) := hid' (by unfold Pt.esc1; rw [hp]; rfl);have HW1 := hid' (fun W (h : BG17 W w.heap.size b g Z) (hW : w.heap.size ≤ W.heap.size) => writeByte17 w.heap.size b g Z c _ rfl W h (by have := HEL.out; omega) hW);go_wp2_with fail;refine (HBA.out _).mono ?_;rintro e w3 ⟨rfl, hw⟩;subst w3;go_wp2_with fail;refine (HW1.out _ HO.out HB.out.size).mono ?_;rintro e w3 ⟨rfl, h1, h2, h3⟩;have HO3 := hid' h1;have HB3 := hid' (HB.out.trans h2);have HG3 := hid' (h3.trans HG.out);clear h1 h2 h3;go_wp2;go_roundw
    case rel => exact ⟨k + 1, by go_num, by omega, hid' (by rw [HET.out, HE1.out]; exact HO3.out), HG3, HB3⟩
    case measure => simp [intOf]; omega
  ·have hlt2 : ¬ (k : Int) < (s.size : Int) := by omega
   have HE : Hid (l.take k = l) := hid' (List.take_of_length_le (by have := HSZ.out; omega));rw [HE.out] at HO;have HST := hid' (string17 w.heap.size b (Pt.esc l) wr HO.out.bld HB.out.size);clear hlt;go_wp2_with fail;refine HST.out.mono ?_;rintro e w3 ⟨rfl, h2⟩;have HB2 := hid' (HB.out.trans h2);clear h2;go_wp2;go_ret;exact ⟨rfl, HB2.out⟩


theorem rp_done19 (r : Fs.Rp) {w0 w wf : World} {rb n : Nat} {vo : Option Addr} {vc : Nat} {s : Int} {b : ByteArray} (hs : r.s = s) (hbb : (⟨r.b.toArray⟩ : ByteArray) = b) (hw : Below w0.heap.size w0 w) (hrb : rb < w.heap.size) (hr0 : w0.heap.size ≤ rb) {wp : World} (hb : Below w.heap.size w wp)
  (hl : r.fs.length = n) (ho : wp.ownsRow w.heap.size 44 2 (.slice vo n vc) n (fC r.fs)) (hu : Upd rb wp wf) :
  (∃ vo' n' vc', Ending.returned (.agg #[.int .i64 s, .slice vo n vc, .string b, .slice none 0 0]) = .returned (.agg #[.int .i64 r.s, .slice vo' n' vc', .string ⟨r.b.toArray⟩, .slice none 0 0]) ∧ r.fs.length = n' ∧ wf.ownsRow w0.heap.size 44 2 (.slice vo' n' vc') n' (fC r.fs)) ∧ Below w0.heap.size w0 wf := by
 subst hs hbb;exact ⟨⟨vo, n, vc, rfl, hl, own_upd19 ho hu hrb hw.size⟩, (below_two hw hb).trans (hu.below hr0)⟩
theorem str_snoc19 (l : List UInt8) (c : UInt8) : (⟨l.toArray⟩ ++ ⟨#[c]⟩ : ByteArray) = ⟨(l ++ [c]).toArray⟩ := str_snoc l c

theorem cs_keep19 {w w' : World} {B sb : Nat} {K : Nat → Prop} {q : Int} {es : List Dk.En} (h : CS w B sb K q es) (hb : Below w.heap.size w w') : CS w' B sb K q es := by
 obtain ⟨m, E, clock, h, hk⟩ := h;exact ⟨m, E, clock, h.keep hb, hk⟩
theorem clist19 (B sb : Nat) (K : Nat → Prop) (q : Int) (es : List Dk.En) (y : ByteArray) (l : List UInt8) (hl : y.data.toList = l) (W : World) (h : CS W B sb K q es) (hy : y.size ≤ 140737488355328) :
  Calls Tryz.prog 144 #[.pointer (some ⟨sb, 0, none⟩), .string y] W fun e w' => (∃ m ro rc, e = .returned (.slice ro m rc) ∧ (Dk.lst l es).length = m) ∧ Below W.heap.size W w' := by
 subst hl;refine (slist13 B sb K q es y W h hy).mono ?_;rintro e w' ⟨⟨m, ro, rc, he, hm, _⟩, hb⟩;exact ⟨⟨m, ro, rc, he, hm⟩, hb⟩
theorem snoc_size19 (y : ByteArray) (c : UInt8) : (y ++ ⟨#[c]⟩ : ByteArray).size = y.size + 1 := by rw [ByteArray.size_append]; rfl
theorem snoc_list19 (y : ByteArray) (c : UInt8) : (y ++ ⟨#[c]⟩ : ByteArray).data.toList = y.data.toList ++ [c] := by simp [ByteArray.data_append]

set_option maxRecDepth 20000 in
theorem cmissing19 (B sb : Nat) (K : Nat → Prop) (q : Int) (es : List Dk.En) (pl target rest : ByteArray) (w : World) (h : CS w B sb K q es) (hp : pl.size ≤ 2097163) (ht : target.size ≤ 1048576) (hr : rest.size ≤ 1048576) (hT : TB19 w) :
  Calls Tryz.prog 114 #[.pointer (some ⟨sb, 0, none⟩), .string pl, .string target, .string rest] w fun e w' => RP19 w w' e (if !Fs.folder rest.data.toList && !(Dk.lst (pl.data.toList ++ [47]) es).isEmpty then Fs.plain 301 [Fs.fd Fs.nLO (Pt.esc target.data.toList ++ [47])] else Fs.plain 404 []) := by
 have HT := hid' hT;have HF := hid' (fun W => cfolder19 rest _ rfl (by omega) W);have hps : (pl ++ ⟨#[47]⟩ : ByteArray).size ≤ 140737488355328 := by rw [snoc_size19]; omega
 have HLS := hid' (fun W (hW : CS W B sb K q es) => clist19 B sb K q es (pl ++ ⟨#[47]⟩) _ (snoc_list19 pl 47) W hW hps);have HE := hid' (fun W => xesc17 target _ rfl W (by omega));have h404 := hid' (fun W (hh : TB19 W) => cplain19 404 (.slice none 0 0) [] W (by decide) (by decide) (fw_nil19 W) (by decide) hh);have hes : (Pt.esc target.data.toList).length ≤ 3145728 := by
  have := Pt.escX_len target.data.toList;rw [← Lib.size_eq] at this;omega
 have HES := hid' (str_snoc19 (Pt.esc target.data.toList) 47);have HS := hid' h;have e1 : pl.size + 1 ≤ 9223372036854775807 := by omega
 have e2 : ¬ 9223372036854775807 < (Pt.esc target.data.toList).length + 1 := by omega
 obtain ⟨em, hem⟩ : ∃ em, (Dk.lst (pl.data.toList ++ [47]) es).isEmpty = em := ⟨_, rfl⟩;have hem2 : em = decide ((Dk.lst (pl.data.toList ++ [47]) es).length = 0) := by rw [← hem]; cases Dk.lst (pl.data.toList ++ [47]) es <;> rfl
 rw [hem];generalize Dk.lst (pl.data.toList ++ [47]) es = ls at *;generalize Pt.esc target.data.toList = ec at *;generalize Fs.folder rest.data.toList = fo at *;clear h hp ht hr hT hem hps hes;unfold RP19 rpC at h404 ⊢;go_enter Tryz.func114, Tryz.ntmps114;go_wp2_with (refine wpl_alloc 38 rfl rfl _ zeroRp19 ?_);intro rb w1 hrb ha1 hl1;have HA1 := hid' ha1;have HB1 := hid' hl1;have HRB := hid' hrb;have HS1 := hid' (cs_keep19 HS.out hl1);clear hrb ha1 hl1;go_wp2_with fail;refine (HF.out w1).mono ?_;rintro e w2 ⟨rfl, hw2⟩;subst w2;have no (w3 : World) (hb3 : Below w1.heap.size w1 w3) : Calls Tryz.prog 35 #[.int .i64 404, .slice none 0 0] w3 _ := h404.out w3 (tb_below19 HT.out (below_two HB1.out hb3));have HNO := hid' no;clear no;cases fo
 ·go_wp2_with fail;refine (HLS.out w1 HS1.out).mono ?_;rintro e w3 ⟨⟨m, ro, rc, rfl, hm⟩, hb3⟩;have HB3 := hid' (below_two HB1.out hb3);have HA3 := hid' (HA1.out.keep hb3);have HB13 := hid' hb3;rw [hm] at hem2;clear hb3 hm;by_cases hm0 : m = 0
  ·have hm1 : ((m : Int) == 0) = true := by rw [hm0]; rfl
   have hee : em = true := by rw [hem2, hm0]; rfl
   subst hee;clear hm0 hem2;go_wp2_with fail;refine (HNO.out w3 HB13.out).mono ?_;rintro e w4 ⟨⟨vo, n, vc, rfl, hn, ho⟩, hb4⟩;have HN4 := hid' hn;have HO4 := hid' ho;have HB4 := hid' hb4;have HA4 := hid' (HA3.out.keep hb4);clear hn ho hb4;obtain ⟨bd, hbd⟩ : ∃ bd : ByteArray, (⟨(Fs.plain 404 []).b.toArray⟩ : ByteArray) = bd := ⟨_, rfl⟩;rw [show (Fs.plain 404 []).s = 404 from rfl, hbd];have HBD := hid' hbd;clear hbd;go_wp2_with (refine wpl_store 38 _ _ rfl rfl rb #[.int .i64 404, .slice vo n vc, .string bd, .slice none 0 0] (by kernel_rfl) (by kernel_rfl) _ _ HA4.out sizeRp19 rfl (by simp [Value.oneCell']) ?_);intro wf hwf huf;go_wp2;have hld := ldRp19 hwf;exact bodyPost_ret (v := .agg #[.int .i64 404, .slice vo n vc, .string bd, .slice none 0 0]) (by simp [results, Tryz.results114, asAddr, hld]) rfl (rp_done19 (Fs.plain 404 []) rfl HBD.out HB3.out HA3.out.lt HRB.out HB4.out HN4.out HO4.out huf)
  ·have hm1 : ((m : Int) == 0) = false := by simp; omega
   have hee : em = false := by rw [hem2]; exact decide_eq_false hm0
   subst hee;clear hm0 hem2;go_wp2_with fail;refine (HE.out w3).mono ?_;rintro e w4 ⟨rfl, hb4⟩;have HB4 := hid' (below_two HB3.out hb4);have HA4 := hid' (HA3.out.keep hb4);clear hb4 HB3 HA3;obtain ⟨lo, hlo⟩ : ∃ lo : ByteArray, ⟨(ec ++ [47]).toArray⟩ = lo := ⟨_, rfl⟩;have hfd : Fs.fd Fs.nLO (ec ++ [47]) = ⟨⟨#[108, 111, 99, 97, 116, 105, 111, 110]⟩, lo⟩ := by rw [← hlo]; rfl
   rw [hlo] at HES;have HFD := hid' hfd;have HL : Hid (FW (w4.alloc (.cells #[.string ⟨#[108, 111, 99, 97, 116, 105, 111, 110]⟩, .string lo] 44)) (.slice (some ⟨w4.heap.size, 0, none⟩) 1 1) [Fs.fd Fs.nLO (ec ++ [47])]) := hid' (by rw [hfd]; exact fw_lit19 w4 [⟨⟨#[108, 111, 99, 97, 116, 105, 111, 110]⟩, lo⟩] 1 rfl (by decide));have hb5 := bl_alloc19 w4 (.cells #[.string ⟨#[108, 111, 99, 97, 116, 105, 111, 110]⟩, .string lo] 44);have HB5 := hid' (below_two HB4.out hb5);have HA5 := hid' (HA4.out.keep hb5);have hsum := HES.out;clear hb5 hfd hlo HES;go_wp2_with fail;refine (cplain19 301 (.slice (some ⟨w4.heap.size, 0, none⟩) 1 1) [Fs.fd Fs.nLO (ec ++ [47])] _ (by decide) (by decide) HL.out (Nat.le_of_ble_eq_true rfl) (tb_below19 HT.out HB5.out)).mono ?_;rintro e w6 ⟨⟨vo, n, vc, rfl, hn, ho⟩, hb6⟩;have HN6 := hid' hn;have HO6 := hid' ho;have HB6 := hid' hb6;have HA6 := hid' (HA5.out.keep hb6);clear hn ho hb6 hsum;unfold rpC;obtain ⟨bd, hbd⟩ : ∃ bd : ByteArray, (⟨(Fs.plain 301 [Fs.fd Fs.nLO (ec ++ [47])]).b.toArray⟩ : ByteArray) = bd := ⟨_, rfl⟩;rw [show (Fs.plain 301 [Fs.fd Fs.nLO (ec ++ [47])]).s = 301 from rfl, hbd];have HBD := hid' hbd;clear hbd;go_wp2_with (refine wpl_store 38 _ _ rfl rfl rb #[.int .i64 301, .slice vo n vc, .string bd, .slice none 0 0] (by kernel_rfl) (by kernel_rfl) _ _ HA6.out sizeRp19 rfl (by simp [Value.oneCell']) ?_);intro wf hwf huf;go_wp2;have hld := ldRp19 hwf;exact bodyPost_ret (v := .agg #[.int .i64 301, .slice vo n vc, .string bd, .slice none 0 0]) (by simp [results, Tryz.results114, asAddr, hld]) rfl (rp_done19 (Fs.plain 301 [Fs.fd Fs.nLO (ec ++ [47])]) rfl HBD.out HB5.out HA5.out.lt HRB.out HB6.out HN6.out HO6.out huf)
 ·go_wp2_with fail;refine (HNO.out w1 (Below.refl _ _)).mono ?_;rintro e w4 ⟨⟨vo, n, vc, rfl, hn, ho⟩, hb4⟩;have HN4 := hid' hn;have HO4 := hid' ho;have HB4 := hid' hb4;have HA4 := hid' (HA1.out.keep hb4);clear hn ho hb4;obtain ⟨bd, hbd⟩ : ∃ bd : ByteArray, (⟨(Fs.plain 404 []).b.toArray⟩ : ByteArray) = bd := ⟨_, rfl⟩;rw [show (Fs.plain 404 []).s = 404 from rfl, hbd];have HBD := hid' hbd;clear hbd;go_wp2_with (refine wpl_store 38 _ _ rfl rfl rb #[.int .i64 404, .slice vo n vc, .string bd, .slice none 0 0] (by kernel_rfl) (by kernel_rfl) _ _ HA4.out sizeRp19 rfl (by simp [Value.oneCell']) ?_);intro wf hwf huf;go_wp2;have hld := ldRp19 hwf;exact bodyPost_ret (v := .agg #[.int .i64 404, .slice vo n vc, .string bd, .slice none 0 0]) (by simp [results, Tryz.results114, asAddr, hld]) rfl (rp_done19 (Fs.plain 404 []) rfl HBD.out HB1.out HA1.out.lt HRB.out HB4.out HN4.out HO4.out huf)


namespace Rg
theorem good19 {l : T8} {n : Int} (h : err l n = 0) : (pcs (l.drop 6)).all (fun p => (pc p n).2.2) = true ∧ (pcs (l.drop 6)).length ≤ 8 := by
 unfold err at h;split at h
 ·cases h
 ·split at h
  ·split at h
   ·cases h
   ·rename_i h1;split at h
    ·cases h
    ·rename_i h2;refine ⟨?_, by omega⟩;simp only [Bool.or_eq_true, Bool.not_eq_true', not_or, Bool.not_eq_false] at h1;exact h1.2
  ·cases h
theorem res_wth19 {l : T8} {n : Int} (n0 : 0 ≤ n) {r : Rn} (h : r ∈ res l n) : wth r n = true := by
 unfold res at h;split at h
 ·rename_i he;obtain ⟨hall, _⟩ := good19 (beq_iff_eq.1 he);unfold outs at h;obtain ⟨p, hp, rfl⟩ := List.mem_map.1 h;obtain ⟨hp1, hp2⟩ := List.mem_filter.1 hp;rw [pc_wth n0 (List.all_eq_true.1 hall p hp1)];exact hp2
 ·cases h
theorem res_len19 (l : T8) (n : Int) : (res l n).length ≤ 8 := by
 unfold res;split
 ·rename_i he;obtain ⟨_, h8⟩ := good19 (beq_iff_eq.1 he);unfold outs;rw [List.length_map];exact Nat.le_trans (List.length_filter_le _ _) h8
 ·exact Nat.zero_le _
end Rg
namespace Fs
theorem rgd_161 {kd : T8} {e : Dk.En} {v : T8} (h : Rg.err v e.body.size = 161) : rgd kd e v = plain 416 [fd nCR (Rg.unmet e.body.size)] := by
 unfold rgd; rw [h]; rfl
theorem rgd_bad {kd : T8} {e : Dk.En} {v : T8} (h : Rg.err v e.body.size ≠ 161) (h0 : Rg.err v e.body.size ≠ 0) : rgd kd e v = whole kd e := by
 unfold rgd; rw [if_neg (by simpa using h), if_neg (by simpa using h0)]
theorem rgd_one {kd : T8} {e : Dk.En} {v : T8} {r : Rg.Rn} (h0 : Rg.err v e.body.size = 0) (h : Rg.res v e.body.size = [r]) : rgd kd e v = one kd e r := by
 unfold rgd; rw [h0, h]; rfl
theorem rgd_sev {kd : T8} {e : Dk.En} {v : T8} (h0 : Rg.err v e.body.size = 0) (h : (Rg.res v e.body.size).length ≠ 1) : rgd kd e v = sev kd e (Rg.res v e.body.size) := by
 unfold rgd;rw [h0];generalize Rg.res v e.body.size = rs at *
 match rs, h with
 | [], _ => rfl
 | [r], h => exact absurd rfl h
 | _ :: _ :: _, _ => rfl
end Fs

set_option maxRecDepth 20000 in
theorem cranged19 (p y : ByteArray) (t q : Int) (he : EN19 ⟨p, y, t, q⟩) (hp : p.size ≤ 140737488355328) (x : ByteArray) (hx : x.size ≤ 1048576) (w : World) (hT : TB19 w) :
  Calls Tryz.prog 118 #[.agg #[.string p, .string y, .int .i64 t, .int .i64 q], .string x] w fun e w' => RP19 w w' e (Fs.rgd (Fs.kind p.data.toList) ⟨p, y, t, q⟩ x.data.toList) := by
 have hy := he.b;simp only at hy;have HT := hid' hT;have HP := hid' (fun W (h : TB19 W) => cparse16 x _ rfl (y.size : Int) (by omega) W hx h);have HU := hid' (fun W (h : TB19 W) => cunmet16 (y.size : Int) W (by omega) (by omega) h);have HWH := hid' (fun W (h : TB19 W) => cwhole19 p y t q he hp W h);have HSI := hid' (fun (A C : Nat) (hac : A ≤ C) (hc : C < y.size) W (h : TB19 W) => csingle19 p y t q he hp A C hac hc W h);have HSE := hid' (fun (ro : Option Addr) (m rc : Nat) (rs : List Rg.Rn) (hm : rs.length = m) (hmb : m ≤ 1048576) W (hr : RW16 W ro rs) (h : TB19 W) => cseveral19 p y t q he hp ro m rc rs hm hmb W hr h);have HWT := hid' (fun (r : Rg.Rn) (h : r ∈ Rg.res x.data.toList (y.size : Int)) => Rg.res_wth19 (by omega) h);have h8 := Rg.res_len19 x.data.toList (y.size : Int);have R1 := Fs.rgd_161 (kd := Fs.kind p.data.toList) (e := ⟨p, y, t, q⟩) (v := x.data.toList);have R2 := Fs.rgd_bad (kd := Fs.kind p.data.toList) (e := ⟨p, y, t, q⟩) (v := x.data.toList);have R3 := fun r => Fs.rgd_one (kd := Fs.kind p.data.toList) (e := ⟨p, y, t, q⟩) (v := x.data.toList) (r := r);have R4 := Fs.rgd_sev (kd := Fs.kind p.data.toList) (e := ⟨p, y, t, q⟩) (v := x.data.toList);simp only at R1 R2 R3 R4;generalize Fs.rgd (Fs.kind p.data.toList) ⟨p, y, t, q⟩ x.data.toList = R at *;generalize Rg.res x.data.toList (y.size : Int) = rs at *;generalize Rg.err x.data.toList (y.size : Int) = er at *;have HR1 := hid' R1;have HR2 := hid' R2;have HR3 := hid' R3;have HR4 := hid' R4;have H8 := hid' h8;unfold RP19 rpC at HWH HSI HSE ⊢;clear hT he hp hx hy h8 R1 R2 R3 R4;go_enter Tryz.func118, Tryz.ntmps118;go_wp2_with (refine wpl_box 68 _ rfl rfl #[.string p, .string y, .int .i64 t, .int .i64 q] (by kernel_rfl) ?_);intro xb w1 hg1 ha1 hb1;have HX1 := hid' ha1;have HB1 := hid' hb1;clear hg1 ha1 hb1;go_wp2_with (refine wpl_alloc 38 rfl rfl _ zeroRp19 ?_);intro rb w2 hrb ha2 hl2;have HA2 := hid' ha2;have HB2 := hid' (below_two HB1.out hl2);have HRB : Hid (w.heap.size ≤ rb) := hid' (Nat.le_trans HB1.out.size hrb);have HR0 := hid' hrb;have HL2 := hid' hl2;have HX2 := hid' (HX1.out.keep hl2);have x1 := HX2.out.cell 1 _ rfl;clear hrb ha2 hl2;go_wp2_with fail;refine (HP.out w2 (tb_below19 HT.out HB2.out)).mono ?_;rintro e w3 ⟨⟨m, ro, rc, rfl, hm, ho3⟩, hb3⟩;have HM := hid' hm;have HO3 := hid' ho3;have HX3 := hid' (HX2.out.keep hb3);have HA3 := hid' (HA2.out.keep hb3);have HB3 := hid' (below_two HB2.out hb3);have HB13 := hid' (below_two HL2.out hb3);have HRL := hid' HA2.out.lt;clear hm ho3 hb3 x1 HX2;by_cases h161 : er = 161
 ·have hc1 : (er == 161) = true := by rw [h161]; rfl
  have HR := hid' (HR1.out h161);clear h161 HR1 HR2 HR3 HR4;go_wp2_with fail;refine (HU.out w3 (tb_below19 HT.out HB3.out)).mono ?_;rintro e w4 ⟨rfl, hb4⟩;have HA4 := hid' (HA3.out.keep hb4);have HB4 := hid' (below_two HB3.out hb4);obtain ⟨u, hu⟩ : ∃ u : ByteArray, (⟨(Rg.unmet (y.size : Int)).toArray⟩ : ByteArray) = u := ⟨_, rfl⟩;rw [hu];have hfd : Fs.fd Fs.nCR (Rg.unmet (y.size : Int)) = ⟨⟨#[99, 111, 110, 116, 101, 110, 116, 45, 114, 97, 110, 103, 101]⟩, u⟩ := by rw [← hu]; rfl
  have HFD := hid' hfd;clear hb4 hfd hu;go_wp2_with fail;refine (ctoldF19 u w4).mono ?_;rintro e w5 ⟨rfl, hb5⟩;have HA5 := hid' (HA4.out.keep hb5);have HB5 := hid' (below_two HB4.out hb5);have HL : Hid (FW (w5.alloc (.cells #[.string ⟨#[99, 111, 110, 116, 101, 110, 116, 45, 114, 97, 110, 103, 101]⟩, .string u] 44)) (.slice (some ⟨w5.heap.size, 0, none⟩) 1 1) [Fs.fd Fs.nCR (Rg.unmet (y.size : Int))]) := hid' (by rw [HFD.out]; exact fw_lit19 w5 [⟨⟨#[99, 111, 110, 116, 101, 110, 116, 45, 114, 97, 110, 103, 101]⟩, u⟩] 1 rfl (by decide));have hb6 := bl_alloc19 w5 (.cells #[.string ⟨#[99, 111, 110, 116, 101, 110, 116, 45, 114, 97, 110, 103, 101]⟩, .string u] 44);have HB6 := hid' (below_two HB5.out hb6);have HA6 := hid' (HA5.out.keep hb6);clear hb5 hb6;go_wp2_with fail;refine (cplain19 416 (.slice (some ⟨w5.heap.size, 0, none⟩) 1 1) [Fs.fd Fs.nCR (Rg.unmet (y.size : Int))] _ (by decide) (by decide) HL.out (Nat.le_of_ble_eq_true rfl) (tb_below19 HT.out HB6.out)).mono ?_;rintro e w7 ⟨⟨vo, n, vc, rfl, hn, ho⟩, hb7⟩;have HN7 := hid' hn;have HO7 := hid' ho;have HB7 := hid' hb7;have HA7 := hid' (HA6.out.keep hb7);clear hn ho hb7;unfold rpC;obtain ⟨bd, hbd⟩ : ∃ bd : ByteArray, (⟨(Fs.plain 416 [Fs.fd Fs.nCR (Rg.unmet (y.size : Int))]).b.toArray⟩ : ByteArray) = bd := ⟨_, rfl⟩;rw [show (Fs.plain 416 [Fs.fd Fs.nCR (Rg.unmet (y.size : Int))]).s = 416 from rfl, hbd];have HBD := hid' hbd;clear hbd;go_wp2_with (refine wpl_store 38 _ _ rfl rfl rb #[.int .i64 416, .slice vo n vc, .string bd, .slice none 0 0] (by kernel_rfl) (by kernel_rfl) _ _ HA7.out sizeRp19 rfl (by simp [Value.oneCell']) ?_);intro wf hwf huf;go_wp2;have hld := ldRp19 hwf;rw [HR.out];exact bodyPost_ret (v := .agg #[.int .i64 416, .slice vo n vc, .string bd, .slice none 0 0]) (by simp [results, Tryz.results118, asAddr, hld]) rfl (rp_done19 (Fs.plain 416 [Fs.fd Fs.nCR (Rg.unmet (y.size : Int))]) rfl HBD.out HB6.out HA6.out.lt HRB.out HB7.out HN7.out HO7.out huf)
 ·have hc1 : (er == 161) = false := by simpa using h161
  by_cases h0 : er = 0
  ·have hc2 : (er != 0) = false := by rw [h0]; rfl
   have hc3 : (er == 0) = true := by rw [h0]; rfl
   by_cases hm1 : m = 1
   ·have hc4 : ((m : Int) == 1) = true := by rw [hm1]; rfl
    obtain ⟨r, hr⟩ : ∃ r, rs = [r] := by
     have := HM.out;rw [hm1] at this
     match rs, this with
     | [r], _ => exact ⟨r, rfl⟩
    obtain ⟨A, C, hrr, hac, hcy⟩ := Rg.wth_nat (HWT.out r (by rw [hr]; exact List.mem_singleton.2 rfl));have HR := hid' (HR3.out r h0 hr);rw [hrr] at HR;obtain ⟨ad, had, hadl, k0, k1⟩ := RW16.own (hr ▸ HO3.out) 0 r rfl;subst had;rw [hrr] at k0 k1;have k0' : w3.cell? ad = some (.int .i64 (A : Int)) := by simpa [Addr.add] using k0
    have k1' : w3.cell? ⟨ad.block, ad.off + 1, none⟩ = some (.int .i64 (C : Int)) := by simpa [Addr.add] using k1
    have hge : w2.heap.size ≤ ad.block := own_ge19 HO3.out ad.block rfl;have hbl : ad.block < w3.heap.size := by simpa [Addr.add] using hadl
    have HS := hid' (fun W (h : TB19 W) => HSI.out A C hac hcy W h);have HNE : Hid (ad.block ≠ rb) := hid' (by have := HRL.out; omega);have HM1 := hid' hm1;subst hm1;clear HR1 HR2 HR3 HR4 h161 h0 hr hrr k0 k1 hadl hge HSI HSE HWH;go_upto_region 8 with fail;refine wp_region_held_drew (S := fun W => Below w1.heap.size w1 W ∧ W.cell? ad = some (.int .i64 (A : Int)) ∧ W.cell? ⟨ad.block, ad.off + 1, none⟩ = some (.int .i64 (C : Int))) (by kernel_rfl) ⟨HB13.out.drew, k0', k1'⟩ (fun hHeld => ?_);refine take_d19 (i := 0) (d := some 35) (v := ?_) rfl rfl (by kernel_rfl) (by kernel_rfl) (by kernel_rfl) (fun _ _ _ h => h) (Or.inl ⟨by rfl, ?_⟩) (by assumption) ?_;rotate_left
    ·intro w hSw
     (try dsimp only at hSw)
     obtain ⟨hSb, s0, s1⟩ := hSw;have ha := HX1.out.keep hSb;have c0 := ha.cell 0 _ rfl;have c1 := ha.cell 1 _ rfl;have c2 := ha.cell 2 _ rfl;have c3 := ha.cell 3 _ rfl;go_simp
     try with_reducible rfl
    refine take_d19 (i := 1) (d := some 36) (v := ?_) rfl rfl (by kernel_rfl) (by kernel_rfl) (by kernel_rfl) (fun _ _ _ h => h) (Or.inl ⟨by rfl, ?_⟩) (by assumption) ?_;rotate_left
    ·intro w hSw;go_simp
     try with_reducible rfl
    refine take_d19 (i := 2) (d := some 37) (v := ?_) rfl rfl (by kernel_rfl) (by kernel_rfl) (by kernel_rfl) (fun _ _ _ h => h) (Or.inl ⟨by rfl, ?_⟩) (by assumption) ?_;rotate_left
    ·intro w hSw
     (try dsimp only at hSw)
     obtain ⟨_, s0, s1⟩ := hSw;go_simp
     try with_reducible rfl
    refine take_d19 (i := 3) (d := some 38) (v := ?_) rfl rfl (by kernel_rfl) (by kernel_rfl) (by kernel_rfl) (fun _ _ _ h => h) (Or.inl ⟨by rfl, ?_⟩) (by assumption) ?_;rotate_left
    ·intro w hSw
     (try dsimp only at hSw)
     obtain ⟨_, s0, s1⟩ := hSw;go_simp
     try with_reducible rfl
    try simp only [Act.put, List.setIfInBounds_toArray, List.set_cons_zero, List.set_cons_succ]
    refine wpAnyH_ready (rs := [4]) (by kernel_rfl) (by simp) ?_;refine AllReadyH.cons rfl (fun K hK => ?_) AllReadyH.nil;go_simp;refine (HS.out _ (tb_below19 (tb_below19 HT.out HB1.out) hHeld.1)).mono ?_;rintro e w7 ⟨⟨vo, n, vc, rfl, hn, ho⟩, hb7⟩;have HN7 := hid' hn;have HO7 := hid' ho;have HA7 := hid' (Ar.keep (show Ar w3.drew rb _ _ from HA3.out) hb7);have HB7 : Hid (Below w3.heap.size w3 w7) := hid' ⟨hb7.os, hb7.tape, hb7.output, hb7.size, hb7.block⟩;clear hn ho;obtain ⟨bd, hbd⟩ : ∃ bd : ByteArray, (⟨(Fs.one (Fs.kind p.data.toList) ⟨p, y, t, q⟩ ⟨(A : Int), (C : Int)⟩).b.toArray⟩ : ByteArray) = bd := ⟨_, rfl⟩;rw [show (Fs.one (Fs.kind p.data.toList) ⟨p, y, t, q⟩ ⟨(A : Int), (C : Int)⟩).s = 206 from rfl, hbd];have HBD := hid' hbd;clear hbd;go_wp2_with fail;refine hK.out _ _ ⟨below_two hHeld.1 hb7, (hb7.cell (p := ad) hbl).trans hHeld.2.1, (hb7.cell (p := ⟨ad.block, ad.off + 1, none⟩) hbl).trans hHeld.2.2⟩ (fun hHeld2 => ?_);clear hK K
    try simp only [Act.put, List.setIfInBounds_toArray, List.set_cons_zero, List.set_cons_succ]
    refine wpAnyH_ready (rs := [5]) (by kernel_rfl) (by simp) ?_;refine AllReadyH.cons rfl (fun K hK => ?_) AllReadyH.nil;refine step_store19 rfl 38 _ _ rfl rb #[.int .i64 206, .slice vo n vc, .string bd, .slice none 0 0] rfl rfl 38 _ (HA7.out) sizeRp19 rfl (by simp [Value.oneCell']) ?_;intro wf hawf huwf;refine hK.out _ _ ⟨hHeld2.1.trans (huwf.below HR0.out), (World.cell?_of_block (huwf.block ad.block HNE.out)).trans hHeld2.2.1, (World.cell?_of_block (a := ⟨ad.block, ad.off + 1, none⟩) (huwf.block ad.block HNE.out)).trans hHeld2.2.2⟩ (fun _ => ?_);clear hK K
    try simp only [Act.put]
    refine wpAnyH_done (by kernel_rfl) ?_ _;have HWF := hid' hawf;have HUF := hid' huwf;clear hawf huwf hb7 hHeld hHeld2 k0' k1' hbl;go_wp2_with fail;have hld := ldRp19 HWF.out;rw [HR.out];exact bodyPost_ret (v := .agg #[.int .i64 206, .slice vo n vc, .string bd, .slice none 0 0]) (by simp [results, Tryz.results118, asAddr, hld]) rfl (rp_done19 (Fs.one (Fs.kind p.data.toList) ⟨p, y, t, q⟩ ⟨(A : Int), (C : Int)⟩) rfl HBD.out HB3.out HA3.out.lt HRB.out HB7.out HN7.out HO7.out HUF.out)
   ·have hc4 : ((m : Int) == 1) = false := by simp; omega
    have HR := hid' (HR4.out h0 (by rw [HM.out]; exact hm1));have x0 := HX3.out.cell 0 _ rfl;have x1 := HX3.out.cell 1 _ rfl;have x2 := HX3.out.cell 2 _ rfl;have x3 := HX3.out.cell 3 _ rfl;have hmb : m ≤ 1048576 := by have h1 := H8.out; have h2 := HM.out; omega
    have HMB := hid' hmb;clear HR1 HR2 HR3 HR4 h161 h0 hm1 hmb;go_wp2_with fail;refine (HSE.out ro m rc rs HM.out HMB.out w3 (RW16.own HO3.out) (tb_below19 HT.out HB3.out)).mono ?_;rintro e w7 ⟨⟨vo, n, vc, rfl, hn, ho⟩, hb7⟩;have HN7 := hid' hn;have HO7 := hid' ho;have HB7 := hid' hb7;have HA7 := hid' (HA3.out.keep hb7);clear hn ho hb7;obtain ⟨bd, hbd⟩ : ∃ bd : ByteArray, (⟨(Fs.sev (Fs.kind p.data.toList) ⟨p, y, t, q⟩ rs).b.toArray⟩ : ByteArray) = bd := ⟨_, rfl⟩;rw [show (Fs.sev (Fs.kind p.data.toList) ⟨p, y, t, q⟩ rs).s = 206 from rfl, hbd];have HBD := hid' hbd;clear hbd;go_wp2_with (refine wpl_store 38 _ _ rfl rfl rb #[.int .i64 206, .slice vo n vc, .string bd, .slice none 0 0] (by kernel_rfl) (by kernel_rfl) _ _ HA7.out sizeRp19 rfl (by simp [Value.oneCell']) ?_);intro wf hwf huf;go_wp2;have hld := ldRp19 hwf;rw [HR.out];exact bodyPost_ret (v := .agg #[.int .i64 206, .slice vo n vc, .string bd, .slice none 0 0]) (by simp [results, Tryz.results118, asAddr, hld]) rfl (rp_done19 (Fs.sev (Fs.kind p.data.toList) ⟨p, y, t, q⟩ rs) rfl HBD.out HB3.out HA3.out.lt HRB.out HB7.out HN7.out HO7.out huf)
  ·have hc2 : (er != 0) = true := by simpa using h0
   have HR := hid' (HR2.out h161 h0);have x0 := HX3.out.cell 0 _ rfl;have x1 := HX3.out.cell 1 _ rfl;have x2 := HX3.out.cell 2 _ rfl;have x3 := HX3.out.cell 3 _ rfl;clear HR1 HR2 HR3 HR4 h161 h0;go_wp2_with fail;refine (HWH.out w3 (tb_below19 HT.out HB3.out)).mono ?_;rintro e w7 ⟨⟨vo, n, vc, rfl, hn, ho⟩, hb7⟩;have HN7 := hid' hn;have HO7 := hid' ho;have HB7 := hid' hb7;have HA7 := hid' (HA3.out.keep hb7);clear hn ho hb7;obtain ⟨bd, hbd⟩ : ∃ bd : ByteArray, (⟨(Fs.whole (Fs.kind p.data.toList) ⟨p, y, t, q⟩).b.toArray⟩ : ByteArray) = bd := ⟨_, rfl⟩;rw [show (Fs.whole (Fs.kind p.data.toList) ⟨p, y, t, q⟩).s = 200 from rfl, hbd];have HBD := hid' hbd;clear hbd;go_wp2_with (refine wpl_store 38 _ _ rfl rfl rb #[.int .i64 200, .slice vo n vc, .string bd, .slice none 0 0] (by kernel_rfl) (by kernel_rfl) _ _ HA7.out sizeRp19 rfl (by simp [Value.oneCell']) ?_);intro wf hwf huf;go_wp2;have hld := ldRp19 hwf;rw [HR.out];exact bodyPost_ret (v := .agg #[.int .i64 200, .slice vo n vc, .string bd, .slice none 0 0]) (by simp [results, Tryz.results118, asAddr, hld]) rfl (rp_done19 (Fs.whole (Fs.kind p.data.toList) ⟨p, y, t, q⟩) rfl HBD.out HB3.out HA3.out.lt HRB.out HB7.out HN7.out HO7.out huf)

end Go.Proofs.YthhpejgpfaikaabGreatDoor
