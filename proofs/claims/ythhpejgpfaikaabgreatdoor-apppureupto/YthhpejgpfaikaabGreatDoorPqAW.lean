/-
  What the row stands on.
-/
import Derived.Test.YthhpejgpfaikaabGreatDoorPqAH
import Derived.Test.YthhpejgpfaikaabGreatDoorPqAV
import Derived.Deep.RegionLaw
import Derived.RegionTactic
import Derived.Test.YthhpejgpfaikaabGreatDoorPqAR
import Derived.Lib.ConvBytes
import Derived.Test.YthhpejgpfaikaabGreatDoorPqAQ
import Derived.Test.YthhpejgpfaikaabGreatDoorPqAT
namespace Go.Proofs.YthhpejgpfaikaabGreatDoor
set_option maxHeartbeats 64000000
open Go.RowKit

theorem zeroBd17 : (Tryz.prog.info? 123).map (fun i => i.zero) = some (some (.agg #[.pointer none, .slice none 0 0])) := by kernel_rfl
theorem string17 (B b : Nat) (l : List UInt8) (w : World) (h : Bld w B b l) (hBw : B ≤ w.heap.size) :
  Calls Tryz.prog 47 #[.pointer (some ⟨b, 0, none⟩)] w fun e w' => e = .returned (.string ⟨l.toArray⟩) ∧ Below B w w' := by
 refine (Tryz.Builder_String_any_k B b l w (Lib.IsBuilderF.of h) hBw).mono ?_;rintro e w' ⟨rfl, _, hb, ho⟩;exact ⟨rfl, hb⟩
def uV17 : Option (List UInt8) → Value
 | some t => .tuple #[.string ⟨t.toArray⟩, .int .i64 0]
 | none => .tuple #[.string ⟨#[]⟩, .int .i64 170]
namespace Pt
theorem ok_is (a b : UInt8) (d : UInt8) (hd : (d.toNat : Int) = 16 * dv a + dv b) (ha : 0 ≤ hx a) (hb : 0 ≤ hx b) : byt a b = (d.toNat : Int) ∧ UInt8.ofNat (byt a b).toNat = d := by
 have e : byt a b = (d.toNat : Int) := by
  rw [hd]; unfold byt dv; rw [if_pos ha, if_pos hb]
 refine ⟨e, ?_⟩;rw [e];simp
end Pt

set_option maxRecDepth 20000 in
theorem cundo17 (s : ByteArray) (l : List UInt8) (hl : s.data.toList = l) (w : World) (hs : s.size ≤ 4194304) :
  Calls Tryz.prog 52 #[.string s] w fun e w' => e = .returned (uV17 (Pt.undo l)) ∧ Below w.heap.size w w' := by
 have HSZ : Hid (s.size = l.length) := hid' (by rw [Lib.size_eq, hl]);have HGB : Hid (∀ k (h : k < s.size), l[k]? = some s[k]) := hid' (fun k h => by rw [← hl]; exact Tx.get_byte s k h);have HL := hid' hl;clear hl;go_enter Tryz.func52, Tryz.ntmps52;go_wp2_with (refine wpl_alloc 123 rfl rfl _ zeroBd17 ?_);intro b w1 hb1 ha1 hl1;have HS1 : Hid (Bld w1 w.heap.size b [] ∧ Below w.heap.size w w1) := hid' ⟨bld_new w b w1 hb1 ha1, hl1⟩;clear hb1 ha1 hl1;go_wp2;go_loopw [5] (fun s5 wr => ∃ (k : Nat) (Z : List UInt8), s5 = .int .i64 (k : Int) ∧ k ≤ s.size ∧ Hid (Z.length ≤ k) ∧ Hid (Pt.undo l = (Pt.undo (l.drop k)).map (fun r => Z ++ r)) ∧ Hid (Bld wr w.heap.size b Z) ∧ Hid (Below w.heap.size w wr)) (fun s5 _ => s.size - (intOf s5).toNat)
 case atStart => exact ⟨0, [], rfl, Nat.zero_le _, hid' (Nat.le_refl _), hid' (by rw [List.drop_zero]; simp), hid' HS1.out.1, hid' HS1.out.2⟩
 case round =>
  obtain ⟨k, Z, rfl, hk, HZL, HU, HO, HB⟩ := hrel;by_cases hlt : k < s.size
  ·have hlt2 : (k : Int) < (s.size : Int) := by omega
   have HD := hid' (Pt.drop_c (HGB.out k hlt));rw [HD.out] at HU;cases h37 : ((s[k].toNat : Int) == 37)
   ·have hc37 : (s[k] == 37) = false := beq_false_of_ne (fun e => by rw [e] at h37; revert h37; decide);rw [Pt.undo_plain hc37, Option.map_map] at HU;have HWB := hid' (writeByte_any w.heap.size b Z s[k] _ rfl wr HO.out (by have := HZL.out; omega) HB.out.size);go_wp2_with fail;refine HWB.out.mono ?_;rintro e w2 ⟨rfl, h1, h2⟩;have HO2 := hid' h1;have HB2 := hid' (HB.out.trans h2);clear h1 h2;go_wp2;go_roundw
    case rel => exact ⟨k + 1, Z ++ [s[k]], by go_num, by omega, hid' (by rw [List.length_append]; have := HZL.out; simp; omega), hid' (by rw [HU.out]; congr 1; funext r; simp), HO2, HB2⟩
    case measure => simp [intOf]; omega
   ·have hc37 : s[k] = 37 := UInt8.toNat_inj.1 (by have := eq_of_beq h37; simpa using (by omega : s[k].toNat = 37));rw [hc37] at HU;have hk1 : (k : Int) + 1 ≤ (s.size : Int) := by omega
    obtain ⟨t, ht⟩ : ∃ t, s.extract (k + 1) s.size = t := ⟨_, rfl⟩;have HTS : Hid (t.size = s.size - (k + 1)) := hid' (by rw [← ht, ByteArray.size_extract]; omega);by_cases h2 : s.size ≤ k + 2
    ·have HN : Hid (Pt.undo l = none) := hid' (by rw [HU.out, Pt.undo_short (by rw [List.length_drop, ← HSZ.out]; omega)]; rfl);have HRD := hid' (fun W => cread17s t (by have := HTS.out; omega) W);clear HTS;go_wp2_with fail;refine (HRD.out _).mono ?_;rintro e w2 ⟨rfl, hw⟩;subst w2;go_wp2;go_ret2;exact ⟨by rw [HN.out]; rfl, HB.out⟩
    ·have g1 : k + 1 < s.size := by omega
     have g2 : k + 2 < s.size := by omega
     have HD1 := hid' (Pt.drop_c (HGB.out (k + 1) g1));have HD2 := hid' (Pt.drop_c (HGB.out (k + 2) g2));rw [HD1.out, show k + 1 + 1 = k + 2 from rfl, HD2.out, show k + 2 + 1 = k + 3 from rfl] at HU;have t0 : 0 < t.size := by have := HTS.out; omega
     have t1 : 1 < t.size := by have := HTS.out; omega
     have e0 : t[0] = s[k + 1] := by subst ht; rw [ByteArray.getElem_extract]
     have e1 : t[1] = s[k + 2] := by subst ht; rw [ByteArray.getElem_extract]
     have hrd := fun W => cread17 t t0 t1 (by have := HTS.out; omega) W;rw [e0, e1] at hrd;have b0 := Pt.dv_bd s[k + 1];have b1 := Pt.dv_bd s[k + 2];obtain ⟨d, hd⟩ : ∃ d : UInt8, (d.toNat : Int) = 16 * Pt.dv s[k + 1] + Pt.dv s[k + 2] := ⟨UInt8.ofNat (16 * Pt.dv s[k + 1] + Pt.dv s[k + 2]).toNat, by rw [UInt8.toNat_ofNat']; omega⟩;rw [← hd] at hrd;have HBAD : Hid ((decide (0 ≤ Pt.hx s[k + 1]) && (decide (0 ≤ Pt.hx s[k + 2]) && Pt.okb (Pt.byt s[k + 1] s[k + 2]))) = false → Pt.undo l = none) := hid' (fun h => by
      rw [HU.out, Pt.undo_bad h]; rfl)
     have HGO : Hid ((decide (0 ≤ Pt.hx s[k + 1]) && (decide (0 ≤ Pt.hx s[k + 2]) && Pt.okb (Pt.byt s[k + 1] s[k + 2]))) = true → Pt.undo l = (Pt.undo (l.drop (k + 3))).map (fun r => (Z ++ [UInt8.ofNat (Pt.byt s[k + 1] s[k + 2]).toNat]) ++ r)) := hid' (fun h => by
      rw [HU.out, Pt.undo_esc h, Option.map_map];congr 1; funext r; simp)
     have HOK := hid' (Pt.ok_is s[k + 1] s[k + 2] d hd);have HRD := hid' hrd;clear hrd hd e0 e1 t0 t1 HD1 HD2 HU HTS b0 b1 HD;generalize Pt.byt s[k + 1] s[k + 2] = B at *;generalize hP : decide (0 ≤ Pt.hx s[k + 1]) = P at *;generalize hQ : decide (0 ≤ Pt.hx s[k + 2]) = Q at *;have HP := hid' hP;have HQ := hid' hQ;clear hP hQ;have HES := hid' (fun W => cescb17 d W);cases P
     ·have HN := hid' (HBAD.out rfl);go_wp2_with fail;refine (HRD.out _).mono ?_;rintro e w2 ⟨rfl, hw⟩;subst w2;go_wp2;go_ret2;exact ⟨by rw [HN.out]; rfl, HB.out⟩
     cases Q
     ·have HN := hid' (HBAD.out rfl);go_wp2_with fail;refine (HRD.out _).mono ?_;rintro e w2 ⟨rfl, hw⟩;subst w2;go_wp2;go_ret2;exact ⟨by rw [HN.out]; rfl, HB.out⟩
     have HBD := hid' (HOK.out (of_decide_eq_true HP.out) (of_decide_eq_true HQ.out));rw [HBD.out.1] at HBAD HGO;generalize Pt.okb (d.toNat : Int) = r at *;cases r
     ·have HN := hid' (HBAD.out rfl);go_wp2_with fail;refine (HRD.out _).mono ?_;rintro e w2 ⟨rfl, hw⟩;subst w2;go_wp2_with fail;refine (HES.out _).mono ?_;rintro e w2 ⟨rfl, hw⟩;subst w2;go_wp2;go_ret2;exact ⟨by rw [HN.out]; rfl, HB.out⟩
     ·have HG : Hid (Pt.undo l = (Pt.undo (l.drop (k + 3))).map (fun r => (Z ++ [d]) ++ r)) := hid' (by
       have h1 := HGO.out rfl;rw [show UInt8.ofNat (d.toNat : Int).toNat = d by simp] at h1;exact h1)
      have HWB := hid' (fun W (h : Bld W w.heap.size b Z) (hW : w.heap.size ≤ W.heap.size) => writeByte_any w.heap.size b Z d _ rfl W h (by have := HZL.out; omega) hW);go_wp2_with fail;refine (HRD.out _).mono ?_;rintro e w2 ⟨rfl, hw⟩;subst w2;go_wp2_with fail;refine (HES.out _).mono ?_;rintro e w2 ⟨rfl, hw⟩;subst w2;go_wp2_with fail;refine (HWB.out _ HO.out HB.out.size).mono ?_;rintro e w2 ⟨rfl, h1, h2⟩;have HO2 := hid' h1;have HB2 := hid' (HB.out.trans h2);clear h1 h2;go_wp2;go_roundw
      case rel => exact ⟨k + 3, Z ++ [d], by go_num, by omega, hid' (by rw [List.length_append]; have := HZL.out; simp; omega), HG, HO2, HB2⟩
      case measure => simp [intOf]; omega
  ·have hlt2 : ¬ (k : Int) < (s.size : Int) := by omega
   have HE : Hid (Pt.undo l = some Z) := hid' (by rw [HU.out, List.drop_eq_nil_of_le (by have := HSZ.out; omega)]; simp [Pt.undo]);have HST := hid' (string17 w.heap.size b Z wr HO.out HB.out.size);clear hlt;go_wp2_with fail;refine HST.out.mono ?_;rintro e w2 ⟨rfl, h2⟩;have HB2 := hid' (HB.out.trans h2);clear h2;go_wp2;go_ret2;exact ⟨by rw [HE.out]; rfl, HB2.out⟩


def hexB17 : ByteArray := ⟨#[48, 49, 50, 51, 52, 53, 54, 55, 56, 57, 65, 66, 67, 68, 69, 70]⟩
theorem hexB_at17 (n : Nat) (h : n < 16) (hs : n < hexB17.size) : hexB17[n] = Pt.hd16 n := by
 have : ∀ n : Fin 16, hexB17[n.val]'(by have := n.2; show n.val < 16; omega) = Pt.hd16 n.val := by decide
 exact this ⟨n, h⟩
namespace Pt
end Pt


def BA17 (p : Value) (w : World) (B b g : Nat) (bs : List Value) : Prop := B ≤ b ∧ ∃ v, w.heap[b]? = some (.cells #[p, v] 123 (0, 0)) ∧ w.ownsRow B 5 1 v bs.length bs ∧ v.ownBlock ≠ some b ∧ v.ownBlock ≠ some g ∧ b ≠ g ∧ g < w.heap.size
def BG17 (w : World) (B b g : Nat) (l : List UInt8) : Prop := BA17 (.pointer none) w B b g (Lib.byteCells l) ∨ BA17 (.pointer (some ⟨b, 0, none⟩)) w B b g (Lib.byteCells l)
theorem BA17.at {p : Value} {w : World} {B b g : Nat} {bs : List Value} (h : BA17 p w B b g bs) : Lib.BuilderAt 123 5 B b p bs w := by
 obtain ⟨h1, v, h2, h3, h4, _⟩ := h;exact ⟨h1, v, h2, h3, h4⟩
theorem BG17.bld {w : World} {B b g : Nat} {l : List UInt8} (h : BG17 w B b g l) : Bld w B b l := by
 rcases h with h | h
 ·exact .inl h.at
 ·exact .inr h.at
theorem setc17 {w : World} {b : Nat} {p v q : Value} (h : w.heap[b]? = some (.cells #[p, v] 123 (0, 0))) : (w.setCell ⟨b, 0, none⟩ q).heap[b]? = some (.cells #[q, v] 123 (0, 0)) := by
 simp [World.setCell, Array.getElem?_modify, h]

theorem copyCheck17 (B b g : Nat) (l : List UInt8) (w : World) (h : BG17 w B b g l) :
  Calls Tryz.prog 72 #[.pointer (some ⟨b, 0, none⟩)] w fun e w' => e = .returned (.tuple #[]) ∧ (BA17 (.pointer (some ⟨b, 0, none⟩)) w' B b g (Lib.byteCells l) ∧ Below B w w' ∧ w'.heap[g]? = w.heap[g]?) := by
 rcases h with h | h
 ·refine (copyCheck_fresh b w h.at.cell0 h.at.shape h.at.frozen0).mono ?_;rintro e w' ⟨rfl, rfl⟩;obtain ⟨hB, v, hbk, hown, hne, hng, hbg, hg⟩ := h;refine ⟨rfl, ⟨hB, v, setc17 hbk, own_same hown (fun j hj => (upd_setCell w b 0 _).block j (fun e => hne (by rw [← e]; exact hj))), hne, hng, hbg, by simpa [World.setCell] using hg⟩, (Below.refl B w).setCell (p := ⟨b, 0, none⟩) hB _, (upd_setCell w b 0 _).block g (fun e => hbg e.symm)⟩
 ·refine (copyCheck_used b w h.at.cell0).mono ?_;rintro e w' ⟨rfl, rfl⟩;exact ⟨rfl, h, Below.refl B _, rfl⟩

set_option maxRecDepth 100000 in
theorem writeByte17 (B b g : Nat) (l : List UInt8) (x : UInt8) (c : Int) (hc : c = (x.toNat : Int)) (w : World) (h : BG17 w B b g l) (hlen : l.length + 1 ≤ 140737488355328) (hBw : B ≤ w.heap.size) :
  Calls Tryz.prog 78 #[.pointer (some ⟨b, 0, none⟩), .int .u8 c] w fun e w' => e = .returned .nilIface ∧ (BG17 w' B b g (l ++ [x]) ∧ Below B w w' ∧ w'.heap[g]? = w.heap[g]?) := by
 obtain ⟨i0, hi, hz0, hz1, hz2⟩ := info_parts infoByte;have HX : Hid (Lib.byteCells (l ++ [x]) = Lib.byteCells l ++ [.int .u8 c]) := hid' (by rw [hc]; simp [Lib.byteCells]);have hbl : (Lib.byteCells l).length = l.length := Lib.byteCells_length l;clear hc;go_enter Tryz.func78, Tryz.ntmps78;go_wp2_with fail;refine (copyCheck17 B b g l _ h).mono ?_;rintro e w1 ⟨rfl, h1, hb1, hg1⟩;obtain ⟨hB, v, hbk, hown, hne, hng, hbg, hg⟩ := h1;rw [hbl] at hown;have HG1 := hid' hg1;have HNG := hid' hng;have HBG := hid' hbg;clear hg1 hng hbg hbl;have c0 : w1.cell? ⟨b, 0, none⟩ = some (.pointer (some ⟨b, 0, none⟩)) := by rw [Lib.cell_of_heap hbk]; rfl
 have c1 : w1.cell? ⟨b, 1, none⟩ = some v := by rw [Lib.cell_of_heap hbk]; rfl
 go_wp2_with (at_builtin; refine wpList_append_own_at _ rfl _ _ 78 rfl B 5 i0 (.int .u8 0) 1 1 Tryz.underlying78 hi hz0 hz1 hz2 rfl (by decide) _ _ _ rfl (hown.alloc _) ⟨w1.heap.size, 0, none⟩ 1 1 [.int .u8 c] rfl rfl ?c1 ?c2 ?c3 ?c4 ?c5 ?_)
 case c1 => exact one_cell17 _ _ _
 case c2 => intro u hu; simp at hu; subst hu; rfl
 case c3 => unfold maxLen; omega
 case c4 => omega
 case c5 => have := hb1.size; simp; omega
 intro v' w2 hown' hgrow _ hob;have hlt : b < w1.heap.size := (Array.getElem?_eq_some_iff.1 hbk).1;have hb2 : w2.heap[b]? = some (.cells #[.pointer (some ⟨b, 0, none⟩), v] 123 (0, 0)) := by
  rw [hgrow.block b (by simp; omega) (fun e => hne e.symm), Lib.alloc_old w1 _ b hlt];exact hbk
 have HG2 : Hid (w2.heap[g]? = w.heap[g]?) := hid' (by
  rw [hgrow.block g (by simp; omega) (fun e => HNG.out e.symm), Lib.alloc_old w1 _ g hg];exact HG1.out)
 have HOB : Hid (v'.ownBlock ≠ some b ∧ v'.ownBlock ≠ some g) := hid' (by
  rcases hob with e | e
  ·rw [e]; exact ⟨hne, HNG.out⟩
  ·rw [e];constructor
   ·simp; omega
   ·simp; omega)
 have d1 : w2.cell? ⟨b, 1, none⟩ = some v := by rw [Lib.cell_of_heap hb2]; rfl
 have f1 : w2.frozen? ⟨b, 1, none⟩ = false := Lib.frozen_of_heap hb2 1;have hg2 : g < w2.heap.size := by have := hgrow.size; simp at this; omega
 obtain ⟨g', cap, rfl⟩ : ∃ g cap, v' = .slice (some ⟨g, 0, none⟩) (l.length + 1) cap := by
  rcases hown'.2 with ⟨_, h0⟩ | ⟨g, cap, cur, hv, _⟩
  ·omega
  ·exact ⟨g, cap, hv⟩
 clear hob;go_wp2;go_ret;refine ⟨rfl, .inr ⟨hB, _, ?_, ?_, HOB.out.1, HOB.out.2, HBG.out, by simpa [World.setCell] using hg2⟩, ?_, ?_⟩
 ·simp [World.setCell, Array.getElem?_modify, hb2]
 ·rw [HX.out, List.length_append, Lib.byteCells_length];exact own_same hown' (fun j hj => (upd_setCell w2 b 1 _).block j (fun e => HOB.out.1 (by rw [← e]; exact hj)))
 ·exact ((hb1.alloc (by have := hb1.size; omega) _).grown hgrow (by have := hb1.size; simp; omega) (fun k hk => (hown.lt k hk).1)).setCell (p := ⟨b, 1, none⟩) hB _
 ·rw [(upd_setCell w2 b 1 _).block g (fun e => HBG.out e.symm)];exact HG2.out

section
variable {ops : Array Oper} {rest : List Oper} {o : Oper} {a : Act} {w : World} {Q : Exit → Act → World → Prop}
theorem wpl_tobytes17 (x : Operand) (ho : o.op = .convert 9 78 x) (hgd : o.guard = none) (s : ByteArray) (hx : a.eval x = .string s)
  (h : ∀ b cap w', w.heap.size ≤ b → b < w'.heap.size → (∀ j (hj : j < s.size), w'.cell? ⟨b, j, none⟩ = some (.int .u8 (s[j].toNat : Int))) → Below w.heap.size w w' → wpList Tryz.prog ops Q rest (a.put o.dst (.slice (some ⟨b, 0, none⟩) s.size cap)) w') :
  wpList Tryz.prog ops Q (o :: rest) a w := by
 refine wpList_plain hgd fun _ hK => ?_;have hr := Lib.run_convert_string_bytes (P := Tryz.prog) w 9 78 5 s Tryz.underlying9 Tryz.underlying78 Tryz.underlying5;unfold Oper.wp execOp;simp only [ho, hx, Sem.run_bind, Sem.run_pure, hr, Result.andThen_ok];refine hK _ _ (h w.heap.size _ _ (Nat.le_refl _) (by rw [Lib.bytesWorld_size]; omega) ?_ ?_)
 ·intro j hj;rw [Lib.bytesWorld_cell w 5 s j hj];have : s.data.toList.getD j 0 = s[j] := by
   rw [List.getD_eq_getElem?_getD, Tx.get_byte s j hj];rfl
  rw [this]
 ·exact ⟨rfl, rfl, rfl, by rw [Lib.bytesWorld_size]; omega, fun k hk => Lib.bytesWorld_at_old w _ _ k hk⟩
end

theorem cell_same17 {w w' : World} {g j : Nat} (h : w'.heap[g]? = w.heap[g]?) : w'.cell? ⟨g, j, none⟩ = w.cell? ⟨g, j, none⟩ := by
 unfold World.cell?;rw [h]
namespace Pt
theorem esc_take {l : T8} {k : Nat} {c : UInt8} (h : l[k]? = some c) : esc (l.take (k + 1)) = esc (l.take k) ++ esc1 c := by
 unfold esc;rw [List.take_add_one, h];simp
theorem esc1_len (c : UInt8) : (esc1 c).length ≤ 3 := by
 unfold esc1; split <;> simp
theorem escX_len (l : T8) : (esc l).length ≤ 3 * l.length := by
 unfold esc
 induction l with
 | nil => simp
 | cons c r ih =>
  rw [List.flatMap_cons, List.length_append, List.length_cons];have := esc1_len c;omega
end Pt

set_option maxRecDepth 20000 in
theorem xesc17 (s : ByteArray) (l : List UInt8) (hl : s.data.toList = l) (w : World) (hs : s.size ≤ 4194304) :
  Calls Tryz.prog 145 #[.string s] w fun e w' => e = .returned (.string ⟨(Pt.esc l).toArray⟩) ∧ Below w.heap.size w w' := by
 have HSZ : Hid (s.size = l.length) := hid' (by rw [Lib.size_eq, hl]);have HGB : Hid (∀ k (h : k < s.size), l[k]? = some s[k]) := hid' (fun k h => by rw [← hl]; exact Tx.get_byte s k h);clear hl;obtain ⟨hb, hhb⟩ : ∃ hb, hexB17 = hb := ⟨_, rfl⟩;have HHB : Hid (hb = hexB17) := hid' hhb.symm;have HHL : Hid ((⟨#[48, 49, 50, 51, 52, 53, 54, 55, 56, 57, 65, 66, 67, 68, 69, 70]⟩ : ByteArray) = hb) := hid' hhb;have HBS : Hid (hb.size = 16) := hid' (by rw [← hhb]; rfl);clear hhb;go_enter Tryz.func145, Tryz.ntmps145;go_wp2_with (refine wpl_alloc 123 rfl rfl _ zeroBd17 ?_);intro b w1 hb1 ha1 hl1;go_wp2_with (refine wpl_tobytes17 _ rfl rfl s (by kernel_rfl) ?_);intro g gc w2 hg1 hg2 hgc hl2;have hbg : b ≠ g := by have := ha1.lt; omega
 have HS1 : Hid (BG17 w2 w.heap.size b g [] ∧ Below w.heap.size w w2) := hid' ⟨.inl ⟨hb1, .slice none 0 0, by rw [hl2.block b ha1.lt]; exact ha1, World.ownsRow_nil _ _ _ _, by simp [Value.ownBlock], by simp [Value.ownBlock], hbg, hg2⟩, below_two hl1 hl2⟩;have HGC := hid' hgc;clear hb1 ha1 hl1 hg1 hg2 hgc hl2 hbg;go_wp2;go_loopw [9] (fun s9 wr => ∃ k : Nat, s9 = .int .i64 (k : Int) ∧ k ≤ s.size ∧ Hid (BG17 wr w.heap.size b g (Pt.esc (l.take k))) ∧ Hid (wr.heap[g]? = w2.heap[g]?) ∧ Hid (Below w.heap.size w wr)) (fun s9 _ => s.size - (intOf s9).toNat)
 case atStart => exact ⟨0, rfl, Nat.zero_le _, hid' HS1.out.1, hid' rfl, hid' HS1.out.2⟩
 case round =>
  obtain ⟨k, rfl, hk, HO, HG, HB⟩ := hrel;by_cases hlt : k < s.size
  ·have hlt2 : (k : Int) < (s.size : Int) := by omega
   have y0 : wr.cell? ⟨g, k, none⟩ = some (.int .u8 (s[k].toNat : Int)) := (cell_same17 HG.out).trans (HGC.out k hlt);have HET := hid' (Pt.esc_take (HGB.out k hlt));have HEL : Hid ((Pt.esc (l.take k)).length ≤ 3 * 4194304) := hid' (by
    have h1 := Pt.escX_len (l.take k);have h2 : (l.take k).length ≤ k := by rw [List.length_take]; omega
    omega)
   generalize Pt.esc (l.take k) = Z at *;have HBA := hid' (fun W => cbare17 s[k] W);obtain ⟨c, hc⟩ : ∃ c, s[k] = c := ⟨_, rfl⟩;rw [hc] at y0 HET HBA;have c256 := c.toNat_lt;clear hc;cases hp : Pt.plain c
   ·rw [hp] at HBA;have HE1 : Hid (Pt.esc1 c = [37, Pt.hd16 (c.toNat / 16), Pt.hd16 (c.toNat % 16)]) := hid' (by unfold Pt.esc1; rw [hp]; rfl);have HW1 := hid' (fun W (h : BG17 W w.heap.size b g Z) (hW : w.heap.size ≤ W.heap.size) => writeByte17 w.heap.size b g Z 37 37 rfl W h (by have := HEL.out; omega) hW);obtain ⟨q, hq⟩ : ∃ q : Nat, c.toNat / 16 = q := ⟨_, rfl⟩;obtain ⟨r, hr⟩ : ∃ r : Nat, c.toNat % 16 = r := ⟨_, rfl⟩;rw [hq, hr] at HE1;have hq16 : q < 16 := by omega
    have hr16 : r < 16 := by omega
    go_wp2_with fail;refine (HBA.out _).mono ?_;rintro e w3 ⟨rfl, hw⟩;subst w3;go_wp2_with fail;refine (HW1.out _ HO.out HB.out.size).mono ?_;rintro e w3 ⟨rfl, h1, h2, h3⟩;have HO3 := hid' h1;have HB3 := hid' (HB.out.trans h2);have HG3 := hid' (h3.trans HG.out);clear h1 h2 h3;go_wp2_with fail;refine (writeByte17 w.heap.size b g (Z ++ [37]) (Pt.hd16 q) _ (congrArg (fun x : UInt8 => (x.toNat : Int)) (hexB_at17 q hq16 (by show q < 16; omega))) _ HO3.out (by have := HEL.out; rw [List.length_append]; simp; omega) HB3.out.size).mono ?_;rintro e w4 ⟨rfl, h1, h2, h3⟩;have HO4 := hid' h1;have HB4 := hid' (HB3.out.trans h2);have HG4 := hid' (h3.trans HG3.out);clear h1 h2 h3;go_wp2_with fail;refine (writeByte17 w.heap.size b g (Z ++ [37] ++ [Pt.hd16 q]) (Pt.hd16 r) _ (congrArg (fun x : UInt8 => (x.toNat : Int)) (hexB_at17 r hr16 (by show r < 16; omega))) _ HO4.out (by have := HEL.out; rw [List.length_append, List.length_append]; simp; omega) HB4.out.size).mono ?_;rintro e w5 ⟨rfl, h1, h2, h3⟩;have HO5 := hid' h1;have HB5 := hid' (HB4.out.trans h2);have HG5 := hid' (h3.trans HG4.out);clear h1 h2 h3;go_wp2;go_roundw
    case rel => exact ⟨k + 1, by go_num, by omega, hid' (by rw [HET.out, HE1.out]; have := HO5.out; simpa using this), HG5, HB5⟩
    case measure => simp [intOf]; omega
   ·rw [hp] at HBA;have HE1 : Hid (Pt.esc1 c = [c]) := hid' (by unfold Pt.esc1; rw [hp]; rfl);have HW1 := hid' (fun W (h : BG17 W w.heap.size b g Z) (hW : w.heap.size ≤ W.heap.size) => writeByte17 w.heap.size b g Z c _ rfl W h (by have := HEL.out; omega) hW);go_wp2_with fail;refine (HBA.out _).mono ?_;rintro e w3 ⟨rfl, hw⟩;subst w3;go_wp2_with fail;refine (HW1.out _ HO.out HB.out.size).mono ?_;rintro e w3 ⟨rfl, h1, h2, h3⟩;have HO3 := hid' h1;have HB3 := hid' (HB.out.trans h2);have HG3 := hid' (h3.trans HG.out);clear h1 h2 h3;go_wp2;go_roundw
    case rel => exact ⟨k + 1, by go_num, by omega, hid' (by rw [HET.out, HE1.out]; exact HO3.out), HG3, HB3⟩
    case measure => simp [intOf]; omega
  ·have hlt2 : ¬ (k : Int) < (s.size : Int) := by omega
   have HE : Hid (l.take k = l) := hid' (List.take_of_length_le (by have := HSZ.out; omega));rw [HE.out] at HO;have HST := hid' (string17 w.heap.size b (Pt.esc l) wr HO.out.bld HB.out.size);clear hlt;go_wp2_with fail;refine HST.out.mono ?_;rintro e w3 ⟨rfl, h2⟩;have HB2 := hid' (HB.out.trans h2);clear h2;go_wp2;go_ret;exact ⟨rfl, HB2.out⟩


theorem rp_done19 (r : Fs.Rp) {w0 w wf : World} {rb n : Nat} {vo : Option Addr} {vc : Nat} {s : Int} {b : ByteArray} (hs : r.s = s) (hbb : (⟨r.b.toArray⟩ : ByteArray) = b) (hw : Below w0.heap.size w0 w) (hrb : rb < w.heap.size) (hr0 : w0.heap.size ≤ rb) {wp : World} (hb : Below w.heap.size w wp)
  (hl : r.fs.length = n) (ho : wp.ownsRow w.heap.size 44 2 (.slice vo n vc) n (fC r.fs)) (hu : Upd rb wp wf) :
  (∃ vo' n' vc', Ending.returned (.agg #[.int .i64 s, .slice vo n vc, .string b, .slice none 0 0]) = .returned (.agg #[.int .i64 r.s, .slice vo' n' vc', .string ⟨r.b.toArray⟩, .slice none 0 0]) ∧ r.fs.length = n' ∧ wf.ownsRow w0.heap.size 44 2 (.slice vo' n' vc') n' (fC r.fs)) ∧ Below w0.heap.size w0 wf := by
 subst hs hbb;exact ⟨⟨vo, n, vc, rfl, hl, own_upd19 ho hu hrb hw.size⟩, (below_two hw hb).trans (hu.below hr0)⟩
theorem str_snoc19 (l : List UInt8) (c : UInt8) : (⟨l.toArray⟩ ++ ⟨#[c]⟩ : ByteArray) = ⟨(l ++ [c]).toArray⟩ := str_snoc l c

theorem cs_keep19 {w w' : World} {B sb : Nat} {K : Nat → Prop} {q : Int} {es : List Dk.En} (h : CS w B sb K q es) (hb : Below w.heap.size w w') : CS w' B sb K q es := by
 obtain ⟨m, E, clock, h, hk⟩ := h;exact ⟨m, E, clock, h.keep hb, hk⟩
theorem clist19 (B sb : Nat) (K : Nat → Prop) (q : Int) (es : List Dk.En) (y : ByteArray) (l : List UInt8) (hl : y.data.toList = l) (W : World) (h : CS W B sb K q es) (hy : y.size ≤ 140737488355328) :
  Calls Tryz.prog 144 #[.pointer (some ⟨sb, 0, none⟩), .string y] W fun e w' => (∃ m ro rc, e = .returned (.slice ro m rc) ∧ (Dk.lst l es).length = m) ∧ Below W.heap.size W w' := by
 subst hl;refine (slist13 B sb K q es y W h hy).mono ?_;rintro e w' ⟨⟨m, ro, rc, he, hm, _⟩, hb⟩;exact ⟨⟨m, ro, rc, he, hm⟩, hb⟩
theorem snoc_size19 (y : ByteArray) (c : UInt8) : (y ++ ⟨#[c]⟩ : ByteArray).size = y.size + 1 := by rw [ByteArray.size_append]; rfl
theorem snoc_list19 (y : ByteArray) (c : UInt8) : (y ++ ⟨#[c]⟩ : ByteArray).data.toList = y.data.toList ++ [c] := by simp [ByteArray.data_append]

set_option maxRecDepth 20000 in
theorem cmissing19 (B sb : Nat) (K : Nat → Prop) (q : Int) (es : List Dk.En) (pl target rest : ByteArray) (w : World) (h : CS w B sb K q es) (hp : pl.size ≤ 2097163) (ht : target.size ≤ 1048576) (hr : rest.size ≤ 1048576) (hT : TB19 w) :
  Calls Tryz.prog 114 #[.pointer (some ⟨sb, 0, none⟩), .string pl, .string target, .string rest] w fun e w' => RP19 w w' e (if !Fs.folder rest.data.toList && !(Dk.lst (pl.data.toList ++ [47]) es).isEmpty then Fs.plain 301 [Fs.fd Fs.nLO (Pt.esc target.data.toList ++ [47])] else Fs.plain 404 []) := by
 have HT := hid' hT;have HF := hid' (fun W => cfolder19 rest _ rfl (by omega) W);have hps : (pl ++ ⟨#[47]⟩ : ByteArray).size ≤ 140737488355328 := by rw [snoc_size19]; omega
 have HLS := hid' (fun W (hW : CS W B sb K q es) => clist19 B sb K q es (pl ++ ⟨#[47]⟩) _ (snoc_list19 pl 47) W hW hps);have HE := hid' (fun W => xesc17 target _ rfl W (by omega));have h404 := hid' (fun W (hh : TB19 W) => cplain19 404 (.slice none 0 0) [] W (by decide) (by decide) (fw_nil19 W) (by decide) hh);have hes : (Pt.esc target.data.toList).length ≤ 3145728 := by
  have := Pt.escX_len target.data.toList;rw [← Lib.size_eq] at this;omega
 have HES := hid' (str_snoc19 (Pt.esc target.data.toList) 47);have HS := hid' h;have e1 : pl.size + 1 ≤ 9223372036854775807 := by omega
 have e2 : ¬ 9223372036854775807 < (Pt.esc target.data.toList).length + 1 := by omega
 obtain ⟨em, hem⟩ : ∃ em, (Dk.lst (pl.data.toList ++ [47]) es).isEmpty = em := ⟨_, rfl⟩;have hem2 : em = decide ((Dk.lst (pl.data.toList ++ [47]) es).length = 0) := by rw [← hem]; cases Dk.lst (pl.data.toList ++ [47]) es <;> rfl
 rw [hem];generalize Dk.lst (pl.data.toList ++ [47]) es = ls at *;generalize Pt.esc target.data.toList = ec at *;generalize Fs.folder rest.data.toList = fo at *;clear h hp ht hr hT hem hps hes;unfold RP19 rpC at h404 ⊢;go_enter Tryz.func114, Tryz.ntmps114;go_wp2_with (refine wpl_alloc 38 rfl rfl _ zeroRp19 ?_);intro rb w1 hrb ha1 hl1;have HA1 := hid' ha1;have HB1 := hid' hl1;have HRB := hid' hrb;have HS1 := hid' (cs_keep19 HS.out hl1);clear hrb ha1 hl1;go_wp2_with fail;refine (HF.out w1).mono ?_;rintro e w2 ⟨rfl, hw2⟩;subst w2;have no (w3 : World) (hb3 : Below w1.heap.size w1 w3) : Calls Tryz.prog 35 #[.int .i64 404, .slice none 0 0] w3 _ := h404.out w3 (tb_below19 HT.out (below_two HB1.out hb3));have HNO := hid' no;clear no;cases fo
 ·go_wp2_with fail;refine (HLS.out w1 HS1.out).mono ?_;rintro e w3 ⟨⟨m, ro, rc, rfl, hm⟩, hb3⟩;have HB3 := hid' (below_two HB1.out hb3);have HA3 := hid' (HA1.out.keep hb3);have HB13 := hid' hb3;rw [hm] at hem2;clear hb3 hm;by_cases hm0 : m = 0
  ·have hm1 : ((m : Int) == 0) = true := by rw [hm0]; rfl
   have hee : em = true := by rw [hem2, hm0]; rfl
   subst hee;clear hm0 hem2;go_wp2_with fail;refine (HNO.out w3 HB13.out).mono ?_;rintro e w4 ⟨⟨vo, n, vc, rfl, hn, ho⟩, hb4⟩;have HN4 := hid' hn;have HO4 := hid' ho;have HB4 := hid' hb4;have HA4 := hid' (HA3.out.keep hb4);clear hn ho hb4;obtain ⟨bd, hbd⟩ : ∃ bd : ByteArray, (⟨(Fs.plain 404 []).b.toArray⟩ : ByteArray) = bd := ⟨_, rfl⟩;rw [show (Fs.plain 404 []).s = 404 from rfl, hbd];have HBD := hid' hbd;clear hbd;go_wp2_with (refine wpl_store 38 _ _ rfl rfl rb #[.int .i64 404, .slice vo n vc, .string bd, .slice none 0 0] (by kernel_rfl) (by kernel_rfl) _ _ HA4.out sizeRp19 rfl (by simp [Value.oneCell']) ?_);intro wf hwf huf;go_wp2;have hld := ldRp19 hwf;exact bodyPost_ret (v := .agg #[.int .i64 404, .slice vo n vc, .string bd, .slice none 0 0]) (by simp [results, Tryz.results114, asAddr, hld]) rfl (rp_done19 (Fs.plain 404 []) rfl HBD.out HB3.out HA3.out.lt HRB.out HB4.out HN4.out HO4.out huf)
  ·have hm1 : ((m : Int) == 0) = false := by simp; omega
   have hee : em = false := by rw [hem2]; exact decide_eq_false hm0
   subst hee;clear hm0 hem2;go_wp2_with fail;refine (HE.out w3).mono ?_;rintro e w4 ⟨rfl, hb4⟩;have HB4 := hid' (below_two HB3.out hb4);have HA4 := hid' (HA3.out.keep hb4);clear hb4 HB3 HA3;obtain ⟨lo, hlo⟩ : ∃ lo : ByteArray, ⟨(ec ++ [47]).toArray⟩ = lo := ⟨_, rfl⟩;have hfd : Fs.fd Fs.nLO (ec ++ [47]) = ⟨⟨#[108, 111, 99, 97, 116, 105, 111, 110]⟩, lo⟩ := by rw [← hlo]; rfl
   rw [hlo] at HES;have HFD := hid' hfd;have HL : Hid (FW (w4.alloc (.cells #[.string ⟨#[108, 111, 99, 97, 116, 105, 111, 110]⟩, .string lo] 44)) (.slice (some ⟨w4.heap.size, 0, none⟩) 1 1) [Fs.fd Fs.nLO (ec ++ [47])]) := hid' (by rw [hfd]; exact fw_lit19 w4 [⟨⟨#[108, 111, 99, 97, 116, 105, 111, 110]⟩, lo⟩] 1 rfl (by decide));have hb5 := bl_alloc19 w4 (.cells #[.string ⟨#[108, 111, 99, 97, 116, 105, 111, 110]⟩, .string lo] 44);have HB5 := hid' (below_two HB4.out hb5);have HA5 := hid' (HA4.out.keep hb5);have hsum := HES.out;clear hb5 hfd hlo HES;go_wp2_with fail;refine (cplain19 301 (.slice (some ⟨w4.heap.size, 0, none⟩) 1 1) [Fs.fd Fs.nLO (ec ++ [47])] _ (by decide) (by decide) HL.out (Nat.le_of_ble_eq_true rfl) (tb_below19 HT.out HB5.out)).mono ?_;rintro e w6 ⟨⟨vo, n, vc, rfl, hn, ho⟩, hb6⟩;have HN6 := hid' hn;have HO6 := hid' ho;have HB6 := hid' hb6;have HA6 := hid' (HA5.out.keep hb6);clear hn ho hb6 hsum;unfold rpC;obtain ⟨bd, hbd⟩ : ∃ bd : ByteArray, (⟨(Fs.plain 301 [Fs.fd Fs.nLO (ec ++ [47])]).b.toArray⟩ : ByteArray) = bd := ⟨_, rfl⟩;rw [show (Fs.plain 301 [Fs.fd Fs.nLO (ec ++ [47])]).s = 301 from rfl, hbd];have HBD := hid' hbd;clear hbd;go_wp2_with (refine wpl_store 38 _ _ rfl rfl rb #[.int .i64 301, .slice vo n vc, .string bd, .slice none 0 0] (by kernel_rfl) (by kernel_rfl) _ _ HA6.out sizeRp19 rfl (by simp [Value.oneCell']) ?_);intro wf hwf huf;go_wp2;have hld := ldRp19 hwf;exact bodyPost_ret (v := .agg #[.int .i64 301, .slice vo n vc, .string bd, .slice none 0 0]) (by simp [results, Tryz.results114, asAddr, hld]) rfl (rp_done19 (Fs.plain 301 [Fs.fd Fs.nLO (ec ++ [47])]) rfl HBD.out HB5.out HA5.out.lt HRB.out HB6.out HN6.out HO6.out huf)
 ·go_wp2_with fail;refine (HNO.out w1 (Below.refl _ _)).mono ?_;rintro e w4 ⟨⟨vo, n, vc, rfl, hn, ho⟩, hb4⟩;have HN4 := hid' hn;have HO4 := hid' ho;have HB4 := hid' hb4;have HA4 := hid' (HA1.out.keep hb4);clear hn ho hb4;obtain ⟨bd, hbd⟩ : ∃ bd : ByteArray, (⟨(Fs.plain 404 []).b.toArray⟩ : ByteArray) = bd := ⟨_, rfl⟩;rw [show (Fs.plain 404 []).s = 404 from rfl, hbd];have HBD := hid' hbd;clear hbd;go_wp2_with (refine wpl_store 38 _ _ rfl rfl rb #[.int .i64 404, .slice vo n vc, .string bd, .slice none 0 0] (by kernel_rfl) (by kernel_rfl) _ _ HA4.out sizeRp19 rfl (by simp [Value.oneCell']) ?_);intro wf hwf huf;go_wp2;have hld := ldRp19 hwf;exact bodyPost_ret (v := .agg #[.int .i64 404, .slice vo n vc, .string bd, .slice none 0 0]) (by simp [results, Tryz.results114, asAddr, hld]) rfl (rp_done19 (Fs.plain 404 []) rfl HBD.out HB1.out HA1.out.lt HRB.out HB4.out HN4.out HO4.out huf)

end Go.Proofs.YthhpejgpfaikaabGreatDoor
