/-
  Parts of a file: plain; the law's part: by its contract.
-/
import Derived.Test.YtgbnelglhkfdfaaGreatDoorFtN
import Derived.Test.YtgbnelglhkfdfaaGreatDoorFtQ
import Derived.Test.YtgbnelglhkfdfaaGreatDoorRgL
namespace Go.Proofs.YtgbnelglhkfdfaaGreatDoor
open Go.RowKit

namespace Fs
/-- A field that asks for ranges. -/
def fG (v : T8) : Fd := ⟨⟨#[114, 97, 110, 103, 101]⟩, str v⟩
theorem vals_fG (v nm : T8) (h : (nRG == nm) = false) : Tg.vals [fG v] nm = [] := by
  unfold Tg.vals
  rw [List.filter_cons_of_neg (by rw [show (fG v).n.data.toList = nRG from rfl, h]; decide)]
  rfl
theorem vals_fG2 (v : T8) : Tg.vals [fG v] nRG = [v] := by
  unfold Tg.vals
  rw [List.filter_cons_of_pos (by rw [show (fG v).n.data.toList = nRG from rfl]; decide)]
  rfl
theorem ans_rg (y : ByteArray) (t q : Int) (v : T8) : ans [eX y t q] rW mGET tX sX [fG v] = rgd (kind (name rW sX)) (eX y t q) v := by
  unfold ans ansOf
  rw [getX]
  simp only []
  rw [dec_none [fG v] _ _ (vals_fG v _ (by decide)) (vals_fG v _ (by decide)) (vals_fG v _ (by decide)) (vals_fG v _ (by decide))]
  unfold part
  rw [sam_none [fG v] _ _ (vals_fG v _ (by decide)), vals_fG2]
  rfl
/-- From a to b. -/
def vAB (a b : Int) : T8 := Rg.head6 ++ (Lib.itoa a ++ 45 :: Lib.itoa b)
def vA (a : Int) : T8 := Rg.head6 ++ (Lib.itoa a ++ [45])
theorem ans_ab (y : ByteArray) (t q : Int) {a b : Int} (a0 : 0 ≤ a) (ab : a ≤ b) (bn : b < y.size) (hn : (y.size : Int) ≤ 999999999999999) : ans [eX y t q] rW mGET tX sX [fG (vAB a b)] = one (kind (name rW sX)) (eX y t q) ⟨a, b⟩ := by
  rw [ans_rg]
  obtain ⟨h1, h2⟩ := Rg.ask_ab a0 ab bn hn
  exact rgd_one h1 h2
theorem ans_a (y : ByteArray) (t q : Int) {a : Int} (a0 : 0 ≤ a) (an : a < y.size) (hn : (y.size : Int) ≤ 999999999999999) : ans [eX y t q] rW mGET tX sX [fG (vA a)] = one (kind (name rW sX)) (eX y t q) ⟨a, y.size - 1⟩ := by
  rw [ans_rg]
  obtain ⟨h1, h2⟩ := Rg.ask_a a0 (by omega) (show (0 : Int) ≤ y.size by omega)
  rw [if_pos an] at h1 h2
  exact rgd_one h1 h2
theorem ans_z (y : ByteArray) (t q : Int) {a : Int} (a0 : 0 ≤ a) (an : ¬ a < y.size) (ha : a ≤ 999999999999999) : ∃ r, ans [eX y t q] rW mGET tX sX [fG (vA a)] = r ∧ r.s = 416 := by
  rw [ans_rg]
  obtain ⟨h1, h2⟩ := Rg.ask_a a0 ha (show (0 : Int) ≤ y.size by omega)
  rw [if_neg an] at h1 h2
  exact ⟨_, rgd_161 h1, rfl⟩
end Fs
theorem vab19 (a b : Int) : ((((⟨#[98, 121, 116, 101, 115, 61]⟩ : ByteArray) ++ ⟨(Lib.itoa a).toArray⟩) ++ ⟨#[45]⟩) ++ ⟨(Lib.itoa b).toArray⟩) = Fs.str (Fs.vAB a b) := by
  unfold Fs.str Fs.vAB Rg.head6
  apply ByteArray.ext; simp
theorem va19 (a : Int) : (((⟨#[98, 121, 116, 101, 115, 61]⟩ : ByteArray) ++ ⟨(Lib.itoa a).toArray⟩) ++ ⟨#[45]⟩) = Fs.str (Fs.vA a) := by
  unfold Fs.str Fs.vA Rg.head6
  apply ByteArray.ext; simp

set_option maxHeartbeats 4000000 in
set_option maxRecDepth 20000 in
theorem cpart19 (hA : AnsC19) (y : ByteArray) (t : Int) (he : EN19 (Fs.eX y t 1)) (B sb : Nat) (K : Nat → Prop) (a b : Int) (a0 : 0 ≤ a) (ab : a ≤ b) (bn : b < y.size) (w : World) (h : CS w B sb K 1 [Fs.eX y t 1]) (hT : TB19 w) :
    Calls Tryz.prog 14 #[.pointer (some ⟨sb, 0, none⟩), .int .i64 a, .int .i64 b] w fun e w' => e = .returned (.string (y.extract a.toNat (b + 1).toNat)) ∧ Below w.heap.size w w' := by
  have hy : y.size ≤ 65536 := he.b
  have HN1 := hid' (fun W => num19_any a a0 (by omega) W)
  have HN2 := hid' (fun W => num19_any b (by omega) (by omega) W)
  have HAN := hid' (Fs.ans_ab y t 1 a0 ab bn (by omega))
  have HA := hid' hA
  have HT := hid' hT
  have HS := hid' h
  have HZ : Hid (∀ e ∈ [Fs.eX y t 1], EN19 e) := hid' (by intro e h; rw [List.mem_singleton.1 h]; exact he)
  have l1 : (Lib.itoa a).length ≤ 21 := Lib.itoa_length_le a (by omega) (by omega)
  have l2 : (Lib.itoa b).length ≤ 21 := Lib.itoa_length_le b (by omega) (by omega)
  have HV := hid' (vab19 a b)
  have hvs : (Fs.vAB a b).length ≤ 49 := by unfold Fs.vAB Rg.head6; simp; omega
  have HVZ : Hid (Tg.vsz [Fs.fG (Fs.vAB a b)] ≤ 1048576) := hid' (by rw [show Tg.vsz [Fs.fG (Fs.vAB a b)] = (Fs.vAB a b).length + 2 from rfl]; omega)
  have HCU : Hid ((⟨(((Fs.eX y t 1).body.data.toList.take (b + 1).toNat).drop a.toNat).toArray⟩ : ByteArray) = y.extract a.toNat (b + 1).toNat) := hid' (cut19 y _ _)
  obtain ⟨fv, hfv⟩ : ∃ fv, Fs.fG (Fs.vAB a b) = fv := ⟨_, rfl⟩
  have HFV : Hid (⟨⟨#[114, 97, 110, 103, 101]⟩, Fs.str (Fs.vAB a b)⟩ = fv) := hid' hfv
  rw [hfv] at HAN HVZ
  generalize Fs.str (Fs.vAB a b) = vs at *
  obtain ⟨ia, hia⟩ : ∃ ia : ByteArray, (⟨(Lib.itoa a).toArray⟩ : ByteArray) = ia := ⟨_, rfl⟩
  obtain ⟨ib, hib⟩ : ∃ ib : ByteArray, (⟨(Lib.itoa b).toArray⟩ : ByteArray) = ib := ⟨_, rfl⟩
  have z1 : ia.size ≤ 21 := by rw [← hia]; simpa [ByteArray.size] using l1
  have z2 : ib.size ≤ 21 := by rw [← hib]; simpa [ByteArray.size] using l2
  rw [hia] at HN1 HV
  rw [hib] at HN2 HV
  have s1 : 6 + ia.size ≤ 9223372036854775807 := by omega
  have s2 : 6 + ia.size + 1 ≤ 9223372036854775807 := by omega
  have s3 : 6 + ia.size + 1 + ib.size ≤ 9223372036854775807 := by omega
  have hvv := HV.out
  generalize y.extract a.toNat (b + 1).toNat = cu at *
  clear hA hT h he l1 l2 hvs hfv hia hib z1 z2 a0 ab bn hy HV
  go_enter Tryz.func14, Tryz.ntmps14
  go_wp2_with fail
  refine (HN1.out w).mono ?_
  rintro e w1 ⟨rfl, hb1⟩
  have HB1 := hid' hb1
  clear hb1
  go_wp2_with fail
  refine (HN2.out w1).mono ?_
  rintro e w2 ⟨rfl, hb2⟩
  have HB2 := hid' (below_two HB1.out hb2)
  clear hb2 HB1
  have hb3 := bl_alloc19 w2 (.cells #[.string ⟨#[114, 97, 110, 103, 101]⟩, .string vs] 42)
  have HB3 := hid' (below_two HB2.out hb3)
  have HL : Hid (FW (w2.alloc (.cells #[.string ⟨#[114, 97, 110, 103, 101]⟩, .string vs] 42)) (.slice (some ⟨w2.heap.size, 0, none⟩) 1 1) [fv]) := hid' (by rw [← HFV.out]; exact fw_lit19 w2 [⟨⟨#[114, 97, 110, 103, 101]⟩, vs⟩] 1 rfl (by decide))
  clear hb3
  go_wp2_with fail
  refine (HA.out B sb K 1 [Fs.eX y t 1] ⟨#[47, 119]⟩ ⟨#[71, 69, 84]⟩ ⟨#[47, 120]⟩ ⟨#[120]⟩ (.slice (some ⟨w2.heap.size, 0, none⟩) 1 1) [fv] _ (cs_keep19 HS.out HB3.out) HL.out (Nat.le_of_ble_eq_true rfl) HVZ.out (by decide) (by decide) (by decide) (by decide) HZ.out (tb_below19 HT.out HB3.out)).mono ?_
  rw [show Fs.ans [Fs.eX y t 1] (⟨#[47, 119]⟩ : ByteArray).data.toList (⟨#[71, 69, 84]⟩ : ByteArray).data.toList (⟨#[47, 120]⟩ : ByteArray).data.toList (⟨#[120]⟩ : ByteArray).data.toList [fv] = _ from HAN.out]
  rintro _ w4 ⟨⟨vo, n, vc, rfl, _⟩, hb4⟩
  have HB4 := hid' (below_two HB3.out hb4)
  clear hb4 HAN
  unfold rpC Fs.one
  simp only
  rw [HCU.out]
  have HX : Hid (Ar (w4.alloc (.cells #[.int .i64 206, .slice vo n vc, .string cu, .slice none 0 0] 24)) w4.heap.size 24 #[.int .i64 206, .slice vo n vc, .string cu, .slice none 0 0]) := hid' (heap_alloc_last w4 _)
  have HB5 := hid' (below_two HB4.out (bl_alloc19 w4 (.cells #[.int .i64 206, .slice vo n vc, .string cu, .slice none 0 0] 24)))
  go_upto_region 2 with fail
  obtain ⟨xb, hxb⟩ : ∃ xb, w4.heap.size = xb := ⟨_, rfl⟩
  rw [hxb] at HX ⊢
  generalize w4.alloc (.cells #[.int .i64 206, .slice vo n vc, .string cu, .slice none 0 0] 24) = w5 at *
  clear hxb
  have x0 := HX.out.cell 0 _ rfl
  have x2 := HX.out.cell 2 _ rfl
  go_wp2
  go_ret
  exact ⟨rfl, HB5.out⟩

end Go.Proofs.YtgbnelglhkfdfaaGreatDoor
