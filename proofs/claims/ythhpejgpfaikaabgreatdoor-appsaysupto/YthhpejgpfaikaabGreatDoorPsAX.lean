/-
  What the row stands on.
-/
import Derived.Test.YthhpejgpfaikaabGreatDoorPsAT
import Derived.Test.YthhpejgpfaikaabGreatDoorPsAH
import Derived.Deep.RegionLaw
import Derived.RegionTactic
namespace Go.Proofs.YthhpejgpfaikaabGreatDoor
set_option maxHeartbeats 64000000
open Go.RowKit

namespace Pt
def dv (c : UInt8) : Int := if 0 ≤ hx c then hx c else 0
theorem dv_bd (c : UInt8) : 0 ≤ dv c ∧ dv c ≤ 15 := by
 have := hx_bd c;unfold dv;split <;> omega
theorem or16 (a b : Int) (ha0 : 0 ≤ a) (ha : a ≤ 15) (hb0 : 0 ≤ b) (hb : b ≤ 15) : Go.bits .or .u8 (a * 16) b = 16 * a + b := by
 obtain ⟨x, rfl⟩ : ∃ x : Nat, a = (x : Int) := ⟨a.toNat, by omega⟩;obtain ⟨y, rfl⟩ : ∃ y : Nat, b = (y : Int) := ⟨b.toNat, by omega⟩;have key : ∀ x : Fin 16, ∀ y : Fin 16, Go.bits .or .u8 ((x.val : Int) * 16) (y.val : Int) = 16 * (x.val : Int) + (y.val : Int) := by decide +kernel
 exact key ⟨x, by omega⟩ ⟨y, by omega⟩
end Pt

theorem cdig17 (c : UInt8) (w : World) : Calls Tryz.prog 104 #[.int .u8 (c.toNat : Int)] w fun e w' => e = .returned (.tuple #[.int .u8 (Pt.dv c), .bool (decide (0 ≤ Pt.hx c))]) ∧ w' = w := by
 obtain ⟨x, hx⟩ : ∃ x : Int, (c.toNat : Int) = x := ⟨_, rfl⟩;have hx0 : 0 ≤ x := by omega
 have hx1 : x < 256 := by have := c.toNat_lt; omega
 have HE : Hid (Pt.hx c = Tx.dgr x) := hid' (by unfold Pt.hx; rw [hx]);have HV : Hid (∀ v : Int, 0 ≤ v → Tx.dgr x = v → Pt.dv c = v ∧ decide (0 ≤ Pt.hx c) = true) := hid' (fun v h0 hv => by
  unfold Pt.dv;rw [HE.out, hv, if_pos h0, decide_eq_true h0]; exact ⟨rfl, rfl⟩)
 have HN : Hid (Tx.dgr x = -1 → Pt.dv c = 0 ∧ decide (0 ≤ Pt.hx c) = false) := hid' (fun hv => by
  unfold Pt.dv;rw [HE.out, hv]; exact ⟨rfl, rfl⟩)
 rw [hx];clear hx HE;by_cases h1 : 48 ≤ x
 ·by_cases h2 : x ≤ 57
  ·have HR := hid' (HV.out (x - 48) (by omega) (by unfold Tx.dgr Tx.digC; rw [decide_eq_true h1, decide_eq_true h2]; rfl));go_enter Tryz.func104, Tryz.ntmps104;go_wp2;go_ret2;exact ⟨by rw [HR.out.1, HR.out.2]; go_num, rfl⟩
  ·by_cases h5 : 65 ≤ x
   ·by_cases h6 : x ≤ 70
    ·have h3 : ¬ 97 ≤ x := by omega
     have HR := hid' (HV.out (x - 65 + 10) (by omega) (by unfold Tx.dgr Tx.digC; rw [decide_eq_true h1, decide_eq_false h2, decide_eq_false h3, decide_eq_true h5, decide_eq_true h6]; simp; omega));go_enter Tryz.func104, Tryz.ntmps104;go_wp2;go_ret2;exact ⟨by rw [HR.out.1, HR.out.2]; go_num, rfl⟩
    ·by_cases h3 : 97 ≤ x
     ·by_cases h4 : x ≤ 102
      ·have HR := hid' (HV.out (x - 97 + 10) (by omega) (by unfold Tx.dgr Tx.digC; rw [decide_eq_true h1, decide_eq_false h2, decide_eq_true h3, decide_eq_true h4]; simp; omega));go_enter Tryz.func104, Tryz.ntmps104;go_wp2;go_ret2;exact ⟨by rw [HR.out.1, HR.out.2]; go_num, rfl⟩
      ·have HR := hid' (HN.out (by unfold Tx.dgr Tx.digC; rw [decide_eq_true h1, decide_eq_false h2, decide_eq_true h3, decide_eq_false h4, decide_eq_true h5, decide_eq_false h6]; rfl));go_enter Tryz.func104, Tryz.ntmps104;go_wp2;go_ret2;exact ⟨by rw [HR.out.1, HR.out.2]; rfl, rfl⟩
     ·have HR := hid' (HN.out (by unfold Tx.dgr Tx.digC; rw [decide_eq_true h1, decide_eq_false h2, decide_eq_false h3, decide_eq_true h5, decide_eq_false h6]; rfl));go_enter Tryz.func104, Tryz.ntmps104;go_wp2;go_ret2;exact ⟨by rw [HR.out.1, HR.out.2]; rfl, rfl⟩
   ·have h3 : ¬ 97 ≤ x := by omega
    have HR := hid' (HN.out (by unfold Tx.dgr Tx.digC; rw [decide_eq_true h1, decide_eq_false h2, decide_eq_false h3, decide_eq_false h5]; rfl));go_enter Tryz.func104, Tryz.ntmps104;go_wp2;go_ret2;exact ⟨by rw [HR.out.1, HR.out.2]; rfl, rfl⟩
 ·have h3 : ¬ 97 ≤ x := by omega
  have h5 : ¬ 65 ≤ x := by omega
  have HR := hid' (HN.out (by unfold Tx.dgr Tx.digC; rw [decide_eq_false h1, decide_eq_false h3, decide_eq_false h5]; rfl));go_enter Tryz.func104, Tryz.ntmps104;go_wp2;go_ret2;exact ⟨by rw [HR.out.1, HR.out.2]; rfl, rfl⟩

theorem cread17s (s : ByteArray) (hs : s.size < 2) (w : World) : Calls Tryz.prog 76 #[.string s] w fun e w' => e = .returned (.tuple #[.int .u8 0, .bool false]) ∧ w' = w := by
 have h2 : (s.size : Int) < 2 := by omega
 go_enter Tryz.func76, Tryz.ntmps76;go_wp2;go_ret2;exact ⟨rfl, rfl⟩

theorem cread17 (s : ByteArray) (h0 : 0 < s.size) (h1 : 1 < s.size) (hb : s.size ≤ 9223372036854775807) (w : World) : Calls Tryz.prog 76 #[.string s] w fun e w' => e = .returned (.tuple #[.int .u8 ((16 : Int) * Pt.dv s[0] + Pt.dv s[1]), .bool (decide (0 ≤ Pt.hx s[0]) && decide (0 ≤ Pt.hx s[1]))]) ∧ w' = w := by
 have h2 : ¬ (s.size : Int) < 2 := by omega
 have g0 : (0 : Int) < (s.size : Int) := by omega
 have g1 : (1 : Int) < (s.size : Int) := by omega
 have H0 := hid' (fun W => cdig17 s[0] W);have H1 := hid' (fun W => cdig17 s[1] W);have b0 := Pt.dv_bd s[0];have b1 := Pt.dv_bd s[1];generalize Pt.dv s[0] = a at *;generalize Pt.dv s[1] = b at *;generalize decide (0 ≤ Pt.hx s[0]) = p at *;generalize decide (0 ≤ Pt.hx s[1]) = q at *;have HOR := hid' (Pt.or16 a b b0.1 b0.2 b1.1 b1.2);go_enter Tryz.func76, Tryz.ntmps76;go_wp2_with fail;refine (H0.out _).mono ?_;rintro e w1 ⟨rfl, hw⟩;subst w1;go_wp2_with fail;refine (H1.out _).mono ?_;rintro e w1 ⟨rfl, hw⟩;subst w1;cases p
 ·go_wp2;go_ret2;exact ⟨by rw [← HOR.out]; rfl, rfl⟩
 ·go_wp2;go_ret2;exact ⟨by rw [← HOR.out]; rfl, rfl⟩

theorem cescb17 (c : UInt8) (w : World) : Calls Tryz.prog 77 #[.int .u8 (c.toNat : Int)] w fun e w' => e = .returned (.bool (Pt.okb (c.toNat : Int))) ∧ w' = w := by
 obtain ⟨x, hx⟩ : ∃ x : Int, (c.toNat : Int) = x := ⟨_, rfl⟩;have hx0 : 0 ≤ x := by omega
 have hx1 : x < 256 := by have := c.toNat_lt; omega
 rw [hx];clear hx;have HE : Hid (Pt.okb x = (!decide (x < 32) && (!(x == 127) && !(x == 47)))) := hid' rfl;by_cases h1 : x < 32
 ·have g1 : ¬ 32 ≤ x := by omega
  rw [decide_eq_true h1] at HE;go_enter Tryz.func77, Tryz.ntmps77;go_wp2;go_ret;exact ⟨by rw [HE.out]; rfl, rfl⟩
 ·have g1 : 32 ≤ x := by omega
  rw [decide_eq_false h1] at HE;cases h2 : (x == 127)
  ·have g2 : (x != 127) = true := by unfold bne; rw [h2]; rfl
   rw [h2] at HE;cases h3 : (x == 47)
   ·have g3 : (x != 47) = true := by unfold bne; rw [h3]; rfl
    rw [h3] at HE;go_enter Tryz.func77, Tryz.ntmps77;go_wp2;go_ret;exact ⟨by rw [HE.out]; rfl, rfl⟩
   ·have g3 : (x != 47) = false := by unfold bne; rw [h3]; rfl
    rw [h3] at HE;go_enter Tryz.func77, Tryz.ntmps77;go_wp2;go_ret;exact ⟨by rw [HE.out]; rfl, rfl⟩
  ·have g2 : (x != 127) = false := by unfold bne; rw [h2]; rfl
   rw [h2] at HE;go_enter Tryz.func77, Tryz.ntmps77;go_wp2;go_ret;exact ⟨by rw [HE.out]; rfl, rfl⟩

namespace Pt
def plI (x : Int) : Bool := (decide (97 ≤ x) && decide (x ≤ 122)) || (decide (65 ≤ x) && decide (x ≤ 90)) || (decide (48 ≤ x) && decide (x ≤ 57)) || x == 45 || x == 46 || x == 95 || x == 126 || x == 47
theorem plI_is (c : UInt8) : plain c = plI (c.toNat : Int) := by
 have key : ∀ c : Fin 256, plain (UInt8.ofNat c.val) = plI ((UInt8.ofNat c.val).toNat : Int) := by decide +kernel
 have := key ⟨c.toNat, c.toNat_lt⟩;simpa using this
end Pt

theorem cbare17 (c : UInt8) (w : World) : Calls Tryz.prog 177 #[.int .u8 (c.toNat : Int)] w fun e w' => e = .returned (.bool (Pt.plain c)) ∧ w' = w := by
 have HE := hid' (Pt.plI_is c);obtain ⟨x, hx⟩ : ∃ x : Int, (c.toNat : Int) = x := ⟨_, rfl⟩;have hx0 : 0 ≤ x := by omega
 have hx1 : x < 256 := by have := c.toNat_lt; omega
 rw [hx] at HE ⊢;clear hx;by_cases a0 : 97 ≤ x
 ·by_cases b0 : x ≤ 122
  ·have HR : Hid (Pt.plain c = true) := hid' (by rw [HE.out]; unfold Pt.plI; rw [decide_eq_true a0, decide_eq_true b0]; rfl);go_enter Tryz.func177, Tryz.ntmps177;go_wp2;go_ret;exact ⟨by rw [HR.out]; rfl, rfl⟩
  ·by_cases a1 : 65 ≤ x
   ·by_cases b1 : x ≤ 90
    ·have HR : Hid (Pt.plain c = true) := hid' (by rw [HE.out]; unfold Pt.plI; rw [decide_eq_true a0, decide_eq_false b0, decide_eq_true a1, decide_eq_true b1]; rfl);go_enter Tryz.func177, Tryz.ntmps177;go_wp2;go_ret;exact ⟨by rw [HR.out]; rfl, rfl⟩
    ·by_cases a2 : 48 ≤ x
     ·by_cases b2 : x ≤ 57
      ·have HR : Hid (Pt.plain c = true) := hid' (by rw [HE.out]; unfold Pt.plI; rw [decide_eq_true a0, decide_eq_false b0, decide_eq_true a1, decide_eq_false b1, decide_eq_true a2, decide_eq_true b2]; rfl);go_enter Tryz.func177, Tryz.ntmps177;go_wp2;go_ret;exact ⟨by rw [HR.out]; rfl, rfl⟩
      ·cases e0 : (x == 45)
       ·cases e1 : (x == 46)
        ·cases e2 : (x == 95)
         ·cases e3 : (x == 126)
          ·cases e4 : (x == 47)
           ·have HR : Hid (Pt.plain c = false) := hid' (by rw [HE.out]; unfold Pt.plI; rw [decide_eq_true a0, decide_eq_false b0, decide_eq_true a1, decide_eq_false b1, decide_eq_true a2, decide_eq_false b2, e0, e1, e2, e3, e4]; rfl);go_enter Tryz.func177, Tryz.ntmps177;go_wp2;go_ret;exact ⟨by rw [HR.out]; rfl, rfl⟩
           ·have HR : Hid (Pt.plain c = true) := hid' (by rw [HE.out]; unfold Pt.plI; rw [decide_eq_true a0, decide_eq_false b0, decide_eq_true a1, decide_eq_false b1, decide_eq_true a2, decide_eq_false b2, e0, e1, e2, e3, e4]; rfl);go_enter Tryz.func177, Tryz.ntmps177;go_wp2;go_ret;exact ⟨by rw [HR.out]; rfl, rfl⟩
          ·have HR : Hid (Pt.plain c = true) := hid' (by rw [HE.out]; unfold Pt.plI; rw [decide_eq_true a0, decide_eq_false b0, decide_eq_true a1, decide_eq_false b1, decide_eq_true a2, decide_eq_false b2, e0, e1, e2, e3]; rfl);go_enter Tryz.func177, Tryz.ntmps177;go_wp2;go_ret;exact ⟨by rw [HR.out]; rfl, rfl⟩
         ·have HR : Hid (Pt.plain c = true) := hid' (by rw [HE.out]; unfold Pt.plI; rw [decide_eq_true a0, decide_eq_false b0, decide_eq_true a1, decide_eq_false b1, decide_eq_true a2, decide_eq_false b2, e0, e1, e2]; rfl);go_enter Tryz.func177, Tryz.ntmps177;go_wp2;go_ret;exact ⟨by rw [HR.out]; rfl, rfl⟩
        ·have HR : Hid (Pt.plain c = true) := hid' (by rw [HE.out]; unfold Pt.plI; rw [decide_eq_true a0, decide_eq_false b0, decide_eq_true a1, decide_eq_false b1, decide_eq_true a2, decide_eq_false b2, e0, e1]; rfl);go_enter Tryz.func177, Tryz.ntmps177;go_wp2;go_ret;exact ⟨by rw [HR.out]; rfl, rfl⟩
       ·have HR : Hid (Pt.plain c = true) := hid' (by rw [HE.out]; unfold Pt.plI; rw [decide_eq_true a0, decide_eq_false b0, decide_eq_true a1, decide_eq_false b1, decide_eq_true a2, decide_eq_false b2, e0]; rfl);go_enter Tryz.func177, Tryz.ntmps177;go_wp2;go_ret;exact ⟨by rw [HR.out]; rfl, rfl⟩
     ·cases e0 : (x == 45)
      ·cases e1 : (x == 46)
       ·cases e2 : (x == 95)
        ·cases e3 : (x == 126)
         ·cases e4 : (x == 47)
          ·have HR : Hid (Pt.plain c = false) := hid' (by rw [HE.out]; unfold Pt.plI; rw [decide_eq_true a0, decide_eq_false b0, decide_eq_true a1, decide_eq_false b1, decide_eq_false a2, e0, e1, e2, e3, e4]; rfl);go_enter Tryz.func177, Tryz.ntmps177;go_wp2;go_ret;exact ⟨by rw [HR.out]; rfl, rfl⟩
          ·have HR : Hid (Pt.plain c = true) := hid' (by rw [HE.out]; unfold Pt.plI; rw [decide_eq_true a0, decide_eq_false b0, decide_eq_true a1, decide_eq_false b1, decide_eq_false a2, e0, e1, e2, e3, e4]; rfl);go_enter Tryz.func177, Tryz.ntmps177;go_wp2;go_ret;exact ⟨by rw [HR.out]; rfl, rfl⟩
         ·have HR : Hid (Pt.plain c = true) := hid' (by rw [HE.out]; unfold Pt.plI; rw [decide_eq_true a0, decide_eq_false b0, decide_eq_true a1, decide_eq_false b1, decide_eq_false a2, e0, e1, e2, e3]; rfl);go_enter Tryz.func177, Tryz.ntmps177;go_wp2;go_ret;exact ⟨by rw [HR.out]; rfl, rfl⟩
        ·have HR : Hid (Pt.plain c = true) := hid' (by rw [HE.out]; unfold Pt.plI; rw [decide_eq_true a0, decide_eq_false b0, decide_eq_true a1, decide_eq_false b1, decide_eq_false a2, e0, e1, e2]; rfl);go_enter Tryz.func177, Tryz.ntmps177;go_wp2;go_ret;exact ⟨by rw [HR.out]; rfl, rfl⟩
       ·have HR : Hid (Pt.plain c = true) := hid' (by rw [HE.out]; unfold Pt.plI; rw [decide_eq_true a0, decide_eq_false b0, decide_eq_true a1, decide_eq_false b1, decide_eq_false a2, e0, e1]; rfl);go_enter Tryz.func177, Tryz.ntmps177;go_wp2;go_ret;exact ⟨by rw [HR.out]; rfl, rfl⟩
      ·have HR : Hid (Pt.plain c = true) := hid' (by rw [HE.out]; unfold Pt.plI; rw [decide_eq_true a0, decide_eq_false b0, decide_eq_true a1, decide_eq_false b1, decide_eq_false a2, e0]; rfl);go_enter Tryz.func177, Tryz.ntmps177;go_wp2;go_ret;exact ⟨by rw [HR.out]; rfl, rfl⟩
   ·by_cases a2 : 48 ≤ x
    ·by_cases b2 : x ≤ 57
     ·have HR : Hid (Pt.plain c = true) := hid' (by rw [HE.out]; unfold Pt.plI; rw [decide_eq_true a0, decide_eq_false b0, decide_eq_false a1, decide_eq_true a2, decide_eq_true b2]; rfl);go_enter Tryz.func177, Tryz.ntmps177;go_wp2;go_ret;exact ⟨by rw [HR.out]; rfl, rfl⟩
     ·cases e0 : (x == 45)
      ·cases e1 : (x == 46)
       ·cases e2 : (x == 95)
        ·cases e3 : (x == 126)
         ·cases e4 : (x == 47)
          ·have HR : Hid (Pt.plain c = false) := hid' (by rw [HE.out]; unfold Pt.plI; rw [decide_eq_true a0, decide_eq_false b0, decide_eq_false a1, decide_eq_true a2, decide_eq_false b2, e0, e1, e2, e3, e4]; rfl);go_enter Tryz.func177, Tryz.ntmps177;go_wp2;go_ret;exact ⟨by rw [HR.out]; rfl, rfl⟩
          ·have HR : Hid (Pt.plain c = true) := hid' (by rw [HE.out]; unfold Pt.plI; rw [decide_eq_true a0, decide_eq_false b0, decide_eq_false a1, decide_eq_true a2, decide_eq_false b2, e0, e1, e2, e3, e4]; rfl);go_enter Tryz.func177, Tryz.ntmps177;go_wp2;go_ret;exact ⟨by rw [HR.out]; rfl, rfl⟩
         ·have HR : Hid (Pt.plain c = true) := hid' (by rw [HE.out]; unfold Pt.plI; rw [decide_eq_true a0, decide_eq_false b0, decide_eq_false a1, decide_eq_true a2, decide_eq_false b2, e0, e1, e2, e3]; rfl);go_enter Tryz.func177, Tryz.ntmps177;go_wp2;go_ret;exact ⟨by rw [HR.out]; rfl, rfl⟩
        ·have HR : Hid (Pt.plain c = true) := hid' (by rw [HE.out]; unfold Pt.plI; rw [decide_eq_true a0, decide_eq_false b0, decide_eq_false a1, decide_eq_true a2, decide_eq_false b2, e0, e1, e2]; rfl);go_enter Tryz.func177, Tryz.ntmps177;go_wp2;go_ret;exact ⟨by rw [HR.out]; rfl, rfl⟩
       ·have HR : Hid (Pt.plain c = true) := hid' (by rw [HE.out]; unfold Pt.plI; rw [decide_eq_true a0, decide_eq_false b0, decide_eq_false a1, decide_eq_true a2, decide_eq_false b2, e0, e1]; rfl);go_enter Tryz.func177, Tryz.ntmps177;go_wp2;go_ret;exact ⟨by rw [HR.out]; rfl, rfl⟩
      ·have HR : Hid (Pt.plain c = true) := hid' (by rw [HE.out]; unfold Pt.plI; rw [decide_eq_true a0, decide_eq_false b0, decide_eq_false a1, decide_eq_true a2, decide_eq_false b2, e0]; rfl);go_enter Tryz.func177, Tryz.ntmps177;go_wp2;go_ret;exact ⟨by rw [HR.out]; rfl, rfl⟩
    ·cases e0 : (x == 45)
     ·cases e1 : (x == 46)
      ·cases e2 : (x == 95)
       ·cases e3 : (x == 126)
        ·cases e4 : (x == 47)
         ·have HR : Hid (Pt.plain c = false) := hid' (by rw [HE.out]; unfold Pt.plI; rw [decide_eq_true a0, decide_eq_false b0, decide_eq_false a1, decide_eq_false a2, e0, e1, e2, e3, e4]; rfl);go_enter Tryz.func177, Tryz.ntmps177;go_wp2;go_ret;exact ⟨by rw [HR.out]; rfl, rfl⟩
         ·have HR : Hid (Pt.plain c = true) := hid' (by rw [HE.out]; unfold Pt.plI; rw [decide_eq_true a0, decide_eq_false b0, decide_eq_false a1, decide_eq_false a2, e0, e1, e2, e3, e4]; rfl);go_enter Tryz.func177, Tryz.ntmps177;go_wp2;go_ret;exact ⟨by rw [HR.out]; rfl, rfl⟩
        ·have HR : Hid (Pt.plain c = true) := hid' (by rw [HE.out]; unfold Pt.plI; rw [decide_eq_true a0, decide_eq_false b0, decide_eq_false a1, decide_eq_false a2, e0, e1, e2, e3]; rfl);go_enter Tryz.func177, Tryz.ntmps177;go_wp2;go_ret;exact ⟨by rw [HR.out]; rfl, rfl⟩
       ·have HR : Hid (Pt.plain c = true) := hid' (by rw [HE.out]; unfold Pt.plI; rw [decide_eq_true a0, decide_eq_false b0, decide_eq_false a1, decide_eq_false a2, e0, e1, e2]; rfl);go_enter Tryz.func177, Tryz.ntmps177;go_wp2;go_ret;exact ⟨by rw [HR.out]; rfl, rfl⟩
      ·have HR : Hid (Pt.plain c = true) := hid' (by rw [HE.out]; unfold Pt.plI; rw [decide_eq_true a0, decide_eq_false b0, decide_eq_false a1, decide_eq_false a2, e0, e1]; rfl);go_enter Tryz.func177, Tryz.ntmps177;go_wp2;go_ret;exact ⟨by rw [HR.out]; rfl, rfl⟩
     ·have HR : Hid (Pt.plain c = true) := hid' (by rw [HE.out]; unfold Pt.plI; rw [decide_eq_true a0, decide_eq_false b0, decide_eq_false a1, decide_eq_false a2, e0]; rfl);go_enter Tryz.func177, Tryz.ntmps177;go_wp2;go_ret;exact ⟨by rw [HR.out]; rfl, rfl⟩
 ·by_cases a1 : 65 ≤ x
  ·by_cases b1 : x ≤ 90
   ·have HR : Hid (Pt.plain c = true) := hid' (by rw [HE.out]; unfold Pt.plI; rw [decide_eq_false a0, decide_eq_true a1, decide_eq_true b1]; rfl);go_enter Tryz.func177, Tryz.ntmps177;go_wp2;go_ret;exact ⟨by rw [HR.out]; rfl, rfl⟩
   ·by_cases a2 : 48 ≤ x
    ·by_cases b2 : x ≤ 57
     ·have HR : Hid (Pt.plain c = true) := hid' (by rw [HE.out]; unfold Pt.plI; rw [decide_eq_false a0, decide_eq_true a1, decide_eq_false b1, decide_eq_true a2, decide_eq_true b2]; rfl);go_enter Tryz.func177, Tryz.ntmps177;go_wp2;go_ret;exact ⟨by rw [HR.out]; rfl, rfl⟩
     ·cases e0 : (x == 45)
      ·cases e1 : (x == 46)
       ·cases e2 : (x == 95)
        ·cases e3 : (x == 126)
         ·cases e4 : (x == 47)
          ·have HR : Hid (Pt.plain c = false) := hid' (by rw [HE.out]; unfold Pt.plI; rw [decide_eq_false a0, decide_eq_true a1, decide_eq_false b1, decide_eq_true a2, decide_eq_false b2, e0, e1, e2, e3, e4]; rfl);go_enter Tryz.func177, Tryz.ntmps177;go_wp2;go_ret;exact ⟨by rw [HR.out]; rfl, rfl⟩
          ·have HR : Hid (Pt.plain c = true) := hid' (by rw [HE.out]; unfold Pt.plI; rw [decide_eq_false a0, decide_eq_true a1, decide_eq_false b1, decide_eq_true a2, decide_eq_false b2, e0, e1, e2, e3, e4]; rfl);go_enter Tryz.func177, Tryz.ntmps177;go_wp2;go_ret;exact ⟨by rw [HR.out]; rfl, rfl⟩
         ·have HR : Hid (Pt.plain c = true) := hid' (by rw [HE.out]; unfold Pt.plI; rw [decide_eq_false a0, decide_eq_true a1, decide_eq_false b1, decide_eq_true a2, decide_eq_false b2, e0, e1, e2, e3]; rfl);go_enter Tryz.func177, Tryz.ntmps177;go_wp2;go_ret;exact ⟨by rw [HR.out]; rfl, rfl⟩
        ·have HR : Hid (Pt.plain c = true) := hid' (by rw [HE.out]; unfold Pt.plI; rw [decide_eq_false a0, decide_eq_true a1, decide_eq_false b1, decide_eq_true a2, decide_eq_false b2, e0, e1, e2]; rfl);go_enter Tryz.func177, Tryz.ntmps177;go_wp2;go_ret;exact ⟨by rw [HR.out]; rfl, rfl⟩
       ·have HR : Hid (Pt.plain c = true) := hid' (by rw [HE.out]; unfold Pt.plI; rw [decide_eq_false a0, decide_eq_true a1, decide_eq_false b1, decide_eq_true a2, decide_eq_false b2, e0, e1]; rfl);go_enter Tryz.func177, Tryz.ntmps177;go_wp2;go_ret;exact ⟨by rw [HR.out]; rfl, rfl⟩
      ·have HR : Hid (Pt.plain c = true) := hid' (by rw [HE.out]; unfold Pt.plI; rw [decide_eq_false a0, decide_eq_true a1, decide_eq_false b1, decide_eq_true a2, decide_eq_false b2, e0]; rfl);go_enter Tryz.func177, Tryz.ntmps177;go_wp2;go_ret;exact ⟨by rw [HR.out]; rfl, rfl⟩
    ·cases e0 : (x == 45)
     ·cases e1 : (x == 46)
      ·cases e2 : (x == 95)
       ·cases e3 : (x == 126)
        ·cases e4 : (x == 47)
         ·have HR : Hid (Pt.plain c = false) := hid' (by rw [HE.out]; unfold Pt.plI; rw [decide_eq_false a0, decide_eq_true a1, decide_eq_false b1, decide_eq_false a2, e0, e1, e2, e3, e4]; rfl);go_enter Tryz.func177, Tryz.ntmps177;go_wp2;go_ret;exact ⟨by rw [HR.out]; rfl, rfl⟩
         ·have HR : Hid (Pt.plain c = true) := hid' (by rw [HE.out]; unfold Pt.plI; rw [decide_eq_false a0, decide_eq_true a1, decide_eq_false b1, decide_eq_false a2, e0, e1, e2, e3, e4]; rfl);go_enter Tryz.func177, Tryz.ntmps177;go_wp2;go_ret;exact ⟨by rw [HR.out]; rfl, rfl⟩
        ·have HR : Hid (Pt.plain c = true) := hid' (by rw [HE.out]; unfold Pt.plI; rw [decide_eq_false a0, decide_eq_true a1, decide_eq_false b1, decide_eq_false a2, e0, e1, e2, e3]; rfl);go_enter Tryz.func177, Tryz.ntmps177;go_wp2;go_ret;exact ⟨by rw [HR.out]; rfl, rfl⟩
       ·have HR : Hid (Pt.plain c = true) := hid' (by rw [HE.out]; unfold Pt.plI; rw [decide_eq_false a0, decide_eq_true a1, decide_eq_false b1, decide_eq_false a2, e0, e1, e2]; rfl);go_enter Tryz.func177, Tryz.ntmps177;go_wp2;go_ret;exact ⟨by rw [HR.out]; rfl, rfl⟩
      ·have HR : Hid (Pt.plain c = true) := hid' (by rw [HE.out]; unfold Pt.plI; rw [decide_eq_false a0, decide_eq_true a1, decide_eq_false b1, decide_eq_false a2, e0, e1]; rfl);go_enter Tryz.func177, Tryz.ntmps177;go_wp2;go_ret;exact ⟨by rw [HR.out]; rfl, rfl⟩
     ·have HR : Hid (Pt.plain c = true) := hid' (by rw [HE.out]; unfold Pt.plI; rw [decide_eq_false a0, decide_eq_true a1, decide_eq_false b1, decide_eq_false a2, e0]; rfl);go_enter Tryz.func177, Tryz.ntmps177;go_wp2;go_ret;exact ⟨by rw [HR.out]; rfl, rfl⟩
  ·by_cases a2 : 48 ≤ x
   ·by_cases b2 : x ≤ 57
    ·have HR : Hid (Pt.plain c = true) := hid' (by rw [HE.out]; unfold Pt.plI; rw [decide_eq_false a0, decide_eq_false a1, decide_eq_true a2, decide_eq_true b2]; rfl);go_enter Tryz.func177, Tryz.ntmps177;go_wp2;go_ret;exact ⟨by rw [HR.out]; rfl, rfl⟩
    ·cases e0 : (x == 45)
     ·cases e1 : (x == 46)
      ·cases e2 : (x == 95)
       ·cases e3 : (x == 126)
        ·cases e4 : (x == 47)
         ·have HR : Hid (Pt.plain c = false) := hid' (by rw [HE.out]; unfold Pt.plI; rw [decide_eq_false a0, decide_eq_false a1, decide_eq_true a2, decide_eq_false b2, e0, e1, e2, e3, e4]; rfl);go_enter Tryz.func177, Tryz.ntmps177;go_wp2;go_ret;exact ⟨by rw [HR.out]; rfl, rfl⟩
         ·have HR : Hid (Pt.plain c = true) := hid' (by rw [HE.out]; unfold Pt.plI; rw [decide_eq_false a0, decide_eq_false a1, decide_eq_true a2, decide_eq_false b2, e0, e1, e2, e3, e4]; rfl);go_enter Tryz.func177, Tryz.ntmps177;go_wp2;go_ret;exact ⟨by rw [HR.out]; rfl, rfl⟩
        ·have HR : Hid (Pt.plain c = true) := hid' (by rw [HE.out]; unfold Pt.plI; rw [decide_eq_false a0, decide_eq_false a1, decide_eq_true a2, decide_eq_false b2, e0, e1, e2, e3]; rfl);go_enter Tryz.func177, Tryz.ntmps177;go_wp2;go_ret;exact ⟨by rw [HR.out]; rfl, rfl⟩
       ·have HR : Hid (Pt.plain c = true) := hid' (by rw [HE.out]; unfold Pt.plI; rw [decide_eq_false a0, decide_eq_false a1, decide_eq_true a2, decide_eq_false b2, e0, e1, e2]; rfl);go_enter Tryz.func177, Tryz.ntmps177;go_wp2;go_ret;exact ⟨by rw [HR.out]; rfl, rfl⟩
      ·have HR : Hid (Pt.plain c = true) := hid' (by rw [HE.out]; unfold Pt.plI; rw [decide_eq_false a0, decide_eq_false a1, decide_eq_true a2, decide_eq_false b2, e0, e1]; rfl);go_enter Tryz.func177, Tryz.ntmps177;go_wp2;go_ret;exact ⟨by rw [HR.out]; rfl, rfl⟩
     ·have HR : Hid (Pt.plain c = true) := hid' (by rw [HE.out]; unfold Pt.plI; rw [decide_eq_false a0, decide_eq_false a1, decide_eq_true a2, decide_eq_false b2, e0]; rfl);go_enter Tryz.func177, Tryz.ntmps177;go_wp2;go_ret;exact ⟨by rw [HR.out]; rfl, rfl⟩
   ·cases e0 : (x == 45)
    ·cases e1 : (x == 46)
     ·cases e2 : (x == 95)
      ·cases e3 : (x == 126)
       ·cases e4 : (x == 47)
        ·have HR : Hid (Pt.plain c = false) := hid' (by rw [HE.out]; unfold Pt.plI; rw [decide_eq_false a0, decide_eq_false a1, decide_eq_false a2, e0, e1, e2, e3, e4]; rfl);go_enter Tryz.func177, Tryz.ntmps177;go_wp2;go_ret;exact ⟨by rw [HR.out]; rfl, rfl⟩
        ·have HR : Hid (Pt.plain c = true) := hid' (by rw [HE.out]; unfold Pt.plI; rw [decide_eq_false a0, decide_eq_false a1, decide_eq_false a2, e0, e1, e2, e3, e4]; rfl);go_enter Tryz.func177, Tryz.ntmps177;go_wp2;go_ret;exact ⟨by rw [HR.out]; rfl, rfl⟩
       ·have HR : Hid (Pt.plain c = true) := hid' (by rw [HE.out]; unfold Pt.plI; rw [decide_eq_false a0, decide_eq_false a1, decide_eq_false a2, e0, e1, e2, e3]; rfl);go_enter Tryz.func177, Tryz.ntmps177;go_wp2;go_ret;exact ⟨by rw [HR.out]; rfl, rfl⟩
      ·have HR : Hid (Pt.plain c = true) := hid' (by rw [HE.out]; unfold Pt.plI; rw [decide_eq_false a0, decide_eq_false a1, decide_eq_false a2, e0, e1, e2]; rfl);go_enter Tryz.func177, Tryz.ntmps177;go_wp2;go_ret;exact ⟨by rw [HR.out]; rfl, rfl⟩
     ·have HR : Hid (Pt.plain c = true) := hid' (by rw [HE.out]; unfold Pt.plI; rw [decide_eq_false a0, decide_eq_false a1, decide_eq_false a2, e0, e1]; rfl);go_enter Tryz.func177, Tryz.ntmps177;go_wp2;go_ret;exact ⟨by rw [HR.out]; rfl, rfl⟩
    ·have HR : Hid (Pt.plain c = true) := hid' (by rw [HE.out]; unfold Pt.plI; rw [decide_eq_false a0, decide_eq_false a1, decide_eq_false a2, e0]; rfl);go_enter Tryz.func177, Tryz.ntmps177;go_wp2;go_ret;exact ⟨by rw [HR.out]; rfl, rfl⟩


theorem zeroBd17 : (Tryz.prog.info? 123).map (fun i => i.zero) = some (some (.agg #[.pointer none, .slice none 0 0])) := by kernel_rfl
theorem string17 (B b : Nat) (l : List UInt8) (w : World) (h : Bld w B b l) (hBw : B ≤ w.heap.size) :
  Calls Tryz.prog 47 #[.pointer (some ⟨b, 0, none⟩)] w fun e w' => e = .returned (.string ⟨l.toArray⟩) ∧ Below B w w' := by
 refine (Tryz.Builder_String_any_k B b l w (Lib.IsBuilderF.of h) hBw).mono ?_;rintro e w' ⟨rfl, _, hb, ho⟩;exact ⟨rfl, hb⟩
def uV17 : Option (List UInt8) → Value
 | some t => .tuple #[.string ⟨t.toArray⟩, .int .i64 0]
 | none => .tuple #[.string ⟨#[]⟩, .int .i64 170]
namespace Pt
theorem ok_is (a b : UInt8) (d : UInt8) (hd : (d.toNat : Int) = 16 * dv a + dv b) (ha : 0 ≤ hx a) (hb : 0 ≤ hx b) : byt a b = (d.toNat : Int) ∧ UInt8.ofNat (byt a b).toNat = d := by
 have e : byt a b = (d.toNat : Int) := by
  rw [hd]; unfold byt dv; rw [if_pos ha, if_pos hb]
 refine ⟨e, ?_⟩;rw [e];simp
end Pt

set_option maxRecDepth 20000 in
theorem cundo17 (s : ByteArray) (l : List UInt8) (hl : s.data.toList = l) (w : World) (hs : s.size ≤ 4194304) :
  Calls Tryz.prog 52 #[.string s] w fun e w' => e = .returned (uV17 (Pt.undo l)) ∧ Below w.heap.size w w' := by
 have HSZ : Hid (s.size = l.length) := hid' (by rw [Lib.size_eq, hl]);have HGB : Hid (∀ k (h : k < s.size), l[k]? = some s[k]) := hid' (fun k h => by rw [← hl]; exact Tx.get_byte s k h);have HL := hid' hl;clear hl;go_enter Tryz.func52, Tryz.ntmps52;go_wp2_with (refine wpl_alloc 123 rfl rfl _ zeroBd17 ?_);intro b w1 hb1 ha1 hl1;have HS1 : Hid (Bld w1 w.heap.size b [] ∧ Below w.heap.size w w1) := hid' ⟨bld_new w b w1 hb1 ha1, hl1⟩;clear hb1 ha1 hl1;go_wp2;go_loopw [5] (fun s5 wr => ∃ (k : Nat) (Z : List UInt8), s5 = .int .i64 (k : Int) ∧ k ≤ s.size ∧ Hid (Z.length ≤ k) ∧ Hid (Pt.undo l = (Pt.undo (l.drop k)).map (fun r => Z ++ r)) ∧ Hid (Bld wr w.heap.size b Z) ∧ Hid (Below w.heap.size w wr)) (fun s5 _ => s.size - (intOf s5).toNat)
 case atStart => exact ⟨0, [], rfl, Nat.zero_le _, hid' (Nat.le_refl _), hid' (by rw [List.drop_zero]; simp), hid' HS1.out.1, hid' HS1.out.2⟩
 case round =>
  obtain ⟨k, Z, rfl, hk, HZL, HU, HO, HB⟩ := hrel;by_cases hlt : k < s.size
  ·have hlt2 : (k : Int) < (s.size : Int) := by omega
   have HD := hid' (Pt.drop_c (HGB.out k hlt));rw [HD.out] at HU;cases h37 : ((s[k].toNat : Int) == 37)
   ·have hc37 : (s[k] == 37) = false := beq_false_of_ne (fun e => by rw [e] at h37; revert h37; decide);rw [Pt.undo_plain hc37, Option.map_map] at HU;have HWB := hid' (writeByte_any w.heap.size b Z s[k] _ rfl wr HO.out (by have := HZL.out; omega) HB.out.size);go_wp2_with fail;refine HWB.out.mono ?_;rintro e w2 ⟨rfl, h1, h2⟩;have HO2 := hid' h1;have HB2 := hid' (HB.out.trans h2);clear h1 h2;go_wp2;go_roundw
    case rel => exact ⟨k + 1, Z ++ [s[k]], by go_num, by omega, hid' (by rw [List.length_append]; have := HZL.out; simp; omega), hid' (by rw [HU.out]; congr 1; funext r; simp), HO2, HB2⟩
    case measure => simp [intOf]; omega
   ·have hc37 : s[k] = 37 := UInt8.toNat_inj.1 (by have := eq_of_beq h37; simpa using (by omega : s[k].toNat = 37));rw [hc37] at HU;have hk1 : (k : Int) + 1 ≤ (s.size : Int) := by omega
    obtain ⟨t, ht⟩ : ∃ t, s.extract (k + 1) s.size = t := ⟨_, rfl⟩;have HTS : Hid (t.size = s.size - (k + 1)) := hid' (by rw [← ht, ByteArray.size_extract]; omega);by_cases h2 : s.size ≤ k + 2
    ·have HN : Hid (Pt.undo l = none) := hid' (by rw [HU.out, Pt.undo_short (by rw [List.length_drop, ← HSZ.out]; omega)]; rfl);have HRD := hid' (fun W => cread17s t (by have := HTS.out; omega) W);clear HTS;go_wp2_with fail;refine (HRD.out _).mono ?_;rintro e w2 ⟨rfl, hw⟩;subst w2;go_wp2;go_ret2;exact ⟨by rw [HN.out]; rfl, HB.out⟩
    ·have g1 : k + 1 < s.size := by omega
     have g2 : k + 2 < s.size := by omega
     have HD1 := hid' (Pt.drop_c (HGB.out (k + 1) g1));have HD2 := hid' (Pt.drop_c (HGB.out (k + 2) g2));rw [HD1.out, show k + 1 + 1 = k + 2 from rfl, HD2.out, show k + 2 + 1 = k + 3 from rfl] at HU;have t0 : 0 < t.size := by have := HTS.out; omega
     have t1 : 1 < t.size := by have := HTS.out; omega
     have e0 : t[0] = s[k + 1] := by subst ht; rw [ByteArray.getElem_extract]
     have e1 : t[1] = s[k + 2] := by subst ht; rw [ByteArray.getElem_extract]
     have hrd := fun W => cread17 t t0 t1 (by have := HTS.out; omega) W;rw [e0, e1] at hrd;have b0 := Pt.dv_bd s[k + 1];have b1 := Pt.dv_bd s[k + 2];obtain ⟨d, hd⟩ : ∃ d : UInt8, (d.toNat : Int) = 16 * Pt.dv s[k + 1] + Pt.dv s[k + 2] := ⟨UInt8.ofNat (16 * Pt.dv s[k + 1] + Pt.dv s[k + 2]).toNat, by rw [UInt8.toNat_ofNat']; omega⟩;rw [← hd] at hrd;have HBAD : Hid ((decide (0 ≤ Pt.hx s[k + 1]) && (decide (0 ≤ Pt.hx s[k + 2]) && Pt.okb (Pt.byt s[k + 1] s[k + 2]))) = false → Pt.undo l = none) := hid' (fun h => by
      rw [HU.out, Pt.undo_bad h]; rfl)
     have HGO : Hid ((decide (0 ≤ Pt.hx s[k + 1]) && (decide (0 ≤ Pt.hx s[k + 2]) && Pt.okb (Pt.byt s[k + 1] s[k + 2]))) = true → Pt.undo l = (Pt.undo (l.drop (k + 3))).map (fun r => (Z ++ [UInt8.ofNat (Pt.byt s[k + 1] s[k + 2]).toNat]) ++ r)) := hid' (fun h => by
      rw [HU.out, Pt.undo_esc h, Option.map_map];congr 1; funext r; simp)
     have HOK := hid' (Pt.ok_is s[k + 1] s[k + 2] d hd);have HRD := hid' hrd;clear hrd hd e0 e1 t0 t1 HD1 HD2 HU HTS b0 b1 HD;generalize Pt.byt s[k + 1] s[k + 2] = B at *;generalize hP : decide (0 ≤ Pt.hx s[k + 1]) = P at *;generalize hQ : decide (0 ≤ Pt.hx s[k + 2]) = Q at *;have HP := hid' hP;have HQ := hid' hQ;clear hP hQ;have HES := hid' (fun W => cescb17 d W);cases P
     ·have HN := hid' (HBAD.out rfl);go_wp2_with fail;refine (HRD.out _).mono ?_;rintro e w2 ⟨rfl, hw⟩;subst w2;go_wp2;go_ret2;exact ⟨by rw [HN.out]; rfl, HB.out⟩
     cases Q
     ·have HN := hid' (HBAD.out rfl);go_wp2_with fail;refine (HRD.out _).mono ?_;rintro e w2 ⟨rfl, hw⟩;subst w2;go_wp2;go_ret2;exact ⟨by rw [HN.out]; rfl, HB.out⟩
     have HBD := hid' (HOK.out (of_decide_eq_true HP.out) (of_decide_eq_true HQ.out));rw [HBD.out.1] at HBAD HGO;generalize Pt.okb (d.toNat : Int) = r at *;cases r
     ·have HN := hid' (HBAD.out rfl);go_wp2_with fail;refine (HRD.out _).mono ?_;rintro e w2 ⟨rfl, hw⟩;subst w2;go_wp2_with fail;refine (HES.out _).mono ?_;rintro e w2 ⟨rfl, hw⟩;subst w2;go_wp2;go_ret2;exact ⟨by rw [HN.out]; rfl, HB.out⟩
     ·have HG : Hid (Pt.undo l = (Pt.undo (l.drop (k + 3))).map (fun r => (Z ++ [d]) ++ r)) := hid' (by
       have h1 := HGO.out rfl;rw [show UInt8.ofNat (d.toNat : Int).toNat = d by simp] at h1;exact h1)
      have HWB := hid' (fun W (h : Bld W w.heap.size b Z) (hW : w.heap.size ≤ W.heap.size) => writeByte_any w.heap.size b Z d _ rfl W h (by have := HZL.out; omega) hW);go_wp2_with fail;refine (HRD.out _).mono ?_;rintro e w2 ⟨rfl, hw⟩;subst w2;go_wp2_with fail;refine (HES.out _).mono ?_;rintro e w2 ⟨rfl, hw⟩;subst w2;go_wp2_with fail;refine (HWB.out _ HO.out HB.out.size).mono ?_;rintro e w2 ⟨rfl, h1, h2⟩;have HO2 := hid' h1;have HB2 := hid' (HB.out.trans h2);clear h1 h2;go_wp2;go_roundw
      case rel => exact ⟨k + 3, Z ++ [d], by go_num, by omega, hid' (by rw [List.length_append]; have := HZL.out; simp; omega), HG, HO2, HB2⟩
      case measure => simp [intOf]; omega
  ·have hlt2 : ¬ (k : Int) < (s.size : Int) := by omega
   have HE : Hid (Pt.undo l = some Z) := hid' (by rw [HU.out, List.drop_eq_nil_of_le (by have := HSZ.out; omega)]; simp [Pt.undo]);have HST := hid' (string17 w.heap.size b Z wr HO.out HB.out.size);clear hlt;go_wp2_with fail;refine HST.out.mono ?_;rintro e w2 ⟨rfl, h2⟩;have HB2 := hid' (HB.out.trans h2);clear h2;go_wp2;go_ret2;exact ⟨by rw [HE.out]; rfl, HB2.out⟩


def hexB17 : ByteArray := ⟨#[48, 49, 50, 51, 52, 53, 54, 55, 56, 57, 65, 66, 67, 68, 69, 70]⟩
theorem hexB_at17 (n : Nat) (h : n < 16) (hs : n < hexB17.size) : hexB17[n] = Pt.hd16 n := by
 have : ∀ n : Fin 16, hexB17[n.val]'(by have := n.2; show n.val < 16; omega) = Pt.hd16 n.val := by decide
 exact this ⟨n, h⟩
namespace Pt
end Pt

end Go.Proofs.YthhpejgpfaikaabGreatDoor
