/-
  Contract of the law package: known.
-/
import Derived.Test.YtcfmnmknbebfnaaLvCalls
import Derived.Test.YtcfmnmknbebfnaaLvTake
import Derived.Test.YtcfmnmknbebfnaaLvOpen
import Derived.Test.YtcfmnmknbebfnaaLvGet
namespace Go.Proofs.Ytcfmnmknbebfnaa
open Go.RowKit
set_option linter.unusedVariables false
set_option linter.unusedSimpArgs false

theorem AR.next {B c : Nat} {F : Nat → Prop} {st st' : St} {w w' : World} (h : AR B c F st w) (h2 : AR B c F st' w') (ho : Only F w w') : Below B w w' := by
  obtain ⟨s, q, L, E, rfl, hA, hI, hB⟩ := h
  have h1 := hB c (.inl rfl)
  have h3 := hA.lt (k := c) (.inl rfl)
  exact ho.below (by omega) (fun k hk e => by have := hB k e; omega)
def K1 : St := (newS 4).opened
def K2 : St := (pushO K1 0 7 5 false).2.2
def K3 : St := (pushO K2 0 8 6 true).2.2
def K4 : St := (takeO K3 0 5).2
def K5 : St := (pushO K4 0 9 1 false).2.2
theorem i64_small {x : Int} (h1 : -1000000000 ≤ x) (h2 : x ≤ 1000000000) : I64 x := ⟨by omega, by omega⟩
set_option maxRecDepth 100000 in
set_option maxHeartbeats 2000000 in
theorem Known_any (w : World) :
    Calls Try.prog 13 #[] w fun e w' => e = .returned (.bool true) ∧ Below w.heap.size w w' := by
  have HN := Lib.hid (New_yes 4 w (by omega) (by omega))
  have t4 : Hid ((((4 : Nat)) : Int) = 4) := Lib.hid rfl
  rw [t4.out] at HN
  have HO := fun (B c : Nat) (F : Nat → Prop) (W : World) (h : AR B c F (newS 4) W) => Open_any B c F (newS 4) W (Lib.hid h) (by decide)
  rw [show (((newS 4).Q.length : Nat) : Int) = 0 from rfl, show (newS 4).opened = K1 from rfl] at HO
  have HP1 := fun (B c : Nat) (F : Nat → Prop) (W : World) (h : AR B c F K1 W) => Push_any B c F K1 0 7 5 false W (Lib.hid h) (by decide) (Lib.hid (i64_small (by omega) (by omega))) (i64_small (by omega) (by omega))
  rw [show (pushO K1 0 7 5 false).1 = 0 from by decide, show (pushO K1 0 7 5 false).2.1 = 0 from by decide, show (pushO K1 0 7 5 false).2.2 = K2 from rfl] at HP1
  have HP2 := fun (B c : Nat) (F : Nat → Prop) (W : World) (h : AR B c F K2 W) => Push_any B c F K2 0 8 6 true W (Lib.hid h) (by decide) (Lib.hid (i64_small (by omega) (by omega))) (i64_small (by omega) (by omega))
  rw [show (pushO K2 0 8 6 true).1 = 1 from by decide, show (pushO K2 0 8 6 true).2.1 = 0 from by decide, show (pushO K2 0 8 6 true).2.2 = K3 from rfl] at HP2
  have HT := fun (B c : Nat) (F : Nat → Prop) (W : World) (h : AR B c F K3 W) => Take_any B c F K3 0 5 W (Lib.hid h) (by decide) (i64_small (by omega) (by omega))
  rw [show (takeO K3 0 5).1 = 0 from by decide, show (takeO K3 0 5).2 = K4 from rfl] at HT
  have HP3 := fun (B c : Nat) (F : Nat → Prop) (W : World) (h : AR B c F K4 W) => Push_any B c F K4 0 9 1 false W (Lib.hid h) (by decide) (Lib.hid (i64_small (by omega) (by omega))) (i64_small (by omega) (by omega))
  rw [show (pushO K4 0 9 1 false).1 = 0 from by decide, show (pushO K4 0 9 1 false).2.1 = 0 from by decide, show (pushO K4 0 9 1 false).2.2 = K5 from rfl] at HP3
  have HS := fun (B c : Nat) (F : Nat → Prop) (W : World) (h : AR B c F K5 W) => Total_any B c F K5 0 W (Lib.hid h) (by decide)
  rw [show sumN (listO K5 0) = 7 from by decide] at HS
  have HC := fun (B c : Nat) (F : Nat → Prop) (W : World) (h : AR B c F K5 W) => Count_any B c F K5 0 W (Lib.hid h) (by decide)
  rw [show (((listO K5 0).length : Nat) : Int) = 2 from by decide] at HC
  have HF := fun (B c : Nat) (F : Nat → Prop) (W : World) (h : AR B c F K5 W) => Free_any B c F K5 W (Lib.hid h)
  rw [show ((K5.U.count false : Nat) : Int) = 2 from by decide] at HF
  replace HO := Lib.hid HO
  replace HP1 := Lib.hid HP1
  replace HP2 := Lib.hid HP2
  replace HP3 := Lib.hid HP3
  replace HT := Lib.hid HT
  replace HS := Lib.hid HS
  replace HC := Lib.hid HC
  replace HF := Lib.hid HF
  obtain ⟨B, eB⟩ : ∃ B, w.heap.size = B := ⟨_, rfl⟩
  rw [eB] at HN ⊢
  replace eB := Lib.hid eB
  go_enter Try.func13, Try.ntmps13
  go_wp2_with fail
  refine HN.out.mono ?_
  rintro e w1 ⟨c, F, rfl, a1, b1⟩
  replace b1 := Lib.hid b1
  go_wp2_with fail
  refine (HO.out B c F w1 a1).mono ?_
  rintro e w2 ⟨F2, rfl, a2, o2, n2⟩
  have b2 := Lib.hid (b1.out.trans (o2.below (by rw [← eB.out]; exact b1.out.size) (fun k hk e => by have := (a1.lt e).1; omega)))
  clear a1 o2 n2 b1
  go_wp2_with fail
  refine (HP1.out B c F2 w2 a2).mono ?_
  rintro e w3 ⟨rfl, a3, o3⟩
  have b3 := Lib.hid (b2.out.trans (a2.next a3 o3))
  clear a2 o3 b2
  go_wp2_with fail
  refine (HP2.out B c F2 w3 a3).mono ?_
  rintro e w4 ⟨rfl, a4, o4⟩
  have b4 := Lib.hid (b3.out.trans (a3.next a4 o4))
  clear a3 o4 b3
  go_wp2_with fail
  refine (HT.out B c F2 w4 a4).mono ?_
  rintro e w5 ⟨rfl, a5, o5⟩
  have b5 := Lib.hid (b4.out.trans (a4.next a5 o5))
  clear a4 o5 b4
  go_wp2_with fail
  refine (HP3.out B c F2 w5 a5).mono ?_
  rintro e w6 ⟨rfl, a6, o6⟩
  have b6 := Lib.hid (b5.out.trans (a5.next a6 o6))
  clear a5 o6 b5
  go_wp2_with fail
  refine (HS.out B c F2 w6 a6).mono ?_
  rintro e w7 ⟨rfl, rfl⟩
  go_wp2_with fail
  refine (HC.out B c F2 _ a6).mono ?_
  rintro e w7 ⟨rfl, rfl⟩
  go_wp2_with fail
  refine (HF.out B c F2 _ a6).mono ?_
  rintro e w7 ⟨rfl, rfl⟩
  go_wp2_with fail
  go_ret
  exact ⟨rfl, b6.out⟩
end Go.Proofs.Ytcfmnmknbebfnaa
