/-
  Contracts: NewReader; Byte, Long, Text and End of the program's Reader.
-/
import Derived.Test.YtjhfgajhmenboaaDoorReader
namespace Go.Proofs.YtjhfgajhmenboaaDoor
open Go.RowKit
set_option linter.unusedVariables false
set_option linter.unusedSimpArgs false

theorem numL_head {T : List UInt8} (h : T.length ≤ 1) : numL T = headN T := by
  match T, h with
  | [], _ => rfl
  | [x], _ => rw [headN_one]; simp [numL]

set_option maxRecDepth 100000 in
set_option maxHeartbeats 1000000 in
theorem PByte_any (c g : Nat) (l : List UInt8) (k y : Nat) (w : World) (h : Hid (PR c g l k y w)) :
    Calls Tryd.prog 51 #[.pointer (some ⟨c, 0, none⟩)] w fun e w' => e = .returned (.int .i64 (headN (rdTake l k y 1).1)) ∧
      PR c g l (rdTake l k y 1).2.1 (rdTake l k y 1).2.2 w' ∧ w.grownBy w' (some c) := by
  have hlen := rdTake_len l k y 1
  have hT := PTake_any c g l k y 1 w h (by omega) (fun _ => .inl (by omega))
  obtain ⟨T, eT⟩ : ∃ T, (rdTake l k y 1).1 = T := ⟨_, rfl⟩
  obtain ⟨k', ek⟩ : ∃ k', (rdTake l k y 1).2.1 = k' := ⟨_, rfl⟩
  obtain ⟨y', ey⟩ : ∃ y', (rdTake l k y 1).2.2 = y' := ⟨_, rfl⟩
  rw [eT, ek, ey] at hT ⊢
  rw [eT] at hlen
  have hT := Lib.hid hT
  clear eT ek ey
  have hnum := Lib.hid (numL_head hlen)
  have hle := headN_le T
  obtain ⟨p, ep⟩ : ∃ p, headN T = p := ⟨_, rfl⟩
  rw [ep] at hnum hle ⊢
  clear ep
  have hlen := Lib.hid hlen
  go_enter Tryd.func51, Tryd.ntmps51
  go_wp2_with fail
  refine hT.out.mono ?_
  rintro e w1 ⟨A1, c1, rfl, H1, R1, G1⟩
  have R1 := Lib.hid R1
  have G1 := Lib.hid G1
  have H1 := Lib.hid H1
  go_wp2_with fail
  refine (Number_any A1 T.length c1 T w1 (by have := hlen.out; omega) H1).mono ?_
  rintro e w2 ⟨rfl, rfl⟩
  rw [hnum.out]
  go_wp2_with fail
  go_ret
  exact ⟨rfl, R1.out, G1.out⟩

set_option maxRecDepth 100000 in
set_option maxHeartbeats 1000000 in
theorem PLong_any (c g : Nat) (l : List UInt8) (k y : Nat) (w : World) (h : Hid (PR c g l k y w)) :
    Calls Tryd.prog 52 #[.pointer (some ⟨c, 0, none⟩)] w fun e w' => e = .returned (.int .i64 (wrap64 (numL (rdTake l k y 8).1))) ∧
      PR c g l (rdTake l k y 8).2.1 (rdTake l k y 8).2.2 w' ∧ w.grownBy w' (some c) := by
  have hlen := rdTake_len l k y 8
  have hT := PTake_any c g l k y 8 w h (by omega) (fun _ => .inl (by omega))
  obtain ⟨T, eT⟩ : ∃ T, (rdTake l k y 8).1 = T := ⟨_, rfl⟩
  obtain ⟨k', ek⟩ : ∃ k', (rdTake l k y 8).2.1 = k' := ⟨_, rfl⟩
  obtain ⟨y', ey⟩ : ∃ y', (rdTake l k y 8).2.2 = y' := ⟨_, rfl⟩
  rw [eT, ek, ey] at hT ⊢
  rw [eT] at hlen
  have hT := Lib.hid hT
  clear eT ek ey
  have hlen := Lib.hid hlen
  go_enter Tryd.func52, Tryd.ntmps52
  go_wp2_with fail
  refine hT.out.mono ?_
  rintro e w1 ⟨A1, c1, rfl, H1, R1, G1⟩
  have R1 := Lib.hid R1
  have G1 := Lib.hid G1
  have H1 := Lib.hid H1
  go_wp2_with fail
  refine (Number_any A1 T.length c1 T w1 (by have := hlen.out; omega) H1).mono ?_
  rintro e w2 ⟨rfl, rfl⟩
  go_wp2_with fail
  go_ret
  exact ⟨rfl, R1.out, G1.out⟩

set_option maxRecDepth 100000 in
set_option maxHeartbeats 1000000 in
theorem PEnd_go (c : Nat) (A : Option Addr) (n cap : Nat) (s : Bool) (v : Nat) (w : World) (h : Hid (PAt c A n cap s w)) (hn : n ≤ 140737488355328) (hv : (s = true ∧ v = 10) ∨ (s = false ∧ 0 < n ∧ v = 15) ∨ (s = false ∧ n = 0 ∧ v = 0)) :
    Calls Tryd.prog 38 #[.pointer (some ⟨c, 0, none⟩)] w fun e w' => e = .returned (.int .i64 v) ∧ w' = w := by
  obtain ⟨c0, c1, f0, f1⟩ := h.out.cells
  rcases hv with ⟨rfl, rfl⟩ | ⟨rfl, h0, rfl⟩ | ⟨rfl, rfl, rfl⟩
  · go_enter Tryd.func38, Tryd.ntmps38
    go_wp2_with fail
    go_ret
    exact ⟨rfl, rfl⟩
  · have d1 : decide (0 < (n : Int)) = true := decide_eq_true (by omega)
    go_enter Tryd.func38, Tryd.ntmps38
    go_wp2_with fail
    go_ret
    exact ⟨rfl, rfl⟩
  · go_enter Tryd.func38, Tryd.ntmps38
    go_wp2_with fail
    go_ret
    exact ⟨rfl, rfl⟩
theorem PEnd_any (c g : Nat) (l : List UInt8) (k y : Nat) (w : World) (h : Hid (PR c g l k y w)) :
    Calls Tryd.prog 38 #[.pointer (some ⟨c, 0, none⟩)] w fun e w' => e = .returned (.int .i64 (rdEnd l k y)) ∧ w' = w := by
  obtain ⟨A, n, cap, h1, h2, h3, h4, h5, h6⟩ := h.out.at'
  have hn : n = l.length - k := by rw [← h2.1, List.length_drop]
  have hsh := h.out.short
  refine PEnd_go c A n cap _ _ w (Lib.hid h1) (by omega) ?_
  rcases h.out.num with rfl | rfl
  · by_cases hlt : k < l.length
    · exact .inr (.inl ⟨by decide, by omega, rdEnd_left hlt⟩)
    · exact .inr (.inr ⟨by decide, by omega, rdEnd_all hlt⟩)
  · exact .inl ⟨by decide, rdEnd_bad (by omega)⟩
end Go.Proofs.YtjhfgajhmenboaaDoor
