/-
  Contracts: Digits and Text, of the document.
-/
import Derived.Test.YtjhfgajhmenboaaDoorRepTextP
namespace Go.Proofs.YtjhfgajhmenboaaDoor
open Go.RowKit
set_option linter.unusedVariables false
set_option linter.unusedSimpArgs false

theorem encode_ascii (r : Nat) (h : r < 128) : Utf8.encode (r : Int) = str [UInt8.ofNat r] := by
  have hv : Utf8.valid (r : Int) = true := by unfold Utf8.valid; simp; omega
  unfold Utf8.encode
  simp only [hv, if_true, Int.toNat_natCast]
  rw [if_pos h]; rfl
theorem digits_small {u : Nat} (h : u < 10) : Lib.decDigits u = [UInt8.ofNat (48 + u % 10)] := by rw [Lib.decDigits, dif_pos h, Nat.mod_eq_of_lt h]
theorem digits_big {u : Nat} (h : ¬ u < 10) : Lib.decDigits u = Lib.decDigits (u / 10) ++ [UInt8.ofNat (48 + u % 10)] := by rw [Lib.decDigits, dif_neg h]
/-- What stands of U's digits, and what is left of U. -/
def Digs (U m : Nat) (t : List UInt8) : Prop := (t = [] ∧ m = U) ∨ (t ≠ [] ∧ m = 0 ∧ Lib.decDigits U = t) ∨ (t ≠ [] ∧ 0 < m ∧ Lib.decDigits U = Lib.decDigits m ++ t)
theorem Digs.next {U m : Nat} {t : List UInt8} (h : Digs U m t) (hm : 0 < m ∨ t = []) : Digs U (m / 10) (UInt8.ofNat (48 + m % 10) :: t) := by
  have step : ∀ s : List UInt8, Lib.decDigits U = Lib.decDigits m ++ s → Digs U (m / 10) (UInt8.ofNat (48 + m % 10) :: s) := by
    intro s hs
    by_cases h10 : m < 10
    · rw [digits_small h10] at hs
      exact .inr (.inl ⟨by simp, by omega, by rw [hs]; rfl⟩)
    · rw [digits_big h10] at hs
      exact .inr (.inr ⟨by simp, by omega, by rw [hs, List.append_assoc]; rfl⟩)
  rcases h with ⟨rfl, rfl⟩ | ⟨h1, h2, h3⟩ | ⟨h1, h2, h3⟩
  · exact step [] (by rw [List.append_nil])
  · rcases hm with hm | hm
    · omega
    · exact absurd hm h1
  · exact step t h3
theorem Digs.len {U m : Nat} {t : List UInt8} (h : Digs U m t) (hU : U < 18446744073709551616) : t.length ≤ 20 ∧ m < 18446744073709551616 := by
  have h20 : (Lib.decDigits U).length ≤ 20 := by rw [Lib.decDigits_length]; exact nDigits_le U hU
  rcases h with ⟨rfl, rfl⟩ | ⟨_, h2, h3⟩ | ⟨_, h2, h3⟩
  · exact ⟨Nat.zero_le _, hU⟩
  · rw [h3] at h20; exact ⟨h20, by omega⟩
  · rw [h3, List.length_append] at h20
    refine ⟨by omega, ?_⟩
    have h5 : (Lib.decDigits m).length ≤ 20 := by omega
    rw [Lib.decDigits_length] at h5
    have h6 := Lib.lt_pow_nDigits m
    have h7 : Lib.nDigits m ≤ 19 := by
      rw [Lib.decDigits_length] at h20
      have : 0 < t.length := List.length_pos_iff.2 (by assumption)
      omega
    have h8 : (10 : Nat) ^ Lib.nDigits m ≤ 10 ^ 19 := Nat.pow_le_pow_right (by omega) h7
    have h9 : (10 : Nat) ^ 19 = 10000000000000000000 := by decide
    omega
/-- Is this text empty? -/
def sLeft : Value → Nat
  | .string s => if s.size = 0 then 1 else 0
  | _ => 0
theorem str_none : (str []).toList = [] := by rw [ByteArray.toList_eq]; rfl
theorem str_ne {S : List UInt8} (h : S ≠ []) : ¬ (str S).toList = [] := by
  rw [ByteArray.toList_eq]
  intro e
  exact h (by simpa [str] using e)
theorem str_emp {S : List UInt8} (h : S ≠ []) : (str S).toList.isEmpty = false := by
  cases e : (str S).toList.isEmpty
  · rfl
  · exact absurd (List.isEmpty_iff.1 e) (str_ne h)
set_option maxRecDepth 100000 in
set_option maxHeartbeats 1000000 in
theorem RDigits_pos (U : Nat) (w : World) (hU : U ≤ 9223372036854775807) : Calls Tryd.prog 32 #[.int .i64 (U : Int)] w fun e w' => e = .returned (.string (str (Lib.decDigits U))) ∧ w' = w := by
  have dpos : decide ((U : Int) < 0) = false := decide_eq_false (by omega)
  have dpos' : ¬ (U : Int) < 0 := by omega
  have nil0 := str_none
  have enil : (⟨#[]⟩ : ByteArray) = str [] := rfl
  go_enter Tryd.func32, Tryd.ntmps32
  go_wp2_with fail
  go_loop [3, 4] (fun a s => ∃ (m : Nat) (t : List UInt8), a = .int .u64 m ∧ s = .string (str t) ∧ Hid (Digs U m t)) (fun a s => 2 * (intOf a).toNat + sLeft s)
  case atStart => exact ⟨U, [], rfl, rfl, Lib.hid (.inl ⟨rfl, rfl⟩)⟩
  case round =>
    obtain ⟨m, t, rfl, rfl, hD⟩ := hrel
    obtain ⟨hl1, hl2⟩ := hD.out.len (by omega)
    have hz := str_size t
    by_cases hgo : 0 < m ∨ t = []
    · have hnx := Lib.hid (hD.out.next hgo)
      have hx : m % 10 < 10 := by omega
      have hcc : ∀ W : World, (convert 21 9 (.int .i32 (48 + (m : Int) % 10))).run Tryd.prog W = .ok (.string (str [UInt8.ofNat (48 + m % 10)])) W := fun W => by
        rw [run_convert_int_string W 21 9 .i32 _ (by kernel_rfl) Tryd.underlying9, show (48 : Int) + (m : Int) % 10 = ((48 + m % 10 : Nat) : Int) by omega, encode_ascii _ (by omega)]
      obtain ⟨d, ed⟩ : ∃ d, UInt8.ofNat (48 + m % 10) = d := ⟨_, rfl⟩
      rw [ed] at hcc hnx
      have hz1 : (str [d]).size = 1 := rfl
      have hj : str [d] ++ str t = str (d :: t) := by rw [str_append]; rfl
      have hj := Lib.hid hj
      have hm10 : m / 10 ≤ m := Nat.div_le_self _ _
      clear ed
      by_cases hm : 0 < m
      · have d1 : decide ((0 : Int) < (m : Int)) = true := decide_eq_true (by omega)
        have d1' : decide (0 < m) = true := decide_eq_true hm
        have hq : m / 10 < m := Nat.div_lt_self hm (by omega)
        go_wp2_with fail
        go_round
        case rel => exact ⟨m / 10, d :: t, by go_num, by first | rfl | rw [hj.out], hnx⟩
        case measure =>
          have e1 : sLeft (.string (str (d :: t))) = 0 := by simp [sLeft, str_size]
          simp only [intOf]
          rw [e1]
          omega
      · obtain rfl : m = 0 := by omega
        obtain rfl : t = [] := by rcases hgo with h | h; omega; exact h
        have hcc : ∀ W : World, (convert 21 9 (.int .i32 48)).run Tryd.prog W = .ok (.string (str [d])) W := fun W => by have := hcc W; simpa using this
        go_wp2_with fail
        go_round
        case rel => exact ⟨0, [d], by go_num, by first | rfl | rw [hj.out], hnx⟩
        case measure =>
          have e1 : sLeft (.string (str [d])) = 0 := rfl
          have e2 : sLeft (.string (str [])) = 1 := rfl
          simp only [intOf]
          rw [e1, e2]
          omega
    · obtain rfl : m = 0 := by omega
      have hte : t ≠ [] := fun e => hgo (.inr e)
      have hne := str_ne hte
      have hemp := str_emp hte
      have hend : Hid (Lib.decDigits U = t) := Lib.hid (by
        rcases hD.out with h | h | h
        · exact absurd h.1 hte
        · exact h.2.2
        · omega)
      go_wp2_with fail
      go_ret
      exact ⟨by rw [hend.out]; rfl, rfl⟩
set_option maxRecDepth 100000 in
set_option maxHeartbeats 1000000 in
theorem RDigits_neg (U : Nat) (w : World) (h1 : 1 ≤ U) (hU : U ≤ 9223372036854775808) : Calls Tryd.prog 32 #[.int .i64 (-(U : Int))] w fun e w' => e = .returned (.string (str (45 :: Lib.decDigits U))) ∧ w' = w := by
  have hw1 : IntKind.u64.wrap (-IntKind.u64.wrap (-(U : Int))) = (U : Int) := by rw [IntKind.wrap_u64, IntKind.wrap_u64]; omega
  have hneg : decide (-(U : Int) < 0) = true := decide_eq_true (by omega)
  have hneg' : -(U : Int) < 0 := by omega
  have nil0 := str_none
  have enil : (⟨#[]⟩ : ByteArray) = str [] := rfl
  go_enter Tryd.func32, Tryd.ntmps32
  go_wp2_with fail
  go_loop [3, 4] (fun a s => ∃ (m : Nat) (t : List UInt8), a = .int .u64 m ∧ s = .string (str t) ∧ Hid (Digs U m t)) (fun a s => 2 * (intOf a).toNat + sLeft s)
  case atStart => exact ⟨U, [], rfl, rfl, Lib.hid (.inl ⟨rfl, rfl⟩)⟩
  case round =>
    obtain ⟨m, t, rfl, rfl, hD⟩ := hrel
    obtain ⟨hl1, hl2⟩ := hD.out.len (by omega)
    have hz := str_size t
    by_cases hgo : 0 < m ∨ t = []
    · have hnx := Lib.hid (hD.out.next hgo)
      have hx : m % 10 < 10 := by omega
      have hcc : ∀ W : World, (convert 21 9 (.int .i32 (48 + (m : Int) % 10))).run Tryd.prog W = .ok (.string (str [UInt8.ofNat (48 + m % 10)])) W := fun W => by
        rw [run_convert_int_string W 21 9 .i32 _ (by kernel_rfl) Tryd.underlying9, show (48 : Int) + (m : Int) % 10 = ((48 + m % 10 : Nat) : Int) by omega, encode_ascii _ (by omega)]
      obtain ⟨d, ed⟩ : ∃ d, UInt8.ofNat (48 + m % 10) = d := ⟨_, rfl⟩
      rw [ed] at hcc hnx
      have hz1 : (str [d]).size = 1 := rfl
      have hj : str [d] ++ str t = str (d :: t) := by rw [str_append]; rfl
      have hj := Lib.hid hj
      have hm10 : m / 10 ≤ m := Nat.div_le_self _ _
      clear ed
      by_cases hm : 0 < m
      · have d1 : decide ((0 : Int) < (m : Int)) = true := decide_eq_true (by omega)
        have d1' : decide (0 < m) = true := decide_eq_true hm
        have hq : m / 10 < m := Nat.div_lt_self hm (by omega)
        go_wp2_with fail
        go_round
        case rel => exact ⟨m / 10, d :: t, by go_num, by first | rfl | rw [hj.out], hnx⟩
        case measure =>
          have e1 : sLeft (.string (str (d :: t))) = 0 := by simp [sLeft, str_size]
          simp only [intOf]
          rw [e1]
          omega
      · obtain rfl : m = 0 := by omega
        obtain rfl : t = [] := by rcases hgo with h | h; omega; exact h
        have hcc : ∀ W : World, (convert 21 9 (.int .i32 48)).run Tryd.prog W = .ok (.string (str [d])) W := fun W => by have := hcc W; simpa using this
        go_wp2_with fail
        go_round
        case rel => exact ⟨0, [d], by go_num, by first | rfl | rw [hj.out], hnx⟩
        case measure =>
          have e1 : sLeft (.string (str [d])) = 0 := rfl
          have e2 : sLeft (.string (str [])) = 1 := rfl
          simp only [intOf]
          rw [e1, e2]
          omega
    · obtain rfl : m = 0 := by omega
      have hte : t ≠ [] := fun e => hgo (.inr e)
      have hne := str_ne hte
      have hemp := str_emp hte
      have hend : Hid (Lib.decDigits U = t) := Lib.hid (by
        rcases hD.out with h | h | h
        · exact absurd h.1 hte
        · exact h.2.2
        · omega)
      have hj : Hid (str [45] ++ str t = str (45 :: t)) := Lib.hid (by rw [str_append]; rfl)
      have hz45 : (str [45]).size = 1 := rfl
      go_wp2_with fail
      go_ret
      exact ⟨by rw [hend.out, ← hj.out]; rfl, rfl⟩
theorem RDigits_any (n : Int) (w : World) (n1 : -9223372036854775808 ≤ n) (n2 : n ≤ 9223372036854775807) : Calls Tryd.prog 32 #[.int .i64 n] w fun e w' => e = .returned (.string (str (Lib.itoa n))) ∧ w' = w := by
  by_cases hn : n < 0
  · obtain ⟨u, rfl⟩ : ∃ u : Nat, n = -(u : Int) := ⟨n.natAbs, by omega⟩
    rw [Lib.itoa_neg u (by omega)]
    exact RDigits_neg u w (by omega) (by omega)
  · obtain ⟨u, rfl⟩ : ∃ u : Nat, n = (u : Int) := ⟨n.toNat, by omega⟩
    rw [Lib.itoa_nonneg]
    exact RDigits_pos u w (by omega)
set_option maxRecDepth 100000 in
set_option maxHeartbeats 1000000 in
theorem RText_no (k i n s p q l y : Int) (w : World) (hk : ¬ (1 ≤ k ∧ k ≤ 5)) (hO : (Q.mk k i n s p q l y).Ok) :
    Calls Tryd.prog 11 #[.agg #[.int .i64 k, .int .i64 i, .int .i64 n, .int .i64 s, .int .i64 p, .int .i64 q, .int .i64 l, .int .i64 y]] w fun e w' => e = .returned (.string (str (textQ (Q.mk k i n s p q l y)))) ∧ Below w.heap.size w w' := by
  have hO := Lib.hid hO
  have d1 : (k == 1) = false := by simp; omega
  have d2 : (k == 2) = false := by simp; omega
  have d3 : (k == 3) = false := by simp; omega
  have d4 : (k == 4) = false := by simp; omega
  have d5 : (k == 5) = false := by simp; omega
  have hwl : wordL k = [63] := by unfold wordL; rw [if_neg (by omega), if_neg (by omega), if_neg (by omega), if_neg (by omega), if_neg (by omega)]
  have hT0 : Hid (str [63] = str (textTo (Q.mk k i n s p q l y) 0)) := Lib.hid (by rw [textTo_zero, ← hwl])
  clear hwl
  obtain ⟨w0, ew⟩ : ∃ W, w.alloc (.cells #[.int .i64 k, .int .i64 i, .int .i64 n, .int .i64 s, .int .i64 p, .int .i64 q, .int .i64 l, .int .i64 y] 25) = W := ⟨_, rfl⟩
  obtain ⟨rb, erb⟩ : ∃ rb, w.heap.size = rb := ⟨_, rfl⟩
  have C0 : Hid (w0.heap[rb]? = some (.cells #[.int .i64 k, .int .i64 i, .int .i64 n, .int .i64 s, .int .i64 p, .int .i64 q, .int .i64 l, .int .i64 y] 25 (0, 0))) := Lib.hid (by rw [← ew, ← erb]; exact heap_alloc_new w _)
  have B0 : Hid (Below w.heap.size w w0) := Lib.hid (by rw [← ew]; exact (Below.refl _ w).alloc (Nat.le_refl _) _)
  replace ew := Lib.hid ew
  replace erb := Lib.hid erb
  go_enter Tryd.func11, Tryd.ntmps11
  go_upto_region 1 with (fail)
  rw [ew.out, erb.out]
  obtain ⟨j0, j1, j2, j3, j4, j5, j6, j7⟩ := rep_at C0.out
  go_wp2_with fail
  obtain ⟨w3, ew3⟩ : ∃ W, w0.alloc (.cells #[.int .i64 i, .int .i64 n, .int .i64 s, .int .i64 p, .int .i64 q, .int .i64 l, .int .i64 y] 2) = W := ⟨_, rfl⟩
  obtain ⟨nb, enb⟩ : ∃ nb, w0.heap.size = nb := ⟨_, rfl⟩
  have N3 : Hid (w3.heap[nb]? = some (.cells #[.int .i64 i, .int .i64 n, .int .i64 s, .int .i64 p, .int .i64 q, .int .i64 l, .int .i64 y] 2 (0, 0))) := Lib.hid (by rw [← ew3, ← enb]; exact heap_alloc_new w0 _)
  have B3 : Hid (Below w.heap.size w w3) := Lib.hid (by rw [← ew3]; exact B0.out.alloc B0.out.size _)
  rw [ew3, enb]
  clear ew3 enb C0 B0 j0 j1 j2 j3 j4 j5 j6 j7
  go_loop [3, 34] (fun sv j => ∃ m : Nat, j = .int .i64 m ∧ m ≤ 7 ∧ sv = .string (str (textTo (Q.mk k i n s p q l y) m))) (fun _ j => (7 - intOf j).toNat)
  case atStart => exact ⟨0, rfl, by omega, by rw [← hT0.out]; rfl⟩
  case round =>
    obtain ⟨m, rfl, hm, rfl⟩ := hrel
    by_cases hlt : m < 7
    · have d1 : decide ((m : Int) < 7) = true := decide_eq_true (by omega)
      have d3 : (m : Int) < 7 := by omega
      have hc := num_cell (k := k) N3.out hlt
      have hln := textTo_len hO.out m
      have hnum := numQ_ok hO.out m
      have hil := Lib.itoa_length_le _ hnum.1 hnum.2
      have hnx : Hid (str (textTo (Q.mk k i n s p q l y) m) ++ str [32] ++ str (Lib.itoa (numQ (Q.mk k i n s p q l y) m)) = str (textTo (Q.mk k i n s p q l y) (m + 1))) := Lib.hid (by rw [str_append, str_append, textTo_next])
      obtain ⟨num, enum⟩ : ∃ z, numQ (Q.mk k i n s p q l y) m = z := ⟨_, rfl⟩
      obtain ⟨T, eT⟩ : ∃ T, textTo (Q.mk k i n s p q l y) m = T := ⟨_, rfl⟩
      rw [enum] at hc hnx hnum hil
      rw [eT] at hnx hln ⊢
      have hds := Lib.hid (RDigits_any num w3 hnum.1 hnum.2)
      obtain ⟨ds, eds⟩ : ∃ ds, Lib.itoa num = ds := ⟨_, rfl⟩
      rw [eds] at hds hnx hil
      clear enum eT eds
      have z1 := str_size T
      have z2 : (str [32]).size = 1 := rfl
      have z3 := str_size ds
      have e32 : (⟨#[32]⟩ : ByteArray) = str [32] := rfl
      go_wp2_with fail
      refine hds.out.mono ?_
      rintro e w4 ⟨rfl, rfl⟩
      go_wp2_with fail
      go_round
      case rel => exact ⟨m + 1, by go_num, by omega, by rw [← hnx.out]⟩
      case measure => simp [intOf]; omega
    · obtain rfl : m = 7 := by omega
      go_wp2_with fail
      go_ret
      exact ⟨rfl, B3.out⟩
set_option maxRecDepth 100000 in
set_option maxHeartbeats 1000000 in
theorem RText_1 (i n s p q l y : Int) (w : World) (hO : (Q.mk 1 i n s p q l y).Ok) :
    Calls Tryd.prog 11 #[.agg #[.int .i64 1, .int .i64 i, .int .i64 n, .int .i64 s, .int .i64 p, .int .i64 q, .int .i64 l, .int .i64 y]] w fun e w' => e = .returned (.string (str (textQ (Q.mk 1 i n s p q l y)))) ∧ Below w.heap.size w w' := by
  have hO := Lib.hid hO
  have hwl : wordL 1 = [111, 107] := rfl
  have hT0 : Hid (str [111, 107] = str (textTo (Q.mk 1 i n s p q l y) 0)) := Lib.hid (by rw [textTo_zero, ← hwl])
  clear hwl
  obtain ⟨w0, ew⟩ : ∃ W, w.alloc (.cells #[.int .i64 1, .int .i64 i, .int .i64 n, .int .i64 s, .int .i64 p, .int .i64 q, .int .i64 l, .int .i64 y] 25) = W := ⟨_, rfl⟩
  obtain ⟨rb, erb⟩ : ∃ rb, w.heap.size = rb := ⟨_, rfl⟩
  have C0 : Hid (w0.heap[rb]? = some (.cells #[.int .i64 1, .int .i64 i, .int .i64 n, .int .i64 s, .int .i64 p, .int .i64 q, .int .i64 l, .int .i64 y] 25 (0, 0))) := Lib.hid (by rw [← ew, ← erb]; exact heap_alloc_new w _)
  have B0 : Hid (Below w.heap.size w w0) := Lib.hid (by rw [← ew]; exact (Below.refl _ w).alloc (Nat.le_refl _) _)
  replace ew := Lib.hid ew
  replace erb := Lib.hid erb
  go_enter Tryd.func11, Tryd.ntmps11
  go_upto_region 1 with (fail)
  rw [ew.out, erb.out]
  obtain ⟨j0, j1, j2, j3, j4, j5, j6, j7⟩ := rep_at C0.out
  go_wp2_with fail
  obtain ⟨w3, ew3⟩ : ∃ W, w0.alloc (.cells #[.int .i64 i, .int .i64 n, .int .i64 s, .int .i64 p, .int .i64 q, .int .i64 l, .int .i64 y] 2) = W := ⟨_, rfl⟩
  obtain ⟨nb, enb⟩ : ∃ nb, w0.heap.size = nb := ⟨_, rfl⟩
  have N3 : Hid (w3.heap[nb]? = some (.cells #[.int .i64 i, .int .i64 n, .int .i64 s, .int .i64 p, .int .i64 q, .int .i64 l, .int .i64 y] 2 (0, 0))) := Lib.hid (by rw [← ew3, ← enb]; exact heap_alloc_new w0 _)
  have B3 : Hid (Below w.heap.size w w3) := Lib.hid (by rw [← ew3]; exact B0.out.alloc B0.out.size _)
  rw [ew3, enb]
  clear ew3 enb C0 B0 j0 j1 j2 j3 j4 j5 j6 j7
  go_loop [3, 34] (fun sv j => ∃ m : Nat, j = .int .i64 m ∧ m ≤ 7 ∧ sv = .string (str (textTo (Q.mk 1 i n s p q l y) m))) (fun _ j => (7 - intOf j).toNat)
  case atStart => exact ⟨0, rfl, by omega, by rw [← hT0.out]; rfl⟩
  case round =>
    obtain ⟨m, rfl, hm, rfl⟩ := hrel
    by_cases hlt : m < 7
    · have d1 : decide ((m : Int) < 7) = true := decide_eq_true (by omega)
      have d3 : (m : Int) < 7 := by omega
      have hc := num_cell (k := 1) N3.out hlt
      have hln := textTo_len hO.out m
      have hnum := numQ_ok hO.out m
      have hil := Lib.itoa_length_le _ hnum.1 hnum.2
      have hnx : Hid (str (textTo (Q.mk 1 i n s p q l y) m) ++ str [32] ++ str (Lib.itoa (numQ (Q.mk 1 i n s p q l y) m)) = str (textTo (Q.mk 1 i n s p q l y) (m + 1))) := Lib.hid (by rw [str_append, str_append, textTo_next])
      obtain ⟨num, enum⟩ : ∃ z, numQ (Q.mk 1 i n s p q l y) m = z := ⟨_, rfl⟩
      obtain ⟨T, eT⟩ : ∃ T, textTo (Q.mk 1 i n s p q l y) m = T := ⟨_, rfl⟩
      rw [enum] at hc hnx hnum hil
      rw [eT] at hnx hln ⊢
      have hds := Lib.hid (RDigits_any num w3 hnum.1 hnum.2)
      obtain ⟨ds, eds⟩ : ∃ ds, Lib.itoa num = ds := ⟨_, rfl⟩
      rw [eds] at hds hnx hil
      clear enum eT eds
      have z1 := str_size T
      have z2 : (str [32]).size = 1 := rfl
      have z3 := str_size ds
      have e32 : (⟨#[32]⟩ : ByteArray) = str [32] := rfl
      go_wp2_with fail
      refine hds.out.mono ?_
      rintro e w4 ⟨rfl, rfl⟩
      go_wp2_with fail
      go_round
      case rel => exact ⟨m + 1, by go_num, by omega, by rw [← hnx.out]⟩
      case measure => simp [intOf]; omega
    · obtain rfl : m = 7 := by omega
      go_wp2_with fail
      go_ret
      exact ⟨rfl, B3.out⟩
set_option maxRecDepth 100000 in
set_option maxHeartbeats 1000000 in
theorem RText_2 (i n s p q l y : Int) (w : World) (hO : (Q.mk 2 i n s p q l y).Ok) :
    Calls Tryd.prog 11 #[.agg #[.int .i64 2, .int .i64 i, .int .i64 n, .int .i64 s, .int .i64 p, .int .i64 q, .int .i64 l, .int .i64 y]] w fun e w' => e = .returned (.string (str (textQ (Q.mk 2 i n s p q l y)))) ∧ Below w.heap.size w w' := by
  have hO := Lib.hid hO
  have hwl : wordL 2 = [110, 111] := rfl
  have hT0 : Hid (str [110, 111] = str (textTo (Q.mk 2 i n s p q l y) 0)) := Lib.hid (by rw [textTo_zero, ← hwl])
  clear hwl
  obtain ⟨w0, ew⟩ : ∃ W, w.alloc (.cells #[.int .i64 2, .int .i64 i, .int .i64 n, .int .i64 s, .int .i64 p, .int .i64 q, .int .i64 l, .int .i64 y] 25) = W := ⟨_, rfl⟩
  obtain ⟨rb, erb⟩ : ∃ rb, w.heap.size = rb := ⟨_, rfl⟩
  have C0 : Hid (w0.heap[rb]? = some (.cells #[.int .i64 2, .int .i64 i, .int .i64 n, .int .i64 s, .int .i64 p, .int .i64 q, .int .i64 l, .int .i64 y] 25 (0, 0))) := Lib.hid (by rw [← ew, ← erb]; exact heap_alloc_new w _)
  have B0 : Hid (Below w.heap.size w w0) := Lib.hid (by rw [← ew]; exact (Below.refl _ w).alloc (Nat.le_refl _) _)
  replace ew := Lib.hid ew
  replace erb := Lib.hid erb
  go_enter Tryd.func11, Tryd.ntmps11
  go_upto_region 1 with (fail)
  rw [ew.out, erb.out]
  obtain ⟨j0, j1, j2, j3, j4, j5, j6, j7⟩ := rep_at C0.out
  go_wp2_with fail
  obtain ⟨w3, ew3⟩ : ∃ W, w0.alloc (.cells #[.int .i64 i, .int .i64 n, .int .i64 s, .int .i64 p, .int .i64 q, .int .i64 l, .int .i64 y] 2) = W := ⟨_, rfl⟩
  obtain ⟨nb, enb⟩ : ∃ nb, w0.heap.size = nb := ⟨_, rfl⟩
  have N3 : Hid (w3.heap[nb]? = some (.cells #[.int .i64 i, .int .i64 n, .int .i64 s, .int .i64 p, .int .i64 q, .int .i64 l, .int .i64 y] 2 (0, 0))) := Lib.hid (by rw [← ew3, ← enb]; exact heap_alloc_new w0 _)
  have B3 : Hid (Below w.heap.size w w3) := Lib.hid (by rw [← ew3]; exact B0.out.alloc B0.out.size _)
  rw [ew3, enb]
  clear ew3 enb C0 B0 j0 j1 j2 j3 j4 j5 j6 j7
  go_loop [3, 34] (fun sv j => ∃ m : Nat, j = .int .i64 m ∧ m ≤ 7 ∧ sv = .string (str (textTo (Q.mk 2 i n s p q l y) m))) (fun _ j => (7 - intOf j).toNat)
  case atStart => exact ⟨0, rfl, by omega, by rw [← hT0.out]; rfl⟩
  case round =>
    obtain ⟨m, rfl, hm, rfl⟩ := hrel
    by_cases hlt : m < 7
    · have d1 : decide ((m : Int) < 7) = true := decide_eq_true (by omega)
      have d3 : (m : Int) < 7 := by omega
      have hc := num_cell (k := 2) N3.out hlt
      have hln := textTo_len hO.out m
      have hnum := numQ_ok hO.out m
      have hil := Lib.itoa_length_le _ hnum.1 hnum.2
      have hnx : Hid (str (textTo (Q.mk 2 i n s p q l y) m) ++ str [32] ++ str (Lib.itoa (numQ (Q.mk 2 i n s p q l y) m)) = str (textTo (Q.mk 2 i n s p q l y) (m + 1))) := Lib.hid (by rw [str_append, str_append, textTo_next])
      obtain ⟨num, enum⟩ : ∃ z, numQ (Q.mk 2 i n s p q l y) m = z := ⟨_, rfl⟩
      obtain ⟨T, eT⟩ : ∃ T, textTo (Q.mk 2 i n s p q l y) m = T := ⟨_, rfl⟩
      rw [enum] at hc hnx hnum hil
      rw [eT] at hnx hln ⊢
      have hds := Lib.hid (RDigits_any num w3 hnum.1 hnum.2)
      obtain ⟨ds, eds⟩ : ∃ ds, Lib.itoa num = ds := ⟨_, rfl⟩
      rw [eds] at hds hnx hil
      clear enum eT eds
      have z1 := str_size T
      have z2 : (str [32]).size = 1 := rfl
      have z3 := str_size ds
      have e32 : (⟨#[32]⟩ : ByteArray) = str [32] := rfl
      go_wp2_with fail
      refine hds.out.mono ?_
      rintro e w4 ⟨rfl, rfl⟩
      go_wp2_with fail
      go_round
      case rel => exact ⟨m + 1, by go_num, by omega, by rw [← hnx.out]⟩
      case measure => simp [intOf]; omega
    · obtain rfl : m = 7 := by omega
      go_wp2_with fail
      go_ret
      exact ⟨rfl, B3.out⟩
set_option maxRecDepth 100000 in
set_option maxHeartbeats 1000000 in
theorem RText_3 (i n s p q l y : Int) (w : World) (hO : (Q.mk 3 i n s p q l y).Ok) :
    Calls Tryd.prog 11 #[.agg #[.int .i64 3, .int .i64 i, .int .i64 n, .int .i64 s, .int .i64 p, .int .i64 q, .int .i64 l, .int .i64 y]] w fun e w' => e = .returned (.string (str (textQ (Q.mk 3 i n s p q l y)))) ∧ Below w.heap.size w w' := by
  have hO := Lib.hid hO
  have hwl : wordL 3 = [116, 114, 97, 100, 101] := rfl
  have hT0 : Hid (str [116, 114, 97, 100, 101] = str (textTo (Q.mk 3 i n s p q l y) 0)) := Lib.hid (by rw [textTo_zero, ← hwl])
  clear hwl
  obtain ⟨w0, ew⟩ : ∃ W, w.alloc (.cells #[.int .i64 3, .int .i64 i, .int .i64 n, .int .i64 s, .int .i64 p, .int .i64 q, .int .i64 l, .int .i64 y] 25) = W := ⟨_, rfl⟩
  obtain ⟨rb, erb⟩ : ∃ rb, w.heap.size = rb := ⟨_, rfl⟩
  have C0 : Hid (w0.heap[rb]? = some (.cells #[.int .i64 3, .int .i64 i, .int .i64 n, .int .i64 s, .int .i64 p, .int .i64 q, .int .i64 l, .int .i64 y] 25 (0, 0))) := Lib.hid (by rw [← ew, ← erb]; exact heap_alloc_new w _)
  have B0 : Hid (Below w.heap.size w w0) := Lib.hid (by rw [← ew]; exact (Below.refl _ w).alloc (Nat.le_refl _) _)
  replace ew := Lib.hid ew
  replace erb := Lib.hid erb
  go_enter Tryd.func11, Tryd.ntmps11
  go_upto_region 1 with (fail)
  rw [ew.out, erb.out]
  obtain ⟨j0, j1, j2, j3, j4, j5, j6, j7⟩ := rep_at C0.out
  go_wp2_with fail
  obtain ⟨w3, ew3⟩ : ∃ W, w0.alloc (.cells #[.int .i64 i, .int .i64 n, .int .i64 s, .int .i64 p, .int .i64 q, .int .i64 l, .int .i64 y] 2) = W := ⟨_, rfl⟩
  obtain ⟨nb, enb⟩ : ∃ nb, w0.heap.size = nb := ⟨_, rfl⟩
  have N3 : Hid (w3.heap[nb]? = some (.cells #[.int .i64 i, .int .i64 n, .int .i64 s, .int .i64 p, .int .i64 q, .int .i64 l, .int .i64 y] 2 (0, 0))) := Lib.hid (by rw [← ew3, ← enb]; exact heap_alloc_new w0 _)
  have B3 : Hid (Below w.heap.size w w3) := Lib.hid (by rw [← ew3]; exact B0.out.alloc B0.out.size _)
  rw [ew3, enb]
  clear ew3 enb C0 B0 j0 j1 j2 j3 j4 j5 j6 j7
  go_loop [3, 34] (fun sv j => ∃ m : Nat, j = .int .i64 m ∧ m ≤ 7 ∧ sv = .string (str (textTo (Q.mk 3 i n s p q l y) m))) (fun _ j => (7 - intOf j).toNat)
  case atStart => exact ⟨0, rfl, by omega, by rw [← hT0.out]; rfl⟩
  case round =>
    obtain ⟨m, rfl, hm, rfl⟩ := hrel
    by_cases hlt : m < 7
    · have d1 : decide ((m : Int) < 7) = true := decide_eq_true (by omega)
      have d3 : (m : Int) < 7 := by omega
      have hc := num_cell (k := 3) N3.out hlt
      have hln := textTo_len hO.out m
      have hnum := numQ_ok hO.out m
      have hil := Lib.itoa_length_le _ hnum.1 hnum.2
      have hnx : Hid (str (textTo (Q.mk 3 i n s p q l y) m) ++ str [32] ++ str (Lib.itoa (numQ (Q.mk 3 i n s p q l y) m)) = str (textTo (Q.mk 3 i n s p q l y) (m + 1))) := Lib.hid (by rw [str_append, str_append, textTo_next])
      obtain ⟨num, enum⟩ : ∃ z, numQ (Q.mk 3 i n s p q l y) m = z := ⟨_, rfl⟩
      obtain ⟨T, eT⟩ : ∃ T, textTo (Q.mk 3 i n s p q l y) m = T := ⟨_, rfl⟩
      rw [enum] at hc hnx hnum hil
      rw [eT] at hnx hln ⊢
      have hds := Lib.hid (RDigits_any num w3 hnum.1 hnum.2)
      obtain ⟨ds, eds⟩ : ∃ ds, Lib.itoa num = ds := ⟨_, rfl⟩
      rw [eds] at hds hnx hil
      clear enum eT eds
      have z1 := str_size T
      have z2 : (str [32]).size = 1 := rfl
      have z3 := str_size ds
      have e32 : (⟨#[32]⟩ : ByteArray) = str [32] := rfl
      go_wp2_with fail
      refine hds.out.mono ?_
      rintro e w4 ⟨rfl, rfl⟩
      go_wp2_with fail
      go_round
      case rel => exact ⟨m + 1, by go_num, by omega, by rw [← hnx.out]⟩
      case measure => simp [intOf]; omega
    · obtain rfl : m = 7 := by omega
      go_wp2_with fail
      go_ret
      exact ⟨rfl, B3.out⟩
set_option maxRecDepth 100000 in
set_option maxHeartbeats 1000000 in
theorem RText_4 (i n s p q l y : Int) (w : World) (hO : (Q.mk 4 i n s p q l y).Ok) :
    Calls Tryd.prog 11 #[.agg #[.int .i64 4, .int .i64 i, .int .i64 n, .int .i64 s, .int .i64 p, .int .i64 q, .int .i64 l, .int .i64 y]] w fun e w' => e = .returned (.string (str (textQ (Q.mk 4 i n s p q l y)))) ∧ Below w.heap.size w w' := by
  have hO := Lib.hid hO
  have hwl : wordL 4 = [103, 111, 110, 101] := rfl
  have hT0 : Hid (str [103, 111, 110, 101] = str (textTo (Q.mk 4 i n s p q l y) 0)) := Lib.hid (by rw [textTo_zero, ← hwl])
  clear hwl
  obtain ⟨w0, ew⟩ : ∃ W, w.alloc (.cells #[.int .i64 4, .int .i64 i, .int .i64 n, .int .i64 s, .int .i64 p, .int .i64 q, .int .i64 l, .int .i64 y] 25) = W := ⟨_, rfl⟩
  obtain ⟨rb, erb⟩ : ∃ rb, w.heap.size = rb := ⟨_, rfl⟩
  have C0 : Hid (w0.heap[rb]? = some (.cells #[.int .i64 4, .int .i64 i, .int .i64 n, .int .i64 s, .int .i64 p, .int .i64 q, .int .i64 l, .int .i64 y] 25 (0, 0))) := Lib.hid (by rw [← ew, ← erb]; exact heap_alloc_new w _)
  have B0 : Hid (Below w.heap.size w w0) := Lib.hid (by rw [← ew]; exact (Below.refl _ w).alloc (Nat.le_refl _) _)
  replace ew := Lib.hid ew
  replace erb := Lib.hid erb
  go_enter Tryd.func11, Tryd.ntmps11
  go_upto_region 1 with (fail)
  rw [ew.out, erb.out]
  obtain ⟨j0, j1, j2, j3, j4, j5, j6, j7⟩ := rep_at C0.out
  go_wp2_with fail
  obtain ⟨w3, ew3⟩ : ∃ W, w0.alloc (.cells #[.int .i64 i, .int .i64 n, .int .i64 s, .int .i64 p, .int .i64 q, .int .i64 l, .int .i64 y] 2) = W := ⟨_, rfl⟩
  obtain ⟨nb, enb⟩ : ∃ nb, w0.heap.size = nb := ⟨_, rfl⟩
  have N3 : Hid (w3.heap[nb]? = some (.cells #[.int .i64 i, .int .i64 n, .int .i64 s, .int .i64 p, .int .i64 q, .int .i64 l, .int .i64 y] 2 (0, 0))) := Lib.hid (by rw [← ew3, ← enb]; exact heap_alloc_new w0 _)
  have B3 : Hid (Below w.heap.size w w3) := Lib.hid (by rw [← ew3]; exact B0.out.alloc B0.out.size _)
  rw [ew3, enb]
  clear ew3 enb C0 B0 j0 j1 j2 j3 j4 j5 j6 j7
  go_loop [3, 34] (fun sv j => ∃ m : Nat, j = .int .i64 m ∧ m ≤ 7 ∧ sv = .string (str (textTo (Q.mk 4 i n s p q l y) m))) (fun _ j => (7 - intOf j).toNat)
  case atStart => exact ⟨0, rfl, by omega, by rw [← hT0.out]; rfl⟩
  case round =>
    obtain ⟨m, rfl, hm, rfl⟩ := hrel
    by_cases hlt : m < 7
    · have d1 : decide ((m : Int) < 7) = true := decide_eq_true (by omega)
      have d3 : (m : Int) < 7 := by omega
      have hc := num_cell (k := 4) N3.out hlt
      have hln := textTo_len hO.out m
      have hnum := numQ_ok hO.out m
      have hil := Lib.itoa_length_le _ hnum.1 hnum.2
      have hnx : Hid (str (textTo (Q.mk 4 i n s p q l y) m) ++ str [32] ++ str (Lib.itoa (numQ (Q.mk 4 i n s p q l y) m)) = str (textTo (Q.mk 4 i n s p q l y) (m + 1))) := Lib.hid (by rw [str_append, str_append, textTo_next])
      obtain ⟨num, enum⟩ : ∃ z, numQ (Q.mk 4 i n s p q l y) m = z := ⟨_, rfl⟩
      obtain ⟨T, eT⟩ : ∃ T, textTo (Q.mk 4 i n s p q l y) m = T := ⟨_, rfl⟩
      rw [enum] at hc hnx hnum hil
      rw [eT] at hnx hln ⊢
      have hds := Lib.hid (RDigits_any num w3 hnum.1 hnum.2)
      obtain ⟨ds, eds⟩ : ∃ ds, Lib.itoa num = ds := ⟨_, rfl⟩
      rw [eds] at hds hnx hil
      clear enum eT eds
      have z1 := str_size T
      have z2 : (str [32]).size = 1 := rfl
      have z3 := str_size ds
      have e32 : (⟨#[32]⟩ : ByteArray) = str [32] := rfl
      go_wp2_with fail
      refine hds.out.mono ?_
      rintro e w4 ⟨rfl, rfl⟩
      go_wp2_with fail
      go_round
      case rel => exact ⟨m + 1, by go_num, by omega, by rw [← hnx.out]⟩
      case measure => simp [intOf]; omega
    · obtain rfl : m = 7 := by omega
      go_wp2_with fail
      go_ret
      exact ⟨rfl, B3.out⟩
set_option maxRecDepth 100000 in
set_option maxHeartbeats 1000000 in
theorem RText_5 (i n s p q l y : Int) (w : World) (hO : (Q.mk 5 i n s p q l y).Ok) :
    Calls Tryd.prog 11 #[.agg #[.int .i64 5, .int .i64 i, .int .i64 n, .int .i64 s, .int .i64 p, .int .i64 q, .int .i64 l, .int .i64 y]] w fun e w' => e = .returned (.string (str (textQ (Q.mk 5 i n s p q l y)))) ∧ Below w.heap.size w w' := by
  have hO := Lib.hid hO
  have hwl : wordL 5 = [108, 101, 115, 115] := rfl
  have hT0 : Hid (str [108, 101, 115, 115] = str (textTo (Q.mk 5 i n s p q l y) 0)) := Lib.hid (by rw [textTo_zero, ← hwl])
  clear hwl
  obtain ⟨w0, ew⟩ : ∃ W, w.alloc (.cells #[.int .i64 5, .int .i64 i, .int .i64 n, .int .i64 s, .int .i64 p, .int .i64 q, .int .i64 l, .int .i64 y] 25) = W := ⟨_, rfl⟩
  obtain ⟨rb, erb⟩ : ∃ rb, w.heap.size = rb := ⟨_, rfl⟩
  have C0 : Hid (w0.heap[rb]? = some (.cells #[.int .i64 5, .int .i64 i, .int .i64 n, .int .i64 s, .int .i64 p, .int .i64 q, .int .i64 l, .int .i64 y] 25 (0, 0))) := Lib.hid (by rw [← ew, ← erb]; exact heap_alloc_new w _)
  have B0 : Hid (Below w.heap.size w w0) := Lib.hid (by rw [← ew]; exact (Below.refl _ w).alloc (Nat.le_refl _) _)
  replace ew := Lib.hid ew
  replace erb := Lib.hid erb
  go_enter Tryd.func11, Tryd.ntmps11
  go_upto_region 1 with (fail)
  rw [ew.out, erb.out]
  obtain ⟨j0, j1, j2, j3, j4, j5, j6, j7⟩ := rep_at C0.out
  go_wp2_with fail
  obtain ⟨w3, ew3⟩ : ∃ W, w0.alloc (.cells #[.int .i64 i, .int .i64 n, .int .i64 s, .int .i64 p, .int .i64 q, .int .i64 l, .int .i64 y] 2) = W := ⟨_, rfl⟩
  obtain ⟨nb, enb⟩ : ∃ nb, w0.heap.size = nb := ⟨_, rfl⟩
  have N3 : Hid (w3.heap[nb]? = some (.cells #[.int .i64 i, .int .i64 n, .int .i64 s, .int .i64 p, .int .i64 q, .int .i64 l, .int .i64 y] 2 (0, 0))) := Lib.hid (by rw [← ew3, ← enb]; exact heap_alloc_new w0 _)
  have B3 : Hid (Below w.heap.size w w3) := Lib.hid (by rw [← ew3]; exact B0.out.alloc B0.out.size _)
  rw [ew3, enb]
  clear ew3 enb C0 B0 j0 j1 j2 j3 j4 j5 j6 j7
  go_loop [3, 34] (fun sv j => ∃ m : Nat, j = .int .i64 m ∧ m ≤ 7 ∧ sv = .string (str (textTo (Q.mk 5 i n s p q l y) m))) (fun _ j => (7 - intOf j).toNat)
  case atStart => exact ⟨0, rfl, by omega, by rw [← hT0.out]; rfl⟩
  case round =>
    obtain ⟨m, rfl, hm, rfl⟩ := hrel
    by_cases hlt : m < 7
    · have d1 : decide ((m : Int) < 7) = true := decide_eq_true (by omega)
      have d3 : (m : Int) < 7 := by omega
      have hc := num_cell (k := 5) N3.out hlt
      have hln := textTo_len hO.out m
      have hnum := numQ_ok hO.out m
      have hil := Lib.itoa_length_le _ hnum.1 hnum.2
      have hnx : Hid (str (textTo (Q.mk 5 i n s p q l y) m) ++ str [32] ++ str (Lib.itoa (numQ (Q.mk 5 i n s p q l y) m)) = str (textTo (Q.mk 5 i n s p q l y) (m + 1))) := Lib.hid (by rw [str_append, str_append, textTo_next])
      obtain ⟨num, enum⟩ : ∃ z, numQ (Q.mk 5 i n s p q l y) m = z := ⟨_, rfl⟩
      obtain ⟨T, eT⟩ : ∃ T, textTo (Q.mk 5 i n s p q l y) m = T := ⟨_, rfl⟩
      rw [enum] at hc hnx hnum hil
      rw [eT] at hnx hln ⊢
      have hds := Lib.hid (RDigits_any num w3 hnum.1 hnum.2)
      obtain ⟨ds, eds⟩ : ∃ ds, Lib.itoa num = ds := ⟨_, rfl⟩
      rw [eds] at hds hnx hil
      clear enum eT eds
      have z1 := str_size T
      have z2 : (str [32]).size = 1 := rfl
      have z3 := str_size ds
      have e32 : (⟨#[32]⟩ : ByteArray) = str [32] := rfl
      go_wp2_with fail
      refine hds.out.mono ?_
      rintro e w4 ⟨rfl, rfl⟩
      go_wp2_with fail
      go_round
      case rel => exact ⟨m + 1, by go_num, by omega, by rw [← hnx.out]⟩
      case measure => simp [intOf]; omega
    · obtain rfl : m = 7 := by omega
      go_wp2_with fail
      go_ret
      exact ⟨rfl, B3.out⟩
theorem RText_any (r : Q) (w : World) (hO : r.Ok) : Calls Tryd.prog 11 #[r.val] w fun e w' => e = .returned (.string (str (textQ r))) ∧ Below w.heap.size w w' := by
  obtain ⟨k, i, n, s, p, q, l, y⟩ := r
  by_cases h : 1 ≤ k ∧ k ≤ 5
  · have : k = 1 ∨ k = 2 ∨ k = 3 ∨ k = 4 ∨ k = 5 := by omega
    rcases this with rfl | rfl | rfl | rfl | rfl
    · exact RText_1 i n s p q l y w hO
    · exact RText_2 i n s p q l y w hO
    · exact RText_3 i n s p q l y w hO
    · exact RText_4 i n s p q l y w hO
    · exact RText_5 i n s p q l y w hO
  · exact RText_no k i n s p q l y w h hO
end Go.Proofs.YtjhfgajhmenboaaDoor
