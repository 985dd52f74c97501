/-
  Contracts of the document's arena: at, List, Total, Free.
-/
import Derived.Test.YtcfmnmknbebfnaaLvRef
namespace Go.Proofs.Ytcfmnmknbebfnaa
open Go.RowKit
set_option linter.unusedVariables false
set_option linter.unusedSimpArgs false

theorem cutIn_hit {slot : Int} : ∀ {A C : List En} {e : En}, (∀ x ∈ A, (x.s : Int) ≠ slot) → (e.s : Int) = slot → cutIn slot (A ++ e :: C) = some (A, e, C) := by
  intro A
  induction A with
  | nil => intro C e _ he; show cutIn slot (e :: C) = _; unfold cutIn; rw [if_pos he]
  | cons x A ih =>
    intro C e hA he
    show cutIn slot (x :: (A ++ e :: C)) = _
    unfold cutIn
    rw [if_neg (hA x (by simp)), ih (fun y hy => hA y (by simp [hy])) he]
theorem cutIn_miss {slot : Int} : ∀ {A : List En}, (∀ x ∈ A, (x.s : Int) ≠ slot) → cutIn slot A = none := by
  intro A
  induction A with
  | nil => intro _; rfl
  | cons x A ih =>
    intro hA
    unfold cutIn
    rw [if_neg (hA x (by simp)), ih (fun y hy => hA y (by simp [hy]))]
theorem findQ_end {slot : Int} {Q : List (List En)} {k : Nat} (h : Q.length ≤ k) : findQ slot (Q.drop k) k = none := by rw [List.drop_of_length_le h]; rfl
theorem findQ_step {slot : Int} {Q : List (List En)} {k : Nat} {l : List En} (h : Q[k]? = some l) : findQ slot (Q.drop k) k = match cutIn slot l with | some (A, e, C) => some (k, A, e, C) | none => findQ slot (Q.drop (k + 1)) (k + 1) := by
  obtain ⟨h1, h2⟩ := List.getElem?_eq_some_iff.1 h
  rw [List.drop_eq_getElem_cons h1, h2]; rfl
/-- Where an order stands, as at tells it. -/
def atV : Option (Nat × List En × En × List En) → Value
  | none => .tuple #[.int .i64 0, .int .i64 0, .bool false]
  | some (q, A, _, _) => .tuple #[.int .i64 (q : Int), .int .i64 (A.length : Int), .bool true]
set_option maxRecDepth 100000 in
set_option maxHeartbeats 2000000 in
theorem At_any (c u : Nat) (q : Value) (V : List Value) (U : List Bool) (Q : List (List En)) (slot : Int) (w : World) (hA : Hid (Rr c u q V U Q w)) (hQ : Q.length ≤ 1000000) (hl : Hid (∀ (k : Nat) (l : List En), Q[k]? = some l → l.length ≤ 1000000)) :
    Calls Try.prog 38 #[.pointer (some ⟨c, 0, none⟩), .int .i64 slot] w fun e w' => e = .returned (atV (findQ slot Q 0)) ∧ w = w' := by
  obtain ⟨c0, c1, f0, f1⟩ := hA.out.cells
  have hlen := hA.out.len
  obtain ⟨A0, cap0, eq, h1, h2⟩ := hA.out.slice
  obtain ⟨n, en⟩ : ∃ n, Q.length = n := ⟨_, rfl⟩
  rw [en] at hQ hlen
  rw [hlen] at h1 eq
  rw [eq] at c1
  replace en := Lib.hid en
  replace hlen := Lib.hid hlen
  replace eq := Lib.hid eq
  have E1 : Hid (findQ slot Q 0 = findQ slot (Q.drop 0) 0) := Lib.hid rfl
  obtain ⟨X, eX⟩ : ∃ X, findQ slot Q 0 = X := ⟨_, rfl⟩
  rw [eX] at E1 ⊢
  clear eX
  go_enter Try.func38, Try.ntmps38
  go_wp2_with fail
  go_loop [7] (fun i => ∃ k : Nat, i = .int .i64 k ∧ k ≤ n ∧ Hid (X = findQ slot (Q.drop k) k)) (fun i => (n - intOf i).toNat)
  case atStart => exact ⟨0, rfl, by omega, E1⟩
  case round =>
    clear E1
    obtain ⟨k, rfl, hk, hE⟩ := hrel
    by_cases hlt : k < n
    · have d1 : decide (k < n) = true := decide_eq_true hlt
      obtain ⟨v, hv⟩ : ∃ v, V[k]? = some v := ⟨_, List.getElem?_eq_getElem (by rw [hlen.out]; exact hlt)⟩
      obtain ⟨l, hql, hre⟩ := hA.out.at_row hv
      obtain ⟨g, cap, eq2, g1, g2, g3, m0, -⟩ := hA.out.queue hv
      rw [hlen.out] at eq2 g1
      have e3 := eq.out.symm.trans eq2
      injection e3 with e3 e4 e5
      subst e3; subst e5
      obtain ⟨A1, cap1, ev, hHE, b1, b2, b3⟩ := hre.slice
      have hl1 := hl.out k l hql
      obtain ⟨nl, enl⟩ : ∃ n, l.length = n := ⟨_, rfl⟩
      rw [enl] at ev b1 hl1
      subst ev
      have hst := Lib.hid (findQ_step (slot := slot) hql)
      replace hHE := Lib.hid hHE
      replace enl := Lib.hid enl
      clear hv hql hre eq2 e4 g2 g3 b3
      have E2 : Hid (∀ x ∈ ([] : List En), (x.s : Int) ≠ slot) := Lib.hid (fun x hx => by cases hx)
      have E3 : Hid (l = [] ++ l) := Lib.hid rfl
      go_wp2_with fail
      go_loop [8] (fun i => ∃ (j : Nat) (A C : List En), i = .int .i64 j ∧ Hid (A.length = j) ∧ j ≤ nl ∧ Hid (l = A ++ C) ∧ Hid (∀ x ∈ A, (x.s : Int) ≠ slot)) (fun i => (nl - intOf i).toNat)
      case atStart => exact ⟨0, [], l, rfl, Lib.hid rfl, by omega, E3, E2⟩
      case round =>
        clear E2 E3
        obtain ⟨j, A, C, rfl, hj, hjn, hAC, hne⟩ := hrel
        by_cases hjl : j < nl
        · have d2 : decide (j < nl) = true := decide_eq_true hjl
          cases C with
          | nil => exact absurd enl.out (by rw [hAC.out, List.append_nil, hj.out]; omega)
          | cons e C =>
            have hje : l[j]? = some e := by rw [hAC.out, ← hj.out]; simp
            obtain ⟨b, off, rfl, p0, -, -, -⟩ := hHE.out.2 j e hje
            obtain ⟨es, ees⟩ : ∃ x, e.s = x := ⟨_, rfl⟩
            rw [ees] at p0
            by_cases hs : (es : Int) = slot
            · have hfin : Hid (atV X = .tuple #[.int .i64 (k : Int), .int .i64 (j : Int), .bool true]) := Lib.hid (by
                rw [hE.out, hst.out, hAC.out, cutIn_hit hne.out (by rw [ees]; exact hs)]
                show Value.tuple #[.int .i64 (k : Int), .int .i64 (A.length : Int), .bool true] = _
                rw [hj.out])
              subst hs
              clear hE hst hAC hne hje ees
              go_wp2_with fail
              go_ret3
              exact ⟨by rw [hfin.out]; rfl, rfl⟩
            · have d3 : ((es : Int) == slot) = false := by simpa using hs
              have hne2 : Hid (∀ x ∈ A ++ [e], (x.s : Int) ≠ slot) := Lib.hid (fun x hx => by
                rcases List.mem_append.1 hx with h | h
                · exact hne.out x h
                · rw [List.mem_singleton.1 h, ees]; exact hs)
              have hAC2 : Hid (l = (A ++ [e]) ++ C) := Lib.hid (by rw [hAC.out]; simp)
              have hj2 : Hid ((A ++ [e]).length = j + 1) := Lib.hid (by rw [List.length_append, List.length_singleton, hj.out])
              clear hAC hne hje ees hs hj
              go_wp2_with fail
              go_round
              case rel => exact ⟨j + 1, A ++ [e], C, by go_num, hj2, by omega, hAC2, hne2⟩
              case measure => simp [intOf]; omega
        · obtain rfl : j = nl := by omega
          have d2 : decide (j < j) = false := by simp
          have hC : C = [] := by
            have := enl.out
            rw [hAC.out, List.length_append, hj.out] at this
            exact List.eq_nil_of_length_eq_zero (by omega)
          have hfin : Hid (X = findQ slot (Q.drop (k + 1)) (k + 1)) := Lib.hid (by
            rw [hE.out, hst.out, cutIn_miss (A := l) (by rw [hAC.out, hC, List.append_nil]; exact hne.out)])
          clear hE hst hAC hne hC hj
          go_wp2_with fail
          go_round
          case rel => exact ⟨k + 1, by go_num, by omega, hfin⟩
          case measure => simp [intOf]; omega
    · obtain rfl : k = n := by omega
      have d1 : decide (k < k) = false := by simp
      have hfin : Hid (X = none) := Lib.hid (by rw [hE.out, findQ_end (by rw [en.out]; omega)])
      clear hE
      go_wp2_with fail
      go_ret3
      exact ⟨by rw [hfin.out]; rfl, rfl⟩
theorem count_take' {U : List Bool} {k : Nat} {b : Bool} (h : U[k]? = some b) (x : Bool) : (U.take (k + 1)).count x = (U.take k).count x + if b = x then 1 else 0 := by
  rw [List.take_add_one, h]
  simp [List.count_append, List.count_cons]
theorem St.Ok.short' {st : St} (h : st.Ok) (hU : st.U.length ≤ 4096) : ∀ (k : Nat) (l : List En), st.Q[k]? = some l → l.length ≤ 1000000 := fun k l hl => by have := h.short hl; omega
set_option maxRecDepth 100000 in
set_option maxHeartbeats 2000000 in
theorem RList_any (B c : Nat) (F : Nat → Prop) (st : St) (i : Int) (w : World) (hA0 : Hid (RA B c F st w)) (hQ : st.Q.length ≤ 1000000) :
    Calls Try.prog 28 #[.pointer (some ⟨c, 0, none⟩), .int .i64 i] w fun e w' => (∃ A cap, e = .returned (.slice A (listO st i).length cap) ∧ HE w A (listO st i).length (listO st i) ∧ (listO st i).length ≤ cap ∧ cap ≤ 9223372036854775807) ∧ w = w' := by
  obtain ⟨u, q, V, eF, hA, hO, hB⟩ := hA0.out
  obtain ⟨c0, c1, f0, f1⟩ := hA.cells
  have hlen := hA.len
  obtain ⟨A0, cap0, eq, h1, h2⟩ := hA.slice
  obtain ⟨n, en⟩ : ∃ n, st.Q.length = n := ⟨_, rfl⟩
  rw [en] at hQ hlen
  rw [hlen] at h1 eq
  rw [eq] at c1
  have hnil : HE w none 0 [] := ⟨rfl, fun j e he => by simp at he⟩
  rcases listO_cases st i with ⟨k, l, rfl, hl, e⟩ | ⟨h, e⟩
  · rw [e]
    have hk : k < n := by rw [← en]; exact (List.getElem?_eq_some_iff.1 hl).1
    obtain ⟨v, hv⟩ : ∃ v, V[k]? = some v := ⟨_, List.getElem?_eq_getElem (by rw [hlen]; exact hk)⟩
    obtain ⟨A1, cap1, ev, hHE, b1, b2, b3⟩ := (hA.rows k v l hv hl).slice
    obtain ⟨g, cap, eq2, g1, g2, g3, m0, -⟩ := hA.queue hv
    rw [hlen] at eq2 g1
    have e3 := eq.symm.trans eq2
    injection e3 with e3 e4 e5
    subst e3; subst e5
    have d0 : decide ((k : Int) < 0) = false := decide_eq_false (by omega)
    have d1 : decide (k ≥ n) = false := decide_eq_false (by omega)
    obtain ⟨nl, enl⟩ : ∃ n, l.length = n := ⟨_, rfl⟩
    rw [enl] at ev b1 hHE ⊢
    subst ev
    replace hHE := Lib.hid hHE
    clear hA0 hA hO hB eF hl e enl eq eq2 e4 hlen en hv b3 hnil
    go_enter Try.func28, Try.ntmps28
    go_wp2
    go_ret
    exact ⟨⟨_, _, rfl, hHE.out, b1, b2⟩, rfl⟩
  · rw [e]
    rw [en] at h
    replace hnil := Lib.hid hnil
    clear hA0 hA hO hB eF e eq hlen en
    rcases Int.lt_or_le i 0 with h0 | h0
    · have d0 : decide (i < 0) = true := decide_eq_true h0
      go_enter Try.func28, Try.ntmps28
      go_wp2
      go_ret
      exact ⟨⟨none, 0, rfl, hnil.out, Nat.le_refl _, by omega⟩, rfl⟩
    · obtain ⟨k, rfl⟩ := Int.eq_ofNat_of_zero_le h0
      have d0 : decide ((k : Int) < 0) = false := decide_eq_false (by omega)
      have d1 : decide (k ≥ n) = true := decide_eq_true (by omega)
      have d2 : n ≤ k := by omega
      have d2' : decide (n ≤ k) = true := decide_eq_true d2
      go_enter Try.func28, Try.ntmps28
      go_wp2
      go_ret
      exact ⟨⟨none, 0, rfl, hnil.out, Nat.le_refl _, by omega⟩, rfl⟩
theorem RA.ok {B c : Nat} {F : Nat → Prop} {st : St} {w : World} (h : RA B c F st w) : st.Ok ∧ st.U.length ≤ 4096 := by
  obtain ⟨u, q, V, rfl, hR, hO, hB⟩ := h; exact ⟨hO, hR.room⟩
theorem take_snoc' {l : List En} {k : Nat} {e : En} (h : l[k]? = some e) : l.take (k + 1) = l.take k ++ [e] := by rw [List.take_add_one, h]; rfl
theorem listO_short {st : St} (h : st.Ok) (i : Int) : (listO st i).length ≤ st.U.length := by
  rcases listO_cases st i with ⟨k, l, rfl, hl, e0⟩ | ⟨_, e0⟩
  · rw [e0]; exact h.short hl
  · rw [e0]; simp
set_option maxRecDepth 100000 in
set_option maxHeartbeats 2000000 in
theorem RTotal_any (B c : Nat) (F : Nat → Prop) (st : St) (i : Int) (w : World) (hA0 : Hid (RA B c F st w)) (hQ : st.Q.length ≤ 1000000) :
    Calls Try.prog 29 #[.pointer (some ⟨c, 0, none⟩), .int .i64 i] w fun e w' => e = .returned (.int .i64 (sumN (listO st i))) ∧ w = w' := by
  have HL := Lib.hid (RList_any B c F st i w hA0 hQ)
  obtain ⟨hO, hU⟩ := hA0.out.ok
  have hlen := listO_short hO i
  have hft := Lib.hid (listO_fit hO i)
  obtain ⟨l, el⟩ : ∃ l, listO st i = l := ⟨_, rfl⟩
  rw [el] at HL hlen hft ⊢
  obtain ⟨n, en⟩ : ∃ n, l.length = n := ⟨_, rfl⟩
  rw [en] at HL hlen
  have hn : n ≤ 4096 := by omega
  replace en := Lib.hid en
  have hX : Hid (sumN l = sumN (l.take n)) := Lib.hid (by rw [List.take_of_length_le (by rw [en.out]; omega)])
  have E1 : Hid ((0 : Int) = sumN (l.take 0)) := Lib.hid rfl
  obtain ⟨X, eX⟩ : ∃ X, sumN l = X := ⟨_, rfl⟩
  rw [eX] at hX ⊢
  clear eX el hlen hA0 hO hU
  go_enter Try.func29, Try.ntmps29
  go_wp2_with fail
  refine HL.out.mono ?_
  rintro e w' ⟨⟨A, cap, rfl, hHE, q1, q2⟩, rfl⟩
  replace hHE := Lib.hid hHE
  clear HL
  go_wp2_with fail
  go_loop [5, 7] (fun v i => ∃ (k : Nat) (x : Int), i = .int .i64 k ∧ v = .int .i64 x ∧ k ≤ n ∧ 0 ≤ x ∧ x ≤ 1000000 * k ∧ Hid (x = sumN (l.take k))) (fun _ i => (n - intOf i).toNat)
  case atStart => exact ⟨0, 0, rfl, rfl, by omega, by omega, by omega, E1⟩
  case round =>
    clear E1
    obtain ⟨k, x, rfl, rfl, hk, x1, x2, hx⟩ := hrel
    by_cases hlt : k < n
    · have d1 : decide (k < n) = true := decide_eq_true hlt
      obtain ⟨e, he⟩ : ∃ e, l[k]? = some e := ⟨_, List.getElem?_eq_getElem (by rw [en.out]; exact hlt)⟩
      obtain ⟨b, off, rfl, -, -, p2, -⟩ := hHE.out.2 k e he
      obtain ⟨n1, n2, -⟩ := hft.out e (List.mem_of_getElem? he)
      have hs2 : Hid (x + e.n = sumN (l.take (k + 1))) := Lib.hid (by rw [take_snoc' he, sumN_snoc, hx.out])
      obtain ⟨y, ey⟩ : ∃ y, e.n = y := ⟨_, rfl⟩
      rw [ey] at p2 n1 n2 hs2
      clear he hx ey
      go_wp2_with fail
      go_round
      case rel => exact ⟨k + 1, x + y, by go_num, rfl, by omega, by omega, by omega, hs2⟩
      case measure => simp [intOf]; omega
    · obtain rfl : k = n := by omega
      have d1 : decide (k < k) = false := by simp
      have hfin : Hid (X = x) := Lib.hid (by rw [hX.out, hx.out])
      clear hX hx
      go_wp2_with fail
      go_ret
      exact ⟨by rw [hfin.out]; rfl, rfl⟩
set_option maxRecDepth 100000 in
set_option maxHeartbeats 2000000 in
theorem RFree_any (B c : Nat) (F : Nat → Prop) (st : St) (w : World) (hA0 : Hid (RA B c F st w)) :
    Calls Try.prog 31 #[.pointer (some ⟨c, 0, none⟩)] w fun e w' => e = .returned (.int .i64 (st.U.count false : Nat)) ∧ w = w' := by
  obtain ⟨u, q, V, eF, hA, hO, hB⟩ := hA0.out
  replace hA := Lib.hid hA
  have hr := hA.out.room
  obtain ⟨x0, x1, f0, f1⟩ := hA.out.cells
  obtain ⟨N, eN⟩ : ∃ N, st.U.length = N := ⟨_, rfl⟩
  rw [eN] at hr x0
  have eU : Hid (st.U.length = N) := Lib.hid eN
  have E1 : Hid (((0 : Nat) : Nat) = (st.U.take 0).count false) := Lib.hid (by simp)
  have hX : Hid (st.U.count false = (st.U.take N).count false) := Lib.hid (by rw [List.take_of_length_le (by rw [eU.out]; omega)])
  obtain ⟨X, eX⟩ : ∃ X, st.U.count false = X := ⟨_, rfl⟩
  rw [eX] at hX ⊢
  clear eX eN eF hB hA0
  go_enter Try.func31, Try.ntmps31
  go_wp2_with fail
  go_loop [3, 4] (fun n i => ∃ k f : Nat, i = .int .i64 k ∧ n = .int .i64 f ∧ k ≤ N ∧ f ≤ k ∧ Hid (f = (st.U.take k).count false)) (fun _ i => (N - intOf i).toNat)
  case atStart => exact ⟨0, 0, rfl, rfl, by omega, by omega, E1⟩
  case round =>
    clear E1
    obtain ⟨k, f, rfl, rfl, hk, hfk, hE⟩ := hrel
    by_cases hlt : k < N
    · have d1 : decide (k < N) = true := decide_eq_true hlt
      obtain ⟨b, hb⟩ : ∃ b, st.U[k]? = some b := ⟨_, List.getElem?_eq_getElem (by rw [eU.out]; exact hlt)⟩
      obtain ⟨m0, -⟩ := hA.out.used hb
      have hct := count_take' hb false
      cases b with
      | true =>
        have hE2 : Hid (f = (st.U.take (k + 1)).count false) := Lib.hid (by rw [hct, hE.out]; simp)
        clear hb hE hct
        go_wp2_with fail
        go_round
        case rel => exact ⟨k + 1, f, by go_num, rfl, by omega, by omega, hE2⟩
        case measure => simp [intOf]; omega
      | false =>
        have hE2 : Hid (f + 1 = (st.U.take (k + 1)).count false) := Lib.hid (by rw [hct, hE.out]; simp)
        clear hb hE hct
        go_wp2_with fail
        go_round
        case rel => exact ⟨k + 1, f + 1, by go_num, by go_num, by omega, by omega, hE2⟩
        case measure => simp [intOf]; omega
    · obtain rfl : k = N := by omega
      have d1 : decide (k < k) = false := by simp
      have hE2 : Hid (X = f) := Lib.hid (by rw [hX.out, hE.out])
      clear hE hX
      go_wp2_with fail
      go_ret
      exact ⟨by rw [hE2.out]; rfl, rfl⟩
end Go.Proofs.Ytcfmnmknbebfnaa
