/-
  Contracts: Push, Take, Top, of level.
-/
import Derived.Test.YtlknlicokacoiaaLvAct
namespace Go.Proofs.Ytlknlicokacoiaa
open Go.RowKit
set_option linter.unusedVariables false
set_option linter.unusedSimpArgs false

theorem slot_in {n m : Nat} (h : m < n) : Slot n (m : Int) := .inr ⟨m, h, rfl⟩
theorem slot_no (n : Nat) : Slot n (-1) := .inl rfl
theorem getD_at {α : Type} {l : List α} {i : Nat} {x d : α} (h : l[i]? = some x) : l.getD i d = x := by simp [List.getD, h]
set_option maxRecDepth 100000 in
set_option maxHeartbeats 2000000 in
theorem Push_any (B c : Nat) (F : Nat → Prop) (st : St) (q i n : Int) (t : Bool) (w : World) (hA0 : Hid (AR B c F st w)) (hQ : st.Q.length ≤ 1000000) (hi : Hid (I64 i)) (hn : I64 n) :
    Calls Try.prog 40 #[.pointer (some ⟨c, 0, none⟩), .int .i64 q, .int .i64 i, .int .i64 n, .bool t] w fun e w' => e = .returned (.tuple #[.int .i64 (pushO st q i n t).1, .int .i64 (pushO st q i n t).2.1]) ∧ AR B c F (pushO st q i n t).2.2 w' ∧ Only F w w' := by
  obtain ⟨s, v, L, E, eF, hA, hI, hB⟩ := hA0.out
  replace hA := Lib.hid hA
  replace hI := Lib.hid hI
  have hEl : E.length ≤ 9223372036854775807 := by rw [hI.out.elen]; omega
  have HQ := Lib.hid (IsQ_any c s v L E q w hA hEl)
  have hself : Hid (Only F w w) := Lib.hid (Only.refl _ _)
  by_cases c1 : 0 ≤ q ∧ q < (st.Q.length : Int)
  · obtain ⟨k, rfl⟩ := Int.eq_ofNat_of_zero_le c1.1
    have hk : k < E.length := by rw [hI.out.elen]; omega
    rw [isQ_yes hk] at HQ
    by_cases c2 : n < 1 ∨ 1000000 < n
    · have eP : pushO st (k : Int) i n t = (0, 24, st) := by unfold pushO; rw [if_neg (by omega), if_pos c2]
      rw [eP]
      clear eP hk c1 hEl hA hI hB eF
      rcases c2 with c2 | c2
      · have d1 : decide (n < 1) = true := decide_eq_true c2
        go_enter Try.func40, Try.ntmps40
        go_wp2_with fail
        refine HQ.out.mono ?_
        rintro e w' ⟨rfl, rfl⟩
        go_wp2_with fail
        go_ret2
        exact ⟨rfl, hA0.out, hself.out⟩
      · have d1 : decide (n < 1) = false := decide_eq_false (by omega)
        have d1' : ¬ n < 1 := by omega
        go_enter Try.func40, Try.ntmps40
        go_wp2_with fail
        refine HQ.out.mono ?_
        rintro e w' ⟨rfl, rfl⟩
        go_wp2_with fail
        go_ret2
        exact ⟨rfl, hA0.out, hself.out⟩
    · have d1 : decide (n < 1) = false := decide_eq_false (by omega)
      have d1' : ¬ n < 1 := by omega
      have d2 : ¬ 1000000 < n := by omega
      have HL := Lib.hid (Lowest_any c s v L E st w hA hI)
      rcases lowF_cases st.U 0 with ⟨e1, -⟩ | ⟨m, e1, hm, -⟩
      · have eP : pushO st (k : Int) i n t = (0, 13, st) := by unfold pushO; rw [if_neg (by omega), if_neg c2, if_pos e1]
        rw [eP]
        rw [e1] at HL
        clear eP hk c1 hEl hA hI hB eF c2
        go_enter Try.func40, Try.ntmps40
        go_wp2_with fail
        refine HQ.out.mono ?_
        rintro e w' ⟨rfl, rfl⟩
        go_wp2_with fail
        refine HL.out.mono ?_
        rintro e w' ⟨rfl, rfl⟩
        go_wp2_with fail
        go_ret2
        exact ⟨rfl, hA0.out, hself.out⟩
      · rw [Nat.zero_add] at e1
        obtain ⟨l, hl⟩ : ∃ l, st.Q[k]? = some l := ⟨_, List.getElem?_eq_getElem (by omega)⟩
        have eP : pushO st (k : Int) i n t = ((m : Int), 0, st.pushed k m l ⟨m, i, n, t⟩) := by
          unfold pushO
          rw [if_neg (by omega), if_neg c2, if_neg (by omega), e1, Int.toNat_natCast, Int.toNat_natCast, getD_at hl]
        rw [eP]
        rw [e1] at HL
        have hI2 := Lib.hid (hI.out.pushed (e := ⟨m, i, n, t⟩) hl hm (by show 1 ≤ n; omega) (by show n ≤ 1000000; omega) hi.out)
        have hseg := (hI.out.seg k l hl).1
        have hmL : m < L.length := by rw [hI.out.len]; exact (List.getElem?_eq_some_iff.1 hm).1
        have hfr := hI.out.free m hm
        have hls := slot_ls hI.out.ok hl (A := l) (fun x hx => hx)
        rw [← hI.out.len] at hls
        obtain ⟨b, eb⟩ : ∃ b, lsS l (-1) = b := ⟨_, rfl⟩
        rw [eb] at hI2 hseg hls
        obtain ⟨a0, ea0⟩ : ∃ b, hdS l (-1) = b := ⟨_, rfl⟩
        rw [ea0] at hseg
        clear eP eb ea0 e1
        subst eF
        obtain ⟨x0, x1, f0, f1⟩ := hA.out.cells
        obtain ⟨⟨p0, p1, p2, p3, p4, p5, p6⟩, ⟨y0, y1, y2, y3, y4, y5, y6⟩⟩ := hA.out.seven hfr
        have hr := hA.out.room
        obtain ⟨N, eN⟩ : ∃ N, L.length = N := ⟨_, rfl⟩
        rw [eN] at x0 hr hmL hls
        replace eN := Lib.hid eN
        have dm : ((m : Int) == -1) = false := by simp
        have hbz := build_place (m : Int) i n (k : Int) t
        have hbe := build_entry (m : Int) i n t
        replace hfr := Lib.hid hfr
        replace hseg := Lib.hid hseg
        replace hls := Lib.hid hls
        replace hB := Lib.hid hB
        replace hl := Lib.hid hl
        replace hm := Lib.hid hm
        go_enter Try.func40, Try.ntmps40
        go_wp2_with fail
        refine HQ.out.mono ?_
        rintro e w' ⟨rfl, rfl⟩
        go_wp2_with fail
        refine HL.out.mono ?_
        rintro e w' ⟨rfl, rfl⟩
        clear HQ HL
        go_upto_region 9 with (fail)
        obtain ⟨W1, eW⟩ : ∃ W, (((((((w.setCell ⟨s, m * 7, none⟩ (.int .i64 (m : Int))).setCell ⟨s, m * 7 + 1, none⟩ (.int .i64 i)).setCell ⟨s, m * 7 + 2, none⟩ (.int .i64 n)).setCell ⟨s, m * 7 + 3, none⟩ (.bool t)).setCell ⟨s, m * 7 + 4, none⟩ (.int .i64 (k : Int))).setCell ⟨s, m * 7 + 5, none⟩ (.int .i64 0)).setCell ⟨s, m * 7 + 6, none⟩ (.int .i64 0)) = W := ⟨_, rfl⟩
        rw [eW]
        have A1 : Hid (Ar c s v (L.set m (newP k ⟨m, i, n, t⟩)) E W1) := Lib.hid (by rw [← eW]; exact hA.out.put hfr.out (newP k ⟨m, i, n, t⟩))
        have O1 : Hid (Only (foot c s v) w W1) := Lib.hid (by rw [← eW]; exact put_only (.inr (.inl rfl)) _ _ _ _ _ _ _ _ _ _ _ _ _ _)
        clear eW p0 p1 p2 p3 p4 p5 p6 y0 y1 y2 y3 y4 y5 y6 x0 x1 f0 f1 hbz hbe hA
        obtain ⟨x0, x1, f0, f1⟩ := A1.out.cells
        rw [List.length_set, eN.out] at x0
        obtain ⟨g, cap, ev, h1, g1, g2, k0, k1, -, -⟩ := A1.out.ends hseg.out
        obtain ⟨nE, enE⟩ : ∃ n, E.length = n := ⟨_, rfl⟩
        rw [ev, enE] at x1
        rw [enE] at h1
        replace ev := Lib.hid ev
        have hk' : Hid (k < E.length) := Lib.hid hk
        rw [enE] at hk
        have hE' : Hid (E.length ≤ 9223372036854775807) := Lib.hid hEl
        rw [enE] at hEl
        replace enE := Lib.hid enE
        go_wp2_with fail
        refine (Link_any c s v _ E k b (m : Int) W1 A1 hE'.out hk'.out (Lib.hid (by rw [List.length_set, eN.out]; exact hls.out)) (Lib.hid (by rw [List.length_set, eN.out]; exact slot_in hmL))).mono ?_
        rintro e W2 ⟨rfl, A2, O2⟩
        replace A2 := Lib.hid A2
        replace O2 := Lib.hid (O1.out.trans O2)
        clear x0 x1 f0 f1 k0 k1 A1 O1
        go_wp2_with fail
        refine (Link_any c s v _ _ k (m : Int) (-1) W2 A2 (by rw [linkE_len]; exact hE'.out) (by rw [linkE_len]; exact hk'.out) (Lib.hid (by rw [linkL_len, List.length_set, eN.out]; exact slot_in hmL)) (Lib.hid (slot_no _))).mono ?_
        rintro e W3 ⟨rfl, A3, O3⟩
        replace A3 := Lib.hid A3
        replace O3 := Lib.hid (O2.out.trans O3)
        clear A2 O2
        go_wp2_with fail
        go_ret2
        exact ⟨rfl, ⟨s, v, _, _, rfl, A3.out, hI2.out, hB.out⟩, O3.out⟩
  · have eP : pushO st q i n t = (0, 26, st) := by unfold pushO; rw [if_pos c1]
    rw [eP]
    rw [isQ_no (by rw [hI.out.elen]; exact c1)] at HQ
    clear eP c1 hEl hA hI hB eF
    go_enter Try.func40, Try.ntmps40
    go_wp2_with fail
    refine HQ.out.mono ?_
    rintro e w' ⟨rfl, rfl⟩
    go_wp2_with fail
    go_ret2
    exact ⟨rfl, hA0.out, hself.out⟩
end Go.Proofs.Ytlknlicokacoiaa
