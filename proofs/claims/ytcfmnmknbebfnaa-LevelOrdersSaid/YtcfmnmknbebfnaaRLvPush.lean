/-
  Contract of the document's arena: Push.
-/
import Derived.Test.YtcfmnmknbebfnaaRLvOps
import Derived.Deep.RegionLaw
import Derived.BigRegion
namespace Go.Proofs.Ytcfmnmknbebfnaa
open Go.RowKit
set_option linter.unusedVariables false
set_option linter.unusedSimpArgs false

/-- A queue's slice, appended to and stored. -/
theorem Rr.appended {c u g nq cap g4 cap4 : Nat} {v vk : Value} {V : List Value} {U : List Bool} {Q : List (List En)} {W1 w4 : World} {o : Obj} (h : Rr c u v V U Q W1) (eq : v = .slice (some ⟨g, 0, none⟩) nq cap) (hlen : V.length = nq) {k : Nat} {l l' : List En} {n' : Nat} (hv : V[k]? = some vk) (hl : Q[k]? = some l)
    (hr : w4.ownsRow 0 66 4 (.slice (some ⟨g4, 0, none⟩) n' cap4) n' (rowsN l')) (hn : l'.length = n') (hg : (W1.drew.alloc o).grownBy w4 vk.ownBlock) (h4 : vk.ownBlock = some g4 ∨ g4 = W1.heap.size + 1) :
    Rr c u v (V.set k (.slice (some ⟨g4, 0, none⟩) n' cap4)) U (Q.set k l') (w4.setCell ⟨g, k, none⟩ (.slice (some ⟨g4, 0, none⟩) n' cap4)) ∧ Only (footR c u v V) W1 (w4.setCell ⟨g, k, none⟩ (.slice (some ⟨g4, 0, none⟩) n' cap4)) ∧
    (∀ b, footR c u v (V.set k (.slice (some ⟨g4, 0, none⟩) n' cap4)) b → footR c u v V b ∨ W1.heap.size ≤ b) := by
  subst hlen
  subst hn
  subst eq
  have O1 : Only (fun b => vk.ownBlock = some b) W1 w4 := by
    have x := alloc_only W1 o
    have a : Only (fun _ => False) W1 (W1.drew.alloc o) := ⟨x.os, x.tape, x.output, x.size, x.block⟩
    exact (a.mono (fun _ _ e => e.elim)).step (only_grown hg) (fun i hi e => e.symm)
  have hnew : ∀ b, (Value.slice (some ⟨g4, 0, none⟩) l'.length cap4).ownBlock = some b → vk.ownBlock = some b ∨ W1.heap.size ≤ b := fun b hb => by
    have e : g4 = b := by injection hb
    subst e
    rcases h4 with e | e
    · exact .inl e
    · right; omega
  refine ⟨h.setV hv hl O1 hr hnew, ?_, ?_⟩
  · exact (O1.mono (fun b _ e => .inr (.inr (.inr ⟨k, vk, hv, e⟩)))).trans ((set_only w4 g k _).mono (fun b _ e => .inr (.inr (.inl (by rw [e]; rfl)))))
  · rintro b (e | e | e | ⟨j, x, hx, e⟩)
    · exact .inl (.inl e)
    · exact .inl (.inr (.inl e))
    · exact .inl (.inr (.inr (.inl e)))
    · rcases set_get_or hx with ⟨_, rfl⟩ | ⟨_, hx'⟩
      · rcases hnew b e with e | e
        · exact .inl (.inr (.inr (.inr ⟨k, vk, hv, e⟩)))
        · exact .inr e
      · exact .inl (.inr (.inr (.inr ⟨j, x, hx', e⟩)))
/-- What a call leaves of the document's arena. -/
def RStep (B c : Nat) (F : Nat → Prop) (w : World) (r : Value) (st' : St) (e : Ending) (w' : World) : Prop := ∃ F', e = .returned r ∧ RA B c F' st' w' ∧ Only F w w' ∧ (∀ k, F' k → F k ∨ w.heap.size ≤ k)
theorem info_rentry : (Try.prog.info? 66).map (fun i => (i.zero, i.size, i.bytes)) = some (some (.agg #[.int .i64 0, .int .i64 0, .int .i64 0, .bool false]), 4, 32) := by kernel_rfl
theorem build_rentry (s i n : Int) (t : Bool) : ∀ W : World, (Instr.build 66 #[(0, .int .i64 s), (1, .int .i64 i), (2, .int .i64 n), (3, .bool t)]).run Try.prog W = .ok (.agg #[.int .i64 s, .int .i64 i, .int .i64 n, .bool t]) W := fun W => by kernel_rfl
set_option maxRecDepth 100000 in
set_option maxHeartbeats 4000000 in
theorem RPush_any (B c : Nat) (F : Nat → Prop) (st : St) (q i n : Int) (t : Bool) (w : World) (hA0 : Hid (RA B c F st w)) (hQ : st.Q.length ≤ 1000000) (hi : Hid (I64 i)) (hn : I64 n) :
    Calls Try.prog 25 #[.pointer (some ⟨c, 0, none⟩), .int .i64 q, .int .i64 i, .int .i64 n, .bool t] w (RStep B c F w (.tuple #[.int .i64 (pushO st q i n t).1, .int .i64 (pushO st q i n t).2.1]) (pushO st q i n t).2.2) := by
  obtain ⟨i0, hi0, hz0, hz1, hz2⟩ := info_parts info_rentry
  obtain ⟨u, v, V, eF, hA, hO, hB⟩ := hA0.out
  obtain ⟨c0, c1, f0, f1⟩ := hA.cells
  have hlen := hA.len
  obtain ⟨A0, cap0, eq, h1, h2⟩ := hA.slice
  obtain ⟨nq, enq⟩ : ∃ n, st.Q.length = n := ⟨_, rfl⟩
  rw [enq] at hQ hlen
  rw [hlen] at h1 eq
  rw [eq] at c1
  replace hA := Lib.hid hA
  replace enq := Lib.hid enq
  replace hlen := Lib.hid hlen
  replace eq := Lib.hid eq
  replace eF := Lib.hid eF
  have hr := hA.out.room
  obtain ⟨N, eN⟩ : ∃ N, st.U.length = N := ⟨_, rfl⟩
  rw [eN] at c0 hr
  replace eN := Lib.hid eN
  have hself : Hid (Only F w w) := Lib.hid (Only.refl _ _)
  by_cases k1 : 0 ≤ q ∧ q < (nq : Int)
  · obtain ⟨k, rfl⟩ := Int.eq_ofNat_of_zero_le k1.1
    have hk : k < nq := by omega
    have d0 : decide ((k : Int) < 0) = false := decide_eq_false (by omega)
    have d1 : decide (k ≥ nq) = false := decide_eq_false (by omega)
    have d1' : ¬ nq ≤ k := by omega
    clear k1
    by_cases c2 : n < 1 ∨ 1000000 < n
    · have eP : pushO st (k : Int) i n t = (0, 24, st) := by unfold pushO; rw [enq.out, if_neg (by omega), if_pos c2]
      rw [eP]
      clear eP hA hB eF
      rcases c2 with c2 | c2
      · have d2 : decide (n < 1) = true := decide_eq_true c2
        go_enter Try.func25, Try.ntmps25
        go_wp2_with fail
        go_ret2
        exact ⟨F, rfl, hA0.out, hself.out, fun k h => .inl h⟩
      · have d2 : decide (n < 1) = false := decide_eq_false (by omega)
        have d2' : ¬ n < 1 := by omega
        go_enter Try.func25, Try.ntmps25
        go_wp2_with fail
        go_ret2
        exact ⟨F, rfl, hA0.out, hself.out, fun k h => .inl h⟩
    · have d2 : decide (n < 1) = false := decide_eq_false (by omega)
      have d2' : ¬ n < 1 := by omega
      have d3 : ¬ 1000000 < n := by omega
      have E1 : Hid (lowF st.U 0 = lowF (st.U.drop 0) 0) := Lib.hid rfl
      have eP : pushO st (k : Int) i n t = if lowF st.U 0 = -1 then (0, 13, st) else (lowF st.U 0, 0, st.pushed k (lowF st.U 0).toNat (st.Q.getD k []) ⟨(lowF st.U 0).toNat, i, n, t⟩) := by unfold pushO; rw [enq.out, if_neg (by omega), if_neg c2, Int.toNat_natCast]
      obtain ⟨P, ePP⟩ : ∃ P, pushO st (k : Int) i n t = P := ⟨_, rfl⟩
      rw [ePP] at eP ⊢
      replace eP := Lib.hid eP
      clear ePP
      go_enter Try.func25, Try.ntmps25
      go_wp2_with fail
      go_loop [12] (fun x => ∃ j : Nat, x = .int .i64 j ∧ j ≤ N ∧ Hid (lowF st.U 0 = lowF (st.U.drop j) j)) (fun x => (N - intOf x).toNat)
      case atStart => exact ⟨0, rfl, by omega, E1⟩
      case round =>
        clear E1
        obtain ⟨j, rfl, hj, hE⟩ := hrel
        by_cases hlt : j < N
        · have d4 : decide (j < N) = true := decide_eq_true hlt
          obtain ⟨b, hb⟩ : ∃ b, st.U[j]? = some b := ⟨_, List.getElem?_eq_getElem (by rw [eN.out]; exact hlt)⟩
          obtain ⟨m0, m1⟩ := hA.out.used hb
          cases b with
          | true =>
            have hE2 : Hid (lowF st.U 0 = lowF (st.U.drop (j + 1)) (j + 1)) := Lib.hid (by rw [hE.out, lowF_used hb])
            clear hb hE
            go_wp2_with fail
            go_round
            case rel => exact ⟨j + 1, by go_num, by omega, hE2⟩
            case measure => simp [intOf]; omega
          | false =>
            have e1 : lowF st.U 0 = (j : Int) := by rw [hE.out, lowF_free hb]
            obtain ⟨l, hl⟩ : ∃ l, st.Q[k]? = some l := ⟨_, List.getElem?_eq_getElem (by rw [enq.out]; exact hk)⟩
            have eP2 : Hid (P = ((j : Int), 0, st.pushed k j l ⟨j, i, n, t⟩)) := Lib.hid (by rw [eP.out, e1, if_neg (by omega), Int.toNat_natCast]; rw [show st.Q.getD k [] = l by simp [List.getD, hl]])
            have hok := hO.pushed (e := ⟨j, i, n, t⟩) hl hb (by show 1 ≤ n; omega) (by show n ≤ 1000000; omega) hi.out
            replace hok := Lib.hid hok
            go_upto_region 10 with (fail)
            obtain ⟨W1, eW⟩ : ∃ W, w.setCell ⟨u, j, none⟩ (.bool true) = W := ⟨_, rfl⟩
            rw [eW]
            have A1 : Hid (Rr c u v V (st.U.set j true) st.Q W1) := Lib.hid (by rw [← eW]; exact hA.out.setU hb)
            have O1 : Hid (Only F w W1) := Lib.hid (by rw [← eW, eF.out]; exact (set_only w u j _).mono (fun k _ e => .inr (.inl e)))
            clear eW c0 c1 f0 f1 m0 m1
            obtain ⟨vk, hv⟩ : ∃ v, V[k]? = some v := ⟨_, List.getElem?_eq_getElem (by rw [hlen.out]; exact hk)⟩
            have hre := A1.out.rows k vk l hv hl
            obtain ⟨g, cap, eq2, g1, g2, g3, m0, y0⟩ := A1.out.queue hv
            rw [hlen.out] at eq2 g1
            have e3 := eq.out.symm.trans eq2
            injection e3 with e3 e4 e5
            subst e3; subst e5
            obtain ⟨c0, c1, f0, f1⟩ := A1.out.cells
            rw [eq2] at c1
            clear c0 eq2 e4 e1
            have hnl : l.length ≤ 4096 := by have h1 := hO.short hl; rw [eN.out] at h1; omega
            obtain ⟨nl, enl⟩ : ∃ n, l.length = n := ⟨_, rfl⟩
            rw [enl] at hnl
            have R1 : W1.ownsRow 0 66 4 vk nl (rowsN l) := by rw [← enl]; exact hre
            have R2 : Hid ((W1.alloc (.cells #[.int .i64 (j : Int), .int .i64 i, .int .i64 n, .bool t] 66)).ownsRow 0 66 4 vk nl (rowsN l)) := Lib.hid (R1.alloc _)
            obtain ⟨v1, v2, v3⟩ := A1.out.vc k vk hv c |> fun h => (show (vk.ownBlock ≠ some c ∧ True ∧ True) from ⟨fun e => (h e).1 rfl, trivial, trivial⟩)
            have hgc : Hid (c < W1.heap.size) := Lib.hid (A1.out.lt (.inl rfl))
            have vg : Hid (vk.ownBlock ≠ some g) := Lib.hid (fun e => (A1.out.vc k vk hv g e).2.2 (by rw [eq.out]; rfl))
            replace v1 := Lib.hid v1
            replace enl := Lib.hid enl
            replace hre := Lib.hid hre
            replace hv := Lib.hid hv
            replace hl := Lib.hid hl
            replace hb := Lib.hid hb
            have hbe := build_rentry (j : Int) i n t
            have z0 : (fun W : World => W.cell? ⟨c, 1, none⟩ = some (.slice (some ⟨g, 0, none⟩) nq cap0)) W1.drew := c1
            simp only at z0
            clear R1 v2 v3 hE
            have hgt : Hid (g < W1.heap.size) := Lib.hid (A1.out.lt (.inr (.inr (.inl (by rw [eq.out]; rfl)))))
            have zA : (fun W : World => W.cell? ⟨c, 1, none⟩ = some (.slice (some ⟨g, 0, none⟩) nq cap0)) (W1.drew.alloc (.cells #[.int .i64 (j : Int), .int .i64 i, .int .i64 n, .bool t] 66)) := (World.cell?_alloc_lt _ _ _ hgc.out).trans z0
            have zB : ∀ {w4 : World}, ((W1.drew.alloc (.cells #[.int .i64 (j : Int), .int .i64 i, .int .i64 n, .bool t] 66)).grownBy w4 vk.ownBlock) → (fun W : World => W.cell? ⟨c, 1, none⟩ = some (.slice (some ⟨g, 0, none⟩) nq cap0)) w4 := fun {w4} h => h.cell (a := ⟨c, 1, none⟩) zA (fun e => v1.out e.symm)
            have zC : ∀ {w4 : World} {x : Value}, ((W1.drew.alloc (.cells #[.int .i64 (j : Int), .int .i64 i, .int .i64 n, .bool t] 66)).grownBy w4 vk.ownBlock) → (fun W : World => W.cell? ⟨c, 1, none⟩ = some (.slice (some ⟨g, 0, none⟩) nq cap0)) (w4.setCell ⟨g, k, none⟩ x) := fun {w4 x} h => (World.cell?_setCell_far w4 ⟨g, k, none⟩ ⟨c, 1, none⟩ x g2).trans (zB h)
            have mA : (W1.drew.alloc (.cells #[.int .i64 (j : Int), .int .i64 i, .int .i64 n, .bool t] 66)).heap[g]? = W1.heap[g]? := heap_alloc_old W1.drew _ _ hgt.out
            have zD : ∀ {w4 : World}, ((W1.drew.alloc (.cells #[.int .i64 (j : Int), .int .i64 i, .int .i64 n, .bool t] 66)).grownBy w4 vk.ownBlock) → (w4.cell? ⟨g, k, none⟩ = some vk ∧ w4.frozen? ⟨g, k, none⟩ = false ∧ w4.cell? ⟨c, 1, none⟩ = some (.slice (some ⟨g, 0, none⟩) nq cap0)) := fun {w4} h => by
              have e := (h.block g (by rw [World.size_alloc]; have := hgt.out; show g < W1.drew.heap.size + 1; exact Nat.lt_succ_of_lt this) (fun e => vg.out e.symm)).trans mA
              exact ⟨(World.cell?_of_block (a := ⟨g, k, none⟩) e).trans m0, (World.frozen?_of_block (a := ⟨g, k, none⟩) e).trans y0, zB h⟩
            simp only at zA zB zC
            have zE : (W1.drew.alloc (.cells #[.int .i64 (j : Int), .int .i64 i, .int .i64 n, .bool t] 66)).cell? ⟨g, k, none⟩ = some vk := (World.cell?_of_block (a := ⟨g, k, none⟩) mA).trans m0
            have zE2 : ({ heap := W1.drew.heap.push (.cells #[.int .i64 (j : Int), .int .i64 i, .int .i64 n, .bool t] 66), tape := W1.tape, drawn := W1.drawn + 1, os := W1.drew.os, output := W1.drew.output } : World).cell? ⟨g, k, none⟩ = some vk := zE
            have zA2 : ({ heap := W1.drew.heap.push (.cells #[.int .i64 (j : Int), .int .i64 i, .int .i64 n, .bool t] 66), tape := W1.tape, drawn := W1.drawn + 1, os := W1.drew.os, output := W1.drew.output } : World).cell? ⟨c, 1, none⟩ = some (.slice (some ⟨g, 0, none⟩) nq cap0) := zA
            have m0' : W1.drew.cell? ⟨g, k, none⟩ = some vk := m0
            replace mA := Lib.hid mA
            clear zB zC
            go_region_law ((refine step_append_lies _ (by rfl) (.tmp 64) (.tmp 70) 64 (by rfl) 0 66 i0 (.agg #[.int .i64 0, .int .i64 0, .int .i64 0, .bool false]) 4 32 Try.underlying64 hi0 hz0 hz1 hz2 rfl (by decide) vk nl _ (by rfl) R2.out ⟨W1.heap.size, 0, none⟩ 1 1 [.int .i64 (j : Int), .int .i64 i, .int .i64 n, .bool t] (by rfl) (by rfl) (World.news_of_block (heap_alloc_new W1 _)) (row_one_cell ⟨j, i, n, t⟩) (by omega) (by unfold maxLen; omega) (by omega) (Nat.zero_le _) (W1.heap.size + 1) (by simp) ?_; intro g4 cap4 w4 r4 g4' h4 l4; obtain ⟨m4, y4, q4⟩ := zD g4'))
            all_goals
              obtain ⟨f1, f2, f3⟩ := A1.out.appended (l' := l ++ [⟨j, i, n, t⟩]) (n' := nl + 1) eq.out hlen.out hv.out hl.out (by rw [rowsN_app, rowsN_one]; exact r4) (by rw [List.length_append, enl.out]; rfl) g4' h4
              replace f1 := Lib.hid f1
              replace f2 := Lib.hid (O1.out.trans (by rw [eF.out]; exact f2))
              replace f3 := Lib.hid f3
              clear zA zA2 zE zE2 zD z0 m0 m0' y0 c1 f0 hbe mA r4 g4' h4 l4 m4 y4 q4
              go_wp2_with fail
              go_ret2
              (try rw [eP2.out])
              refine ⟨_, rfl, ⟨u, v, _, rfl, f1.out, hok.out, ?_⟩, f2.out, ?_⟩
              · intro b hb
                rcases f3.out b hb with e | e
                · exact hB b (by rw [eF.out]; exact e)
                · have := hB c (by rw [eF.out]; exact .inl rfl)
                  have := hgc.out
                  omega
              · intro b hb
                rcases f3.out b hb with e | e
                · exact .inl (by rw [eF.out]; exact e)
                · have := O1.out.size; exact .inr (by omega)
        · obtain rfl : j = N := by omega
          have d4 : decide (j < j) = false := by simp
          have e1 : lowF st.U 0 = -1 := by rw [hE.out, lowF_end (by rw [eN.out]; omega)]
          have eP2 : Hid (P = (0, 13, st)) := Lib.hid (by rw [eP.out, if_pos e1])
          clear hE eP e1
          go_wp2_with fail
          go_ret2
          (try rw [eP2.out])
          exact ⟨F, rfl, hA0.out, hself.out, fun k h => .inl h⟩
  · have eP : pushO st q i n t = (0, 26, st) := by unfold pushO; rw [enq.out, if_pos k1]
    rw [eP]
    clear eP hA hB eF
    rcases Int.lt_or_le q 0 with h0 | h0
    · have d0 : decide (q < 0) = true := decide_eq_true h0
      go_enter Try.func25, Try.ntmps25
      go_wp2_with fail
      go_ret2
      exact ⟨F, rfl, hA0.out, hself.out, fun k h => .inl h⟩
    · obtain ⟨k, rfl⟩ := Int.eq_ofNat_of_zero_le h0
      have d0 : decide ((k : Int) < 0) = false := decide_eq_false (by omega)
      have d1 : decide (k ≥ nq) = true := decide_eq_true (by omega)
      have d2 : nq ≤ k := by omega
      have d2' : decide (nq ≤ k) = true := decide_eq_true d2
      go_enter Try.func25, Try.ntmps25
      go_wp2_with fail
      go_ret2
      exact ⟨F, rfl, hA0.out, hself.out, fun k h => .inl h⟩
end Go.Proofs.Ytcfmnmknbebfnaa
