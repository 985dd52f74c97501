/-
  Contract of the document's arena: Take.
-/
import Derived.Test.YtcfmnmknbebfnaaRLvPush
import Derived.Test.YtcfmnmknbebfnaaLvOnto
namespace Go.Proofs.Ytcfmnmknbebfnaa
open Go.RowKit
set_option linter.unusedVariables false
set_option linter.unusedSimpArgs false

/-- A queue's slice made anew and stored. -/
theorem Rr.replaced {c u g nq cap : Nat} {v vk v6 : Value} {V : List Value} {U : List Bool} {Q : List (List En)} {W1 w6 : World} (h : Rr c u v V U Q W1) (eq : v = .slice (some ⟨g, 0, none⟩) nq cap) (hlen : V.length = nq) {k : Nat} {l l' : List En} (hv : V[k]? = some vk) (hl : Q[k]? = some l)
    (D : Below W1.heap.size W1 w6) (hr : RE 66 w6 0 v6 l') (hb : ∀ q, v6.ownBlock = some q → W1.heap.size ≤ q) :
    Rr c u v (V.set k v6) U (Q.set k l') (w6.setCell ⟨g, k, none⟩ v6) ∧ Only (footR c u v V) W1 (w6.setCell ⟨g, k, none⟩ v6) ∧ (∀ b, footR c u v (V.set k v6) b → footR c u v V b ∨ W1.heap.size ≤ b) := by
  subst hlen
  subst eq
  have O1 : Only (fun b => vk.ownBlock = some b) W1 w6 := (only_below D).mono (fun _ _ e => e.elim)
  refine ⟨h.setV hv hl O1 hr (fun b e => .inr (hb b e)), ?_, ?_⟩
  · exact (O1.mono (fun b _ e => .inr (.inr (.inr ⟨k, vk, hv, e⟩)))).trans ((set_only w6 g k _).mono (fun b _ e => .inr (.inr (.inl (by rw [e]; rfl)))))
  · rintro b (e | e | e | ⟨j, x, hx, e⟩)
    · exact .inl (.inl e)
    · exact .inl (.inr (.inl e))
    · exact .inl (.inr (.inr (.inl e)))
    · rcases set_get_or hx with ⟨_, rfl⟩ | ⟨_, hx'⟩
      · exact .inr (hb b e)
      · exact .inl (.inr (.inr (.inr ⟨j, x, hx', e⟩)))
set_option maxRecDepth 100000 in
set_option maxHeartbeats 4000000 in
theorem RTake_any (B c : Nat) (F : Nat → Prop) (st : St) (slot n : Int) (w : World) (hA0 : Hid (RA B c F st w)) (hQ : st.Q.length ≤ 1000000) (hn : I64 n) :
    Calls Try.prog 26 #[.pointer (some ⟨c, 0, none⟩), .int .i64 slot, .int .i64 n] w (RStep B c F w (.int .i64 (takeO st slot n).1) (takeO st slot n).2) := by
  obtain ⟨i0, hi0, hz0, hz1, hz2⟩ := info_parts info_rentry
  obtain ⟨u, v, V, eF, hA, hO, hB⟩ := hA0.out
  replace hA := Lib.hid hA
  replace eF := Lib.hid eF
  have HT := Lib.hid (At_any c u v V st.U st.Q slot w hA hQ (Lib.hid (hO.short' hA.out.room)))
  have hself : Hid (Only F w w) := Lib.hid (Only.refl _ _)
  rcases hf : findQ slot st.Q 0 with _ | ⟨k, A, e, C⟩
  · have eP : takeO st slot n = (26, st) := by unfold takeO; rw [hf]
    rw [eP]
    rw [hf, show atV none = .tuple #[.int .i64 0, .int .i64 0, .bool false] from rfl] at HT
    clear eP hf hA hB eF
    go_enter Try.func26, Try.ntmps26
    go_wp2_with fail
    refine HT.out.mono ?_
    rintro e w' ⟨rfl, rfl⟩
    go_wp2_with fail
    go_ret
    exact ⟨F, rfl, hA0.out, hself.out, fun k h => .inl h⟩
  · obtain ⟨j0, e1, hl, es⟩ := findQ_some hf
    obtain rfl : k = j0 := by omega
    subst es
    have hU := Lib.hid ((hO.use e.s).2 ⟨k, _, e, hl, by simp, rfl⟩)
    have eT : takeO st (e.s : Int) n = if n < 1 ∨ e.n < n then (24, st) else if e.n - n = 0 then (0, st.gone k e.s (A ++ C)) else (0, st.turned k (A ++ { e with n := e.n - n } :: C)) := by unfold takeO; rw [hf]
    rw [hf, show atV (some (k, A, e, C)) = .tuple #[.int .i64 (k : Int), .int .i64 (A.length : Int), .bool true] from rfl] at HT
    have hj : (A ++ e :: C)[A.length]? = some e := by simp
    obtain ⟨vk, hv⟩ : ∃ v, V[k]? = some v := ⟨_, List.getElem?_eq_getElem (by rw [hA.out.len]; exact (List.getElem?_eq_some_iff.1 hl).1)⟩
    obtain ⟨g, cap, eq, g1, g2, g3, m0, y0⟩ := hA.out.queue hv
    obtain ⟨c0, c1, f0, f1⟩ := hA.out.cells
    obtain ⟨b, cap1, ev, b1, b2, ⟨p0, p1, p2, p3⟩, y⟩ := (hA.out.rows k vk _ hv hl).at hj
    subst ev
    have y2 := y (A.length * 4 + 2)
    obtain ⟨n1, n2, n3⟩ := hO.fit _ _ e hl (by simp)
    have hset : (A ++ e :: C).set A.length { e with n := e.n - n } = A ++ { e with n := e.n - n } :: C := by simp
    have fin1 := hA.out.setN (e' := { e with n := e.n - n }) (m := 2) (x := .int .i64 (e.n - n)) hv hl hj (by omega) rfl
    rw [hset] at fin1
    replace fin1 := Lib.hid fin1
    have hfb : footR c u v V b := .inr (.inr (.inr ⟨k, _, hv, rfl⟩))
    have fin2 : Hid (Only F w (w.setCell ⟨b, A.length * 4 + 2, none⟩ (.int .i64 (e.n - n)))) := Lib.hid (by rw [eF.out]; exact (set_only w b _ _).mono (fun k _ e => by rw [e]; exact hfb))
    have hlen := hA.out.len
    obtain ⟨nq, enq⟩ : ∃ n, st.Q.length = n := ⟨_, rfl⟩
    rw [enq] at hlen hQ
    rw [hlen] at eq g1
    rw [eq] at c1
    have hkn : k < nq := by rw [← enq]; exact (List.getElem?_eq_some_iff.1 hl).1
    obtain ⟨nl, enl⟩ : ∃ n, (A ++ e :: C).length = n := ⟨_, rfl⟩
    obtain ⟨a, ea⟩ : ∃ n, A.length = n := ⟨_, rfl⟩
    have han : a < nl := by rw [← ea, ← enl]; simp
    have hnl : nl ≤ 4096 := by have h1 := hO.short hl; have h2 := hA.out.room; rw [enl] at h1; omega
    rw [enl] at m0 b1
    rw [ea] at HT p0 p1 p2 p3 y2 fin1 fin2
    rw [eT]
    have hgone := Lib.hid (hO.gone hl)
    have hturn := Lib.hid (fun (h1 : 1 ≤ e.n - n) (h2 : 1 ≤ n) => hO.turned (e' := { e with n := e.n - n }) hl rfl rfl h1 (by show e.n - n ≤ 1000000; omega))
    obtain ⟨m, i, x, t⟩ := e
    simp only at p0 p1 p2 p3 fin1 fin2 n1 n2 hgone hturn hl hU HT ⊢
    replace eq := Lib.hid eq
    replace hlen := Lib.hid hlen
    replace ea := Lib.hid ea
    replace enl := Lib.hid enl
    replace hv := Lib.hid hv
    replace hl := Lib.hid hl
    replace hB := Lib.hid hB
    clear hf hj hset hfb enq y e1 eT
    by_cases k1 : n < 1
    · rw [if_pos (.inl k1)]
      have d1 : decide (n < 1) = true := decide_eq_true k1
      go_enter Try.func26, Try.ntmps26
      go_wp2_with fail
      refine HT.out.mono ?_
      rintro e w' ⟨rfl, rfl⟩
      go_wp2_with fail
      go_ret
      exact ⟨F, rfl, hA0.out, hself.out, fun k h => .inl h⟩
    · have d1 : decide (n < 1) = false := decide_eq_false k1
      by_cases k2 : x < n
      · rw [if_pos (.inr k2)]
        have d2 : decide (x < n) = true := decide_eq_true k2
        go_enter Try.func26, Try.ntmps26
        go_wp2_with fail
        refine HT.out.mono ?_
        rintro e w' ⟨rfl, rfl⟩
        go_wp2_with fail
        go_ret
        exact ⟨F, rfl, hA0.out, hself.out, fun k h => .inl h⟩
      · rw [if_neg (by omega)]
        have q1 : 1 ≤ n := by omega
        have q2 : n ≤ x := by omega
        obtain ⟨P, eP⟩ : ∃ P, (if x - n = 0 then ((0 : Int), st.gone k m (A ++ C)) else (0, st.turned k (A ++ { s := m, i := i, n := x - n, t := t } :: C))) = P := ⟨_, rfl⟩
        rw [eP]
        replace eP := Lib.hid eP
        have hw : IntKind.i64.wrap (x - n) = x - n := IntWalk.i64_in _ (by omega)
        go_enter Try.func26, Try.ntmps26
        go_wp2_with fail
        refine HT.out.mono ?_
        rintro e w' ⟨rfl, rfl⟩
        clear HT
        go_upto_region 6 with (fail)
        go_region
        obtain ⟨W1, eW⟩ : ∃ W, (w.setCell ⟨b, a * 4 + 2, none⟩ (.int .i64 (x - n))).drew = W := ⟨_, rfl⟩
        rw [eW]
        have odr : Only (fun _ => False) (w.setCell ⟨b, a * 4 + 2, none⟩ (.int .i64 (x - n))) W1 := by rw [← eW]; exact ⟨rfl, rfl, rfl, Nat.le_refl _, fun _ _ _ => rfl⟩
        have A1 := Lib.hid (fin1.out.only odr (fun _ _ e => e))
        have O1 : Hid (Only F w W1) := Lib.hid (fin2.out.step odr (fun _ _ e => e.elim))
        clear eW odr c0 c1 f0 f1 p0 p1 p2 p3 y0 m0 y2 fin1 fin2
        obtain ⟨c0, c1, f0, f1⟩ := A1.out.cells
        obtain ⟨gg, cap', eq', -, -, -, m0, y0⟩ := A1.out.queue hv.out
        have eqq := eq.out.symm.trans eq'
        rw [hlen.out] at eqq
        injection eqq with e3 e4 e5
        injection e3 with e3
        injection e3 with e3
        subst e3; subst e5
        rw [eq.out] at c1
        clear e4 eq' c0
        have hl1 : Hid ((st.Q.set k (A ++ { s := m, i := i, n := x - n, t := t } :: C))[k]? = some (A ++ { s := m, i := i, n := x - n, t := t } :: C)) := Lib.hid (set_same_get hl.out)
        have hre := A1.out.rows k _ _ hv.out hl1.out
        rw [enl.out] at hre m0
        have hj1 : (A ++ { s := m, i := i, n := x - n, t := t : En } :: C)[a]? = some { s := m, i := i, n := x - n, t := t } := by rw [← ea.out]; simp
        obtain ⟨b', cap1', ev, -, -, ⟨-, -, p2, -⟩, -⟩ := hre.at hj1
        injection ev with ev1 ev2 ev3
        injection ev1 with ev1
        injection ev1 with ev1
        subst ev1; subst ev3
        clear ev2 hj1
        simp only at p2
        by_cases k3 : x - n = 0
        · have d3 : (x - n == 0) = true := by simpa using k3
          have hE : RE 66 W1 0 (.slice (some ⟨b, 0, none⟩) nl cap1) (A ++ { s := m, i := i, n := x - n, t := t } :: C) := hre
          obtain ⟨Ax, capx, ex, hHE, -, -, -⟩ := hE.slice
          have hlx : (A ++ { s := m, i := i, n := x - n, t := t : En } :: C).length = nl := by have := enl.out; simpa using this
          rw [hlx] at ex hHE
          injection ex with ex1 ex2 ex3
          subst ex1
          clear ex2 ex3
          obtain ⟨ad2, n2, c2, en2, hrun, hsrc⟩ := tail_src (t := 64) (by kernel_rfl) (fun W => by kernel_rfl) b nl cap1 (a + 1) (by omega) b1
          have hn2 : n2 ≤ 4096 := by omega
          clear en2
          obtain ⟨hh, ehh⟩ : ∃ h, W1.heap.size = h := ⟨_, rfl⟩
          have gl : g < hh := by rw [← ehh]; exact A1.out.lt (.inr (.inr (.inl (by rw [eq.out]; rfl))))
          have cl : c < hh := by rw [← ehh]; exact A1.out.lt (.inl rfl)
          have HAll := Lib.hid (fun (X : World) (D : Below hh W1 X) => hHE.below (by rw [ehh]; exact D))
          have HA : Hid (∀ X, Below hh W1 X → HE X (some ⟨b, 0, none⟩) a A) := Lib.hid (fun X D => by
            have h1 := (HAll.out X D).take (k := a) (by omega)
            rw [show (A ++ { s := m, i := i, n := x - n, t := t } :: C).take a = A by rw [← ea.out]; simp] at h1
            exact h1)
          have HC : Hid (∀ X, Below hh W1 X → HE X (some ad2) n2 C) := Lib.hid (fun X D => by
            have h1 := hsrc X _ (HAll.out X D)
            rw [show (A ++ { s := m, i := i, n := x - n, t := t } :: C).drop (a + 1) = C by rw [← ea.out]; simp] at h1
            exact h1)
          have zof : Hid (∀ X, Below hh W1 X → X.cell? ⟨c, 1, none⟩ = some (.slice (some ⟨g, 0, none⟩) nq cap) ∧ X.cell? ⟨g, k, none⟩ = some (.slice (some ⟨b, 0, none⟩) nl cap1) ∧ X.frozen? ⟨g, k, none⟩ = false) := Lib.hid (fun X D =>
            ⟨(World.cell?_of_block (a := ⟨c, 1, none⟩) (D.block c cl)).trans c1, (World.cell?_of_block (a := ⟨g, k, none⟩) (D.block g gl)).trans m0, (World.frozen?_of_block (a := ⟨g, k, none⟩) (D.block g gl)).trans y0⟩)
          have zfar : Hid (∀ (X : World) (v : Value), X.cell? ⟨c, 1, none⟩ = some (.slice (some ⟨g, 0, none⟩) nq cap) → (X.setCell ⟨g, k, none⟩ v).cell? ⟨c, 1, none⟩ = some (.slice (some ⟨g, 0, none⟩) nq cap)) := Lib.hid (fun X v h => (World.cell?_setCell_far X ⟨g, k, none⟩ ⟨c, 1, none⟩ v g2).trans h)
          have after : ∀ {X Y : World} {v v' : Value} {l : List En} (D : Below hh W1 X), RE 66 Y hh v' l → X.grownBy Y v.ownBlock → hh ≤ X.heap.size → (∀ q, v.ownBlock = some q → hh ≤ q) → Below hh W1 Y ∧ (∀ q, v'.ownBlock = some q → hh ≤ q) := fun D r g hs hv => ⟨D.grown g hs hv, fun q hq => (World.ownsRow.lt r q hq).1⟩
          have hrun1 : ∀ W, (Instr.sliceAt 64 (.slice (some ⟨b, 0, none⟩) nl cap1) none (some (.int .i64 (a : Int))) none).run Try.prog W = .ok (.slice (some ⟨b, 0, none⟩) a cap1) W := fun W => slice_to (by kernel_rfl) (fun W => by kernel_rfl) _ _ _ _ (by omega) W
          have eh1 := Lib.hid ehh
          replace eP : Hid (P = (0, st.gone k m (A ++ C))) := Lib.hid (by rw [← eP.out, if_pos k3])
          have hw2 : IntKind.i64.wrap ((a : Int) + 1) = (a : Int) + 1 := IntWalk.i64_in _ (by omega)
          have hrun2 : ∀ W, (Instr.sliceAt 64 (.slice (some ⟨b, 0, none⟩) nl cap1) (some (.int .i64 ((a : Int) + 1))) none none).run Try.prog W = .ok (.slice (some ad2) n2 c2) W := hrun
          obtain ⟨n6, en6⟩ : ∃ n, (A ++ C).length = n := ⟨_, rfl⟩
          replace en6 := Lib.hid en6
          replace hrun := Lib.hid hrun
          have gl' := Lib.hid gl
          have cl' := Lib.hid cl
          go_wp2_with fail
          go_upto_region 8 with (fail)
          refine wp_region_held_drew (S := (fun W : World => W.cell? ⟨c, 1, none⟩ = some (.slice (some ⟨g, 0, none⟩) nq cap))) (by rfl) c1 (fun hHeld => ?_)
          obtain ⟨W0, eW0⟩ : ∃ X, W1.drew = X := ⟨_, rfl⟩
          rw [eW0]
          rw [eW0] at hHeld
          have hsz : W0.heap.size = hh := by rw [← eW0]; exact ehh
          have D0 : Below hh W1 W0 := by rw [← eW0]; exact ⟨rfl, rfl, rfl, Nat.le_refl _, fun _ _ => rfl⟩
          obtain ⟨z0, m0', y0'⟩ := zof.out W0 D0
          obtain ⟨W2, eW2⟩ : ∃ X, W0.alloc (.cells #[] 66) = X := ⟨_, rfl⟩
          have D2 : Below hh W1 W2 := by rw [← eW2]; exact D0.alloc (by omega) _
          have hs2 : Hid (hh ≤ W2.heap.size) := Lib.hid (by rw [← eW2, World.size_alloc]; omega)
          have R2 : Hid (RE 66 W2 hh (.slice (some ⟨hh, 0, none⟩) 0 0) []) := Lib.hid (by rw [← eW2, ← hsz]; exact re_empty _ W0 _ (Nat.le_refl _))
          obtain ⟨z2, m2, y2⟩ := zof.out W2 D2
          replace D2 := Lib.hid D2
          replace D0 := Lib.hid D0
          replace eW2 := Lib.hid eW2
          replace eW0 := Lib.hid eW0
          have ehh := Lib.hid hsz
          clear hsz m0 y0 p2 c1
          have z0h : (fun W : World => W.cell? ⟨c, 1, none⟩ = some (.slice (some ⟨g, 0, none⟩) nq cap)) W0 := z0
          clear hHeld
          refine wpAnyH_take (i := 0) (v := .pointer (some ⟨c, 0, none⟩)) rfl (by kernel_rfl) (by kernel_rfl) (by kernel_rfl) (fun _ _ _ h => h) (Or.inl ⟨by kernel_rfl, fun W hSw => ?_⟩) (by assumption) ?_
          · (try dsimp only at hSw)
            go_simp
          (try simp only [Act.put, List.setIfInBounds_toArray, List.set_cons_zero, List.set_cons_succ])
          refine wpAnyH_take (i := 1) (v := .pointer (some ⟨c, 0, none⟩)) rfl (by kernel_rfl) (by kernel_rfl) (by kernel_rfl) (fun _ _ _ h => h) (Or.inl ⟨by kernel_rfl, fun W hSw => ?_⟩) (by assumption) ?_
          · (try dsimp only at hSw)
            go_simp
          (try simp only [Act.put, List.setIfInBounds_toArray, List.set_cons_zero, List.set_cons_succ])
          refine wpAnyH_take (i := 2) (v := .pointer (some ⟨c, 1, none⟩)) rfl (by kernel_rfl) (by kernel_rfl) (by kernel_rfl) (fun _ _ _ h => h) (Or.inl ⟨by kernel_rfl, fun W hSw => ?_⟩) (by assumption) ?_
          · (try dsimp only at hSw)
            go_simp
          (try simp only [Act.put, List.setIfInBounds_toArray, List.set_cons_zero, List.set_cons_succ])
          refine wpAnyH_take (i := 3) (v := .slice (some ⟨g, 0, none⟩) nq cap) rfl (by kernel_rfl) (by kernel_rfl) (by kernel_rfl) (fun _ _ _ h => h) (Or.inl ⟨by kernel_rfl, fun W hSw => ?_⟩) (by assumption) ?_
          · (try dsimp only at hSw)
            go_simp
          (try simp only [Act.put, List.setIfInBounds_toArray, List.set_cons_zero, List.set_cons_succ])
          refine wpAnyH_take (i := 4) (v := .int .i64 (k : Int)) rfl (by kernel_rfl) (by kernel_rfl) (by kernel_rfl) (fun _ _ _ h => h) (Or.inl ⟨by kernel_rfl, fun W hSw => ?_⟩) (by assumption) ?_
          · (try dsimp only at hSw)
            go_simp
          (try simp only [Act.put, List.setIfInBounds_toArray, List.set_cons_zero, List.set_cons_succ])
          refine wpAnyH_take (i := 6) (v := .pointer (some ⟨c, 0, none⟩)) rfl (by kernel_rfl) (by kernel_rfl) (by kernel_rfl) (fun _ _ _ h => h) (Or.inl ⟨by kernel_rfl, fun W hSw => ?_⟩) (by assumption) ?_
          · (try dsimp only at hSw)
            go_simp
          (try simp only [Act.put, List.setIfInBounds_toArray, List.set_cons_zero, List.set_cons_succ])
          refine wpAnyH_take (i := 7) (v := .pointer (some ⟨c, 0, none⟩)) rfl (by kernel_rfl) (by kernel_rfl) (by kernel_rfl) (fun _ _ _ h => h) (Or.inl ⟨by kernel_rfl, fun W hSw => ?_⟩) (by assumption) ?_
          · (try dsimp only at hSw)
            go_simp
          (try simp only [Act.put, List.setIfInBounds_toArray, List.set_cons_zero, List.set_cons_succ])
          refine wpAnyH_take (i := 8) (v := .pointer (some ⟨c, 1, none⟩)) rfl (by kernel_rfl) (by kernel_rfl) (by kernel_rfl) (fun _ _ _ h => h) (Or.inl ⟨by kernel_rfl, fun W hSw => ?_⟩) (by assumption) ?_
          · (try dsimp only at hSw)
            go_simp
          (try simp only [Act.put, List.setIfInBounds_toArray, List.set_cons_zero, List.set_cons_succ])
          refine wpAnyH_take (i := 9) (v := .slice (some ⟨g, 0, none⟩) nq cap) rfl (by kernel_rfl) (by kernel_rfl) (by kernel_rfl) (fun _ _ _ h => h) (Or.inl ⟨by kernel_rfl, fun W hSw => ?_⟩) (by assumption) ?_
          · (try dsimp only at hSw)
            go_simp
          (try simp only [Act.put, List.setIfInBounds_toArray, List.set_cons_zero, List.set_cons_succ])
          refine wpAnyH_take (i := 10) (v := .int .i64 (k : Int)) rfl (by kernel_rfl) (by kernel_rfl) (by kernel_rfl) (fun _ _ _ h => h) (Or.inl ⟨by kernel_rfl, fun W hSw => ?_⟩) (by assumption) ?_
          · (try dsimp only at hSw)
            go_simp
          (try simp only [Act.put, List.setIfInBounds_toArray, List.set_cons_zero, List.set_cons_succ])
          refine wpAnyH_take (i := 11) (v := .pointer (some ⟨g, k, none⟩)) rfl (by kernel_rfl) (by kernel_rfl) (by kernel_rfl) (fun _ _ _ h => h) (Or.inl ⟨by kernel_rfl, fun W hSw => ?_⟩) (by assumption) ?_
          · (try dsimp only at hSw)
            go_simp
          (try simp only [Act.put, List.setIfInBounds_toArray, List.set_cons_zero, List.set_cons_succ])
          refine wpAnyH_take (i := 13) (v := .int .i64 (a : Int)) rfl (by kernel_rfl) (by kernel_rfl) (by kernel_rfl) (fun _ _ _ h => h) (Or.inl ⟨by kernel_rfl, fun W hSw => ?_⟩) (by assumption) ?_
          · (try dsimp only at hSw)
            go_simp
          (try simp only [Act.put, List.setIfInBounds_toArray, List.set_cons_zero, List.set_cons_succ])
          refine wpAnyH_take (i := 16) (v := .pointer (some ⟨c, 0, none⟩)) rfl (by kernel_rfl) (by kernel_rfl) (by kernel_rfl) (fun _ _ _ h => h) (Or.inl ⟨by kernel_rfl, fun W hSw => ?_⟩) (by assumption) ?_
          · (try dsimp only at hSw)
            go_simp
          (try simp only [Act.put, List.setIfInBounds_toArray, List.set_cons_zero, List.set_cons_succ])
          refine wpAnyH_take (i := 17) (v := .pointer (some ⟨c, 0, none⟩)) rfl (by kernel_rfl) (by kernel_rfl) (by kernel_rfl) (fun _ _ _ h => h) (Or.inl ⟨by kernel_rfl, fun W hSw => ?_⟩) (by assumption) ?_
          · (try dsimp only at hSw)
            go_simp
          (try simp only [Act.put, List.setIfInBounds_toArray, List.set_cons_zero, List.set_cons_succ])
          refine wpAnyH_take (i := 18) (v := .pointer (some ⟨c, 1, none⟩)) rfl (by kernel_rfl) (by kernel_rfl) (by kernel_rfl) (fun _ _ _ h => h) (Or.inl ⟨by kernel_rfl, fun W hSw => ?_⟩) (by assumption) ?_
          · (try dsimp only at hSw)
            go_simp
          (try simp only [Act.put, List.setIfInBounds_toArray, List.set_cons_zero, List.set_cons_succ])
          refine wpAnyH_take (i := 19) (v := .slice (some ⟨g, 0, none⟩) nq cap) rfl (by kernel_rfl) (by kernel_rfl) (by kernel_rfl) (fun _ _ _ h => h) (Or.inl ⟨by kernel_rfl, fun W hSw => ?_⟩) (by assumption) ?_
          · (try dsimp only at hSw)
            go_simp
          (try simp only [Act.put, List.setIfInBounds_toArray, List.set_cons_zero, List.set_cons_succ])
          refine wpAnyH_take (i := 20) (v := .int .i64 (k : Int)) rfl (by kernel_rfl) (by kernel_rfl) (by kernel_rfl) (fun _ _ _ h => h) (Or.inl ⟨by kernel_rfl, fun W hSw => ?_⟩) (by assumption) ?_
          · (try dsimp only at hSw)
            go_simp
          (try simp only [Act.put, List.setIfInBounds_toArray, List.set_cons_zero, List.set_cons_succ])
          refine wpAnyH_take (i := 21) (v := .pointer (some ⟨g, k, none⟩)) rfl (by kernel_rfl) (by kernel_rfl) (by kernel_rfl) (fun _ _ _ h => h) (Or.inl ⟨by kernel_rfl, fun W hSw => ?_⟩) (by assumption) ?_
          · (try dsimp only at hSw)
            go_simp
          (try simp only [Act.put, List.setIfInBounds_toArray, List.set_cons_zero, List.set_cons_succ])
          refine wpAnyH_take (i := 23) (v := .int .i64 (a : Int)) rfl (by kernel_rfl) (by kernel_rfl) (by kernel_rfl) (fun _ _ _ h => h) (Or.inl ⟨by kernel_rfl, fun W hSw => ?_⟩) (by assumption) ?_
          · (try dsimp only at hSw)
            go_simp
          (try simp only [Act.put, List.setIfInBounds_toArray, List.set_cons_zero, List.set_cons_succ])
          refine wpAnyH_take (i := 24) (v := .int .i64 ((a : Int) + 1)) rfl (by kernel_rfl) (by kernel_rfl) (by kernel_rfl) (fun _ _ _ h => h) (Or.inl ⟨by kernel_rfl, fun W hSw => ?_⟩) (by assumption) ?_
          · (try dsimp only at hSw)
            go_simp
          (try simp only [Act.put, List.setIfInBounds_toArray, List.set_cons_zero, List.set_cons_succ])
          refine wpAnyH_ready (rs := [5, 12, 22]) (by kernel_rfl) (by simp) ?_
          refine AllReadyH.cons rfl (fun K hK => ?_) (AllReadyH.cons rfl (fun K hK => ?_) (AllReadyH.cons rfl (fun K hK => ?_) AllReadyH.nil))
          · go_simp
            (try rw [eW2.out])
            (try rw [ehh.out])
            refine hK.out _ _ z2 (fun hHeld => ?_)
            clear hK K hHeld
            (try simp only [Act.put, List.setIfInBounds_toArray, List.set_cons_zero, List.set_cons_succ])
            refine wpAnyH_ready (rs := [12, 22]) (by kernel_rfl) (by simp) ?_
            refine AllReadyH.cons rfl (fun K hK => ?_) (AllReadyH.cons rfl (fun K hK => ?_) AllReadyH.nil)
            · go_simp
              refine hK.out _ _ z2 (fun hHeld => ?_)
              clear hK K hHeld
              (try simp only [Act.put, List.setIfInBounds_toArray, List.set_cons_zero, List.set_cons_succ])
              refine wpAnyH_take (i := 14) (v := .slice (some ⟨b, 0, none⟩) a cap1) rfl (by kernel_rfl) (by kernel_rfl) (by kernel_rfl) (fun _ _ _ h => h) (Or.inl ⟨by kernel_rfl, fun W hSw => ?_⟩) (by assumption) ?_
              · (try dsimp only at hSw)
                go_simp
              (try simp only [Act.put, List.setIfInBounds_toArray, List.set_cons_zero, List.set_cons_succ])
              refine wpAnyH_ready (rs := [15, 22]) (by kernel_rfl) (by simp) ?_
              refine AllReadyH.cons rfl (fun K hK => ?_) (AllReadyH.cons rfl (fun K hK => ?_) AllReadyH.nil)
              · rw [if_pos (by kernel_rfl)]
                refine wp_onto_e (T := 66) (.tmp 76) (.tmp 85) 64 (by rfl) hh i0 Try.underlying64 hi0 hz0 hz1 hz2 (.slice (some ⟨hh, 0, none⟩) 0 0) [] (by rfl) R2.out (some ⟨b, 0, none⟩) a cap1 A (by rfl) (HA.out W2 D2.out) (fun e => by cases e) (by simp; omega) hs2.out ?_
                intro v5 w5 r5 g5 o5
                obtain ⟨D5, b5⟩ := after (D := D2.out) r5 g5 hs2.out (fun q hq => Nat.le_of_eq (by injection hq))
                have r5 : RE 66 w5 hh v5 A := r5
                obtain ⟨z5, m5, y5⟩ := zof.out w5 D5
                replace D5 := Lib.hid D5
                replace b5 := Lib.hid b5
                replace r5 := Lib.hid r5
                clear g5 o5
                refine hK.out _ _ z5 (fun hHeld => ?_)
                clear hK K hHeld
                (try simp only [Act.put, List.setIfInBounds_toArray, List.set_cons_zero, List.set_cons_succ])
                refine wpAnyH_ready (rs := [22]) (by kernel_rfl) (by simp) ?_
                refine AllReadyH.cons rfl (fun K hK => ?_) AllReadyH.nil
                go_simp
                refine hK.out _ _ z5 (fun hHeld => ?_)
                clear hK K hHeld
                (try simp only [Act.put, List.setIfInBounds_toArray, List.set_cons_zero, List.set_cons_succ])
                refine wpAnyH_take (i := 25) (v := .slice (some ad2) n2 c2) rfl (by kernel_rfl) (by kernel_rfl) (by kernel_rfl) (fun _ _ _ h => h) (Or.inl ⟨by kernel_rfl, fun W hSw => ?_⟩) (by assumption) ?_
                · (try dsimp only at hSw)
                  go_simp
                (try simp only [Act.put, List.setIfInBounds_toArray, List.set_cons_zero, List.set_cons_succ])
                refine wpAnyH_ready (rs := [26]) (by kernel_rfl) (by simp) ?_
                refine AllReadyH.cons rfl (fun K hK => ?_) AllReadyH.nil
                rw [if_pos (by kernel_rfl)]
                refine wp_onto_e (T := 66) (.tmp 86) (.tmp 96) 64 (by rfl) hh i0 Try.underlying64 hi0 hz0 hz1 hz2 v5 A (by rfl) r5.out (some ad2) n2 c2 C (by rfl) (HC.out w5 D5.out) (fun e => by cases e) (by rw [ea.out]; omega) (by have := D5.out.size; omega) ?_
                intro v6 w6 r6 g6 o6
                obtain ⟨A6, c6, e6, -, -, -, -⟩ := r6.slice
                rw [en6.out] at e6
                subst e6
                obtain ⟨D6, b6⟩ := after (D := D5.out) r6 g6 (by have := D5.out.size; omega) b5.out
                obtain ⟨z6, m6, y6⟩ := zof.out w6 D6
                replace D6 := Lib.hid D6
                replace b6 := Lib.hid b6
                replace r6 := Lib.hid r6
                clear g6 o6
                refine hK.out _ _ z6 (fun hHeld => ?_)
                clear hK K hHeld
                (try simp only [Act.put, List.setIfInBounds_toArray, List.set_cons_zero, List.set_cons_succ])
                refine wpAnyH_take (i := 27) (v := .pointer (some ⟨g, k, none⟩)) rfl (by kernel_rfl) (by kernel_rfl) (by kernel_rfl) (fun _ _ _ h => h) (Or.inl ⟨by kernel_rfl, fun W hSw => ?_⟩) (by assumption) ?_
                · (try dsimp only at hSw)
                  go_simp
                (try simp only [Act.put, List.setIfInBounds_toArray, List.set_cons_zero, List.set_cons_succ])
                refine wpAnyH_ready (rs := [28]) (by kernel_rfl) (by simp) ?_
                refine AllReadyH.cons rfl (fun K hK => ?_) AllReadyH.nil
                have z7 := zfar.out w6 (.slice A6 n6 c6) z6
                go_simp
                refine hK.out _ _ z7 (fun hHeld => ?_)
                clear hK K hHeld
                (try simp only [Act.put, List.setIfInBounds_toArray, List.set_cons_zero, List.set_cons_succ])
                refine wpAnyH_done (by kernel_rfl) ?_ _
                obtain ⟨a3, o3, f3⟩ := A1.out.replaced eq.out hlen.out hv.out hl1.out (by rw [eh1.out]; exact D6.out) (r6.out.base (Nat.zero_le _)) (by rw [eh1.out]; exact b6.out)
                rw [List.set_set] at a3
                replace a3 := Lib.hid a3
                replace o3 := Lib.hid (O1.out.trans (by rw [eF.out]; exact o3))
                replace f3 := Lib.hid f3
                clear z0 z2 z5 z6 z7 m0' m2 m5 m6 y0' y2 y5 y6 hrun1 hrun2 D0 D2 D5 D6 R2 r5 r6 b5 b6 z0h
                obtain ⟨W3, eW3⟩ : ∃ X, w6.setCell ⟨g, k, none⟩ (.slice A6 n6 c6) = X := ⟨_, rfl⟩
                rw [eW3]
                rw [eW3] at a3 o3
                obtain ⟨s0, s1, s2, s3⟩ := a3.out.cells
                obtain ⟨u0, u1⟩ := a3.out.used hU.out
                have hmN := (List.getElem?_eq_some_iff.1 hU.out).1
                have hN := a3.out.room
                obtain ⟨N, eN⟩ : ∃ N, st.U.length = N := ⟨_, rfl⟩
                rw [eN] at s0 hmN hN
                have a4 := Lib.hid (a3.out.setU (b := false) hU.out)
                have o4 : Hid (Only F w (W3.setCell ⟨u, m, none⟩ (.bool false))) := Lib.hid (o3.out.trans ((set_only W3 u m _).mono (fun b _ e => by rw [eF.out, e]; exact .inr (.inl rfl))))
                clear eW3 eN a3 o3 s1 s2 s3
                go_wp2_with fail
                go_ret
                (try rw [eP.out])
                refine ⟨_, rfl, ⟨u, v, _, rfl, a4.out, hgone.out, ?_⟩, o4.out, ?_⟩
                · intro b hb
                  rcases f3.out b hb with e | e
                  · exact hB.out b (by rw [eF.out]; exact e)
                  · have := hB.out c (by rw [eF.out]; exact .inl rfl)
                    have := eh1.out
                    have := cl'.out
                    omega
                · intro b hb
                  rcases f3.out b hb with e | e
                  · exact .inl (by rw [eF.out]; exact e)
                  · have := O1.out.size; exact .inr (by omega)
              · go_simp
                refine hK.out _ _ z2 (fun hHeld => ?_)
                clear hK K hHeld
                (try simp only [Act.put, List.setIfInBounds_toArray, List.set_cons_zero, List.set_cons_succ])
                refine wpAnyH_take (i := 25) (v := .slice (some ad2) n2 c2) rfl (by kernel_rfl) (by kernel_rfl) (by kernel_rfl) (fun _ _ _ h => h) (Or.inl ⟨by kernel_rfl, fun W hSw => ?_⟩) (by assumption) ?_
                · (try dsimp only at hSw)
                  go_simp
                (try simp only [Act.put, List.setIfInBounds_toArray, List.set_cons_zero, List.set_cons_succ])
                refine wpAnyH_ready (rs := [15]) (by kernel_rfl) (by simp) ?_
                refine AllReadyH.cons rfl (fun K hK => ?_) AllReadyH.nil
                rw [if_pos (by kernel_rfl)]
                refine wp_onto_e (T := 66) (.tmp 76) (.tmp 85) 64 (by rfl) hh i0 Try.underlying64 hi0 hz0 hz1 hz2 (.slice (some ⟨hh, 0, none⟩) 0 0) [] (by rfl) R2.out (some ⟨b, 0, none⟩) a cap1 A (by rfl) (HA.out W2 D2.out) (fun e => by cases e) (by simp; omega) hs2.out ?_
                intro v5 w5 r5 g5 o5
                obtain ⟨D5, b5⟩ := after (D := D2.out) r5 g5 hs2.out (fun q hq => Nat.le_of_eq (by injection hq))
                have r5 : RE 66 w5 hh v5 A := r5
                obtain ⟨z5, m5, y5⟩ := zof.out w5 D5
                replace D5 := Lib.hid D5
                replace b5 := Lib.hid b5
                replace r5 := Lib.hid r5
                clear g5 o5
                refine hK.out _ _ z5 (fun hHeld => ?_)
                clear hK K hHeld
                (try simp only [Act.put, List.setIfInBounds_toArray, List.set_cons_zero, List.set_cons_succ])
                refine wpAnyH_ready (rs := [26]) (by kernel_rfl) (by simp) ?_
                refine AllReadyH.cons rfl (fun K hK => ?_) AllReadyH.nil
                rw [if_pos (by kernel_rfl)]
                refine wp_onto_e (T := 66) (.tmp 86) (.tmp 96) 64 (by rfl) hh i0 Try.underlying64 hi0 hz0 hz1 hz2 v5 A (by rfl) r5.out (some ad2) n2 c2 C (by rfl) (HC.out w5 D5.out) (fun e => by cases e) (by rw [ea.out]; omega) (by have := D5.out.size; omega) ?_
                intro v6 w6 r6 g6 o6
                obtain ⟨A6, c6, e6, -, -, -, -⟩ := r6.slice
                rw [en6.out] at e6
                subst e6
                obtain ⟨D6, b6⟩ := after (D := D5.out) r6 g6 (by have := D5.out.size; omega) b5.out
                obtain ⟨z6, m6, y6⟩ := zof.out w6 D6
                replace D6 := Lib.hid D6
                replace b6 := Lib.hid b6
                replace r6 := Lib.hid r6
                clear g6 o6
                refine hK.out _ _ z6 (fun hHeld => ?_)
                clear hK K hHeld
                (try simp only [Act.put, List.setIfInBounds_toArray, List.set_cons_zero, List.set_cons_succ])
                refine wpAnyH_take (i := 27) (v := .pointer (some ⟨g, k, none⟩)) rfl (by kernel_rfl) (by kernel_rfl) (by kernel_rfl) (fun _ _ _ h => h) (Or.inl ⟨by kernel_rfl, fun W hSw => ?_⟩) (by assumption) ?_
                · (try dsimp only at hSw)
                  go_simp
                (try simp only [Act.put, List.setIfInBounds_toArray, List.set_cons_zero, List.set_cons_succ])
                refine wpAnyH_ready (rs := [28]) (by kernel_rfl) (by simp) ?_
                refine AllReadyH.cons rfl (fun K hK => ?_) AllReadyH.nil
                have z7 := zfar.out w6 (.slice A6 n6 c6) z6
                go_simp
                refine hK.out _ _ z7 (fun hHeld => ?_)
                clear hK K hHeld
                (try simp only [Act.put, List.setIfInBounds_toArray, List.set_cons_zero, List.set_cons_succ])
                refine wpAnyH_done (by kernel_rfl) ?_ _
                obtain ⟨a3, o3, f3⟩ := A1.out.replaced eq.out hlen.out hv.out hl1.out (by rw [eh1.out]; exact D6.out) (r6.out.base (Nat.zero_le _)) (by rw [eh1.out]; exact b6.out)
                rw [List.set_set] at a3
                replace a3 := Lib.hid a3
                replace o3 := Lib.hid (O1.out.trans (by rw [eF.out]; exact o3))
                replace f3 := Lib.hid f3
                clear z0 z2 z5 z6 z7 m0' m2 m5 m6 y0' y2 y5 y6 hrun1 hrun2 D0 D2 D5 D6 R2 r5 r6 b5 b6 z0h
                obtain ⟨W3, eW3⟩ : ∃ X, w6.setCell ⟨g, k, none⟩ (.slice A6 n6 c6) = X := ⟨_, rfl⟩
                rw [eW3]
                rw [eW3] at a3 o3
                obtain ⟨s0, s1, s2, s3⟩ := a3.out.cells
                obtain ⟨u0, u1⟩ := a3.out.used hU.out
                have hmN := (List.getElem?_eq_some_iff.1 hU.out).1
                have hN := a3.out.room
                obtain ⟨N, eN⟩ : ∃ N, st.U.length = N := ⟨_, rfl⟩
                rw [eN] at s0 hmN hN
                have a4 := Lib.hid (a3.out.setU (b := false) hU.out)
                have o4 : Hid (Only F w (W3.setCell ⟨u, m, none⟩ (.bool false))) := Lib.hid (o3.out.trans ((set_only W3 u m _).mono (fun b _ e => by rw [eF.out, e]; exact .inr (.inl rfl))))
                clear eW3 eN a3 o3 s1 s2 s3
                go_wp2_with fail
                go_ret
                (try rw [eP.out])
                refine ⟨_, rfl, ⟨u, v, _, rfl, a4.out, hgone.out, ?_⟩, o4.out, ?_⟩
                · intro b hb
                  rcases f3.out b hb with e | e
                  · exact hB.out b (by rw [eF.out]; exact e)
                  · have := hB.out c (by rw [eF.out]; exact .inl rfl)
                    have := eh1.out
                    have := cl'.out
                    omega
                · intro b hb
                  rcases f3.out b hb with e | e
                  · exact .inl (by rw [eF.out]; exact e)
                  · have := O1.out.size; exact .inr (by omega)
            · go_simp
              refine hK.out _ _ z2 (fun hHeld => ?_)
              clear hK K hHeld
              (try simp only [Act.put, List.setIfInBounds_toArray, List.set_cons_zero, List.set_cons_succ])
              refine wpAnyH_take (i := 25) (v := .slice (some ad2) n2 c2) rfl (by kernel_rfl) (by kernel_rfl) (by kernel_rfl) (fun _ _ _ h => h) (Or.inl ⟨by kernel_rfl, fun W hSw => ?_⟩) (by assumption) ?_
              · (try dsimp only at hSw)
                go_simp
              (try simp only [Act.put, List.setIfInBounds_toArray, List.set_cons_zero, List.set_cons_succ])
              refine wpAnyH_ready (rs := [12]) (by kernel_rfl) (by simp) ?_
              refine AllReadyH.cons rfl (fun K hK => ?_) AllReadyH.nil
              go_simp
              refine hK.out _ _ z2 (fun hHeld => ?_)
              clear hK K hHeld
              (try simp only [Act.put, List.setIfInBounds_toArray, List.set_cons_zero, List.set_cons_succ])
              refine wpAnyH_take (i := 14) (v := .slice (some ⟨b, 0, none⟩) a cap1) rfl (by kernel_rfl) (by kernel_rfl) (by kernel_rfl) (fun _ _ _ h => h) (Or.inl ⟨by kernel_rfl, fun W hSw => ?_⟩) (by assumption) ?_
              · (try dsimp only at hSw)
                go_simp
              (try simp only [Act.put, List.setIfInBounds_toArray, List.set_cons_zero, List.set_cons_succ])
              refine wpAnyH_ready (rs := [15]) (by kernel_rfl) (by simp) ?_
              refine AllReadyH.cons rfl (fun K hK => ?_) AllReadyH.nil
              rw [if_pos (by kernel_rfl)]
              refine wp_onto_e (T := 66) (.tmp 76) (.tmp 85) 64 (by rfl) hh i0 Try.underlying64 hi0 hz0 hz1 hz2 (.slice (some ⟨hh, 0, none⟩) 0 0) [] (by rfl) R2.out (some ⟨b, 0, none⟩) a cap1 A (by rfl) (HA.out W2 D2.out) (fun e => by cases e) (by simp; omega) hs2.out ?_
              intro v5 w5 r5 g5 o5
              obtain ⟨D5, b5⟩ := after (D := D2.out) r5 g5 hs2.out (fun q hq => Nat.le_of_eq (by injection hq))
              have r5 : RE 66 w5 hh v5 A := r5
              obtain ⟨z5, m5, y5⟩ := zof.out w5 D5
              replace D5 := Lib.hid D5
              replace b5 := Lib.hid b5
              replace r5 := Lib.hid r5
              clear g5 o5
              refine hK.out _ _ z5 (fun hHeld => ?_)
              clear hK K hHeld
              (try simp only [Act.put, List.setIfInBounds_toArray, List.set_cons_zero, List.set_cons_succ])
              refine wpAnyH_ready (rs := [26]) (by kernel_rfl) (by simp) ?_
              refine AllReadyH.cons rfl (fun K hK => ?_) AllReadyH.nil
              rw [if_pos (by kernel_rfl)]
              refine wp_onto_e (T := 66) (.tmp 86) (.tmp 96) 64 (by rfl) hh i0 Try.underlying64 hi0 hz0 hz1 hz2 v5 A (by rfl) r5.out (some ad2) n2 c2 C (by rfl) (HC.out w5 D5.out) (fun e => by cases e) (by rw [ea.out]; omega) (by have := D5.out.size; omega) ?_
              intro v6 w6 r6 g6 o6
              obtain ⟨A6, c6, e6, -, -, -, -⟩ := r6.slice
              rw [en6.out] at e6
              subst e6
              obtain ⟨D6, b6⟩ := after (D := D5.out) r6 g6 (by have := D5.out.size; omega) b5.out
              obtain ⟨z6, m6, y6⟩ := zof.out w6 D6
              replace D6 := Lib.hid D6
              replace b6 := Lib.hid b6
              replace r6 := Lib.hid r6
              clear g6 o6
              refine hK.out _ _ z6 (fun hHeld => ?_)
              clear hK K hHeld
              (try simp only [Act.put, List.setIfInBounds_toArray, List.set_cons_zero, List.set_cons_succ])
              refine wpAnyH_take (i := 27) (v := .pointer (some ⟨g, k, none⟩)) rfl (by kernel_rfl) (by kernel_rfl) (by kernel_rfl) (fun _ _ _ h => h) (Or.inl ⟨by kernel_rfl, fun W hSw => ?_⟩) (by assumption) ?_
              · (try dsimp only at hSw)
                go_simp
              (try simp only [Act.put, List.setIfInBounds_toArray, List.set_cons_zero, List.set_cons_succ])
              refine wpAnyH_ready (rs := [28]) (by kernel_rfl) (by simp) ?_
              refine AllReadyH.cons rfl (fun K hK => ?_) AllReadyH.nil
              have z7 := zfar.out w6 (.slice A6 n6 c6) z6
              go_simp
              refine hK.out _ _ z7 (fun hHeld => ?_)
              clear hK K hHeld
              (try simp only [Act.put, List.setIfInBounds_toArray, List.set_cons_zero, List.set_cons_succ])
              refine wpAnyH_done (by kernel_rfl) ?_ _
              obtain ⟨a3, o3, f3⟩ := A1.out.replaced eq.out hlen.out hv.out hl1.out (by rw [eh1.out]; exact D6.out) (r6.out.base (Nat.zero_le _)) (by rw [eh1.out]; exact b6.out)
              rw [List.set_set] at a3
              replace a3 := Lib.hid a3
              replace o3 := Lib.hid (O1.out.trans (by rw [eF.out]; exact o3))
              replace f3 := Lib.hid f3
              clear z0 z2 z5 z6 z7 m0' m2 m5 m6 y0' y2 y5 y6 hrun1 hrun2 D0 D2 D5 D6 R2 r5 r6 b5 b6 z0h
              obtain ⟨W3, eW3⟩ : ∃ X, w6.setCell ⟨g, k, none⟩ (.slice A6 n6 c6) = X := ⟨_, rfl⟩
              rw [eW3]
              rw [eW3] at a3 o3
              obtain ⟨s0, s1, s2, s3⟩ := a3.out.cells
              obtain ⟨u0, u1⟩ := a3.out.used hU.out
              have hmN := (List.getElem?_eq_some_iff.1 hU.out).1
              have hN := a3.out.room
              obtain ⟨N, eN⟩ : ∃ N, st.U.length = N := ⟨_, rfl⟩
              rw [eN] at s0 hmN hN
              have a4 := Lib.hid (a3.out.setU (b := false) hU.out)
              have o4 : Hid (Only F w (W3.setCell ⟨u, m, none⟩ (.bool false))) := Lib.hid (o3.out.trans ((set_only W3 u m _).mono (fun b _ e => by rw [eF.out, e]; exact .inr (.inl rfl))))
              clear eW3 eN a3 o3 s1 s2 s3
              go_wp2_with fail
              go_ret
              (try rw [eP.out])
              refine ⟨_, rfl, ⟨u, v, _, rfl, a4.out, hgone.out, ?_⟩, o4.out, ?_⟩
              · intro b hb
                rcases f3.out b hb with e | e
                · exact hB.out b (by rw [eF.out]; exact e)
                · have := hB.out c (by rw [eF.out]; exact .inl rfl)
                  have := eh1.out
                  have := cl'.out
                  omega
              · intro b hb
                rcases f3.out b hb with e | e
                · exact .inl (by rw [eF.out]; exact e)
                · have := O1.out.size; exact .inr (by omega)
          · go_simp
            refine hK.out _ _ z0 (fun hHeld => ?_)
            clear hK K hHeld
            (try simp only [Act.put, List.setIfInBounds_toArray, List.set_cons_zero, List.set_cons_succ])
            refine wpAnyH_take (i := 14) (v := .slice (some ⟨b, 0, none⟩) a cap1) rfl (by kernel_rfl) (by kernel_rfl) (by kernel_rfl) (fun _ _ _ h => h) (Or.inl ⟨by kernel_rfl, fun W hSw => ?_⟩) (by assumption) ?_
            · (try dsimp only at hSw)
              go_simp
            (try simp only [Act.put, List.setIfInBounds_toArray, List.set_cons_zero, List.set_cons_succ])
            refine wpAnyH_ready (rs := [5, 22]) (by kernel_rfl) (by simp) ?_
            refine AllReadyH.cons rfl (fun K hK => ?_) (AllReadyH.cons rfl (fun K hK => ?_) AllReadyH.nil)
            · go_simp
              (try rw [eW2.out])
              (try rw [ehh.out])
              refine hK.out _ _ z2 (fun hHeld => ?_)
              clear hK K hHeld
              (try simp only [Act.put, List.setIfInBounds_toArray, List.set_cons_zero, List.set_cons_succ])
              refine wpAnyH_ready (rs := [15, 22]) (by kernel_rfl) (by simp) ?_
              refine AllReadyH.cons rfl (fun K hK => ?_) (AllReadyH.cons rfl (fun K hK => ?_) AllReadyH.nil)
              · rw [if_pos (by kernel_rfl)]
                refine wp_onto_e (T := 66) (.tmp 76) (.tmp 85) 64 (by rfl) hh i0 Try.underlying64 hi0 hz0 hz1 hz2 (.slice (some ⟨hh, 0, none⟩) 0 0) [] (by rfl) R2.out (some ⟨b, 0, none⟩) a cap1 A (by rfl) (HA.out W2 D2.out) (fun e => by cases e) (by simp; omega) hs2.out ?_
                intro v5 w5 r5 g5 o5
                obtain ⟨D5, b5⟩ := after (D := D2.out) r5 g5 hs2.out (fun q hq => Nat.le_of_eq (by injection hq))
                have r5 : RE 66 w5 hh v5 A := r5
                obtain ⟨z5, m5, y5⟩ := zof.out w5 D5
                replace D5 := Lib.hid D5
                replace b5 := Lib.hid b5
                replace r5 := Lib.hid r5
                clear g5 o5
                refine hK.out _ _ z5 (fun hHeld => ?_)
                clear hK K hHeld
                (try simp only [Act.put, List.setIfInBounds_toArray, List.set_cons_zero, List.set_cons_succ])
                refine wpAnyH_ready (rs := [22]) (by kernel_rfl) (by simp) ?_
                refine AllReadyH.cons rfl (fun K hK => ?_) AllReadyH.nil
                go_simp
                refine hK.out _ _ z5 (fun hHeld => ?_)
                clear hK K hHeld
                (try simp only [Act.put, List.setIfInBounds_toArray, List.set_cons_zero, List.set_cons_succ])
                refine wpAnyH_take (i := 25) (v := .slice (some ad2) n2 c2) rfl (by kernel_rfl) (by kernel_rfl) (by kernel_rfl) (fun _ _ _ h => h) (Or.inl ⟨by kernel_rfl, fun W hSw => ?_⟩) (by assumption) ?_
                · (try dsimp only at hSw)
                  go_simp
                (try simp only [Act.put, List.setIfInBounds_toArray, List.set_cons_zero, List.set_cons_succ])
                refine wpAnyH_ready (rs := [26]) (by kernel_rfl) (by simp) ?_
                refine AllReadyH.cons rfl (fun K hK => ?_) AllReadyH.nil
                rw [if_pos (by kernel_rfl)]
                refine wp_onto_e (T := 66) (.tmp 86) (.tmp 96) 64 (by rfl) hh i0 Try.underlying64 hi0 hz0 hz1 hz2 v5 A (by rfl) r5.out (some ad2) n2 c2 C (by rfl) (HC.out w5 D5.out) (fun e => by cases e) (by rw [ea.out]; omega) (by have := D5.out.size; omega) ?_
                intro v6 w6 r6 g6 o6
                obtain ⟨A6, c6, e6, -, -, -, -⟩ := r6.slice
                rw [en6.out] at e6
                subst e6
                obtain ⟨D6, b6⟩ := after (D := D5.out) r6 g6 (by have := D5.out.size; omega) b5.out
                obtain ⟨z6, m6, y6⟩ := zof.out w6 D6
                replace D6 := Lib.hid D6
                replace b6 := Lib.hid b6
                replace r6 := Lib.hid r6
                clear g6 o6
                refine hK.out _ _ z6 (fun hHeld => ?_)
                clear hK K hHeld
                (try simp only [Act.put, List.setIfInBounds_toArray, List.set_cons_zero, List.set_cons_succ])
                refine wpAnyH_take (i := 27) (v := .pointer (some ⟨g, k, none⟩)) rfl (by kernel_rfl) (by kernel_rfl) (by kernel_rfl) (fun _ _ _ h => h) (Or.inl ⟨by kernel_rfl, fun W hSw => ?_⟩) (by assumption) ?_
                · (try dsimp only at hSw)
                  go_simp
                (try simp only [Act.put, List.setIfInBounds_toArray, List.set_cons_zero, List.set_cons_succ])
                refine wpAnyH_ready (rs := [28]) (by kernel_rfl) (by simp) ?_
                refine AllReadyH.cons rfl (fun K hK => ?_) AllReadyH.nil
                have z7 := zfar.out w6 (.slice A6 n6 c6) z6
                go_simp
                refine hK.out _ _ z7 (fun hHeld => ?_)
                clear hK K hHeld
                (try simp only [Act.put, List.setIfInBounds_toArray, List.set_cons_zero, List.set_cons_succ])
                refine wpAnyH_done (by kernel_rfl) ?_ _
                obtain ⟨a3, o3, f3⟩ := A1.out.replaced eq.out hlen.out hv.out hl1.out (by rw [eh1.out]; exact D6.out) (r6.out.base (Nat.zero_le _)) (by rw [eh1.out]; exact b6.out)
                rw [List.set_set] at a3
                replace a3 := Lib.hid a3
                replace o3 := Lib.hid (O1.out.trans (by rw [eF.out]; exact o3))
                replace f3 := Lib.hid f3
                clear z0 z2 z5 z6 z7 m0' m2 m5 m6 y0' y2 y5 y6 hrun1 hrun2 D0 D2 D5 D6 R2 r5 r6 b5 b6 z0h
                obtain ⟨W3, eW3⟩ : ∃ X, w6.setCell ⟨g, k, none⟩ (.slice A6 n6 c6) = X := ⟨_, rfl⟩
                rw [eW3]
                rw [eW3] at a3 o3
                obtain ⟨s0, s1, s2, s3⟩ := a3.out.cells
                obtain ⟨u0, u1⟩ := a3.out.used hU.out
                have hmN := (List.getElem?_eq_some_iff.1 hU.out).1
                have hN := a3.out.room
                obtain ⟨N, eN⟩ : ∃ N, st.U.length = N := ⟨_, rfl⟩
                rw [eN] at s0 hmN hN
                have a4 := Lib.hid (a3.out.setU (b := false) hU.out)
                have o4 : Hid (Only F w (W3.setCell ⟨u, m, none⟩ (.bool false))) := Lib.hid (o3.out.trans ((set_only W3 u m _).mono (fun b _ e => by rw [eF.out, e]; exact .inr (.inl rfl))))
                clear eW3 eN a3 o3 s1 s2 s3
                go_wp2_with fail
                go_ret
                (try rw [eP.out])
                refine ⟨_, rfl, ⟨u, v, _, rfl, a4.out, hgone.out, ?_⟩, o4.out, ?_⟩
                · intro b hb
                  rcases f3.out b hb with e | e
                  · exact hB.out b (by rw [eF.out]; exact e)
                  · have := hB.out c (by rw [eF.out]; exact .inl rfl)
                    have := eh1.out
                    have := cl'.out
                    omega
                · intro b hb
                  rcases f3.out b hb with e | e
                  · exact .inl (by rw [eF.out]; exact e)
                  · have := O1.out.size; exact .inr (by omega)
              · go_simp
                refine hK.out _ _ z2 (fun hHeld => ?_)
                clear hK K hHeld
                (try simp only [Act.put, List.setIfInBounds_toArray, List.set_cons_zero, List.set_cons_succ])
                refine wpAnyH_take (i := 25) (v := .slice (some ad2) n2 c2) rfl (by kernel_rfl) (by kernel_rfl) (by kernel_rfl) (fun _ _ _ h => h) (Or.inl ⟨by kernel_rfl, fun W hSw => ?_⟩) (by assumption) ?_
                · (try dsimp only at hSw)
                  go_simp
                (try simp only [Act.put, List.setIfInBounds_toArray, List.set_cons_zero, List.set_cons_succ])
                refine wpAnyH_ready (rs := [15]) (by kernel_rfl) (by simp) ?_
                refine AllReadyH.cons rfl (fun K hK => ?_) AllReadyH.nil
                rw [if_pos (by kernel_rfl)]
                refine wp_onto_e (T := 66) (.tmp 76) (.tmp 85) 64 (by rfl) hh i0 Try.underlying64 hi0 hz0 hz1 hz2 (.slice (some ⟨hh, 0, none⟩) 0 0) [] (by rfl) R2.out (some ⟨b, 0, none⟩) a cap1 A (by rfl) (HA.out W2 D2.out) (fun e => by cases e) (by simp; omega) hs2.out ?_
                intro v5 w5 r5 g5 o5
                obtain ⟨D5, b5⟩ := after (D := D2.out) r5 g5 hs2.out (fun q hq => Nat.le_of_eq (by injection hq))
                have r5 : RE 66 w5 hh v5 A := r5
                obtain ⟨z5, m5, y5⟩ := zof.out w5 D5
                replace D5 := Lib.hid D5
                replace b5 := Lib.hid b5
                replace r5 := Lib.hid r5
                clear g5 o5
                refine hK.out _ _ z5 (fun hHeld => ?_)
                clear hK K hHeld
                (try simp only [Act.put, List.setIfInBounds_toArray, List.set_cons_zero, List.set_cons_succ])
                refine wpAnyH_ready (rs := [26]) (by kernel_rfl) (by simp) ?_
                refine AllReadyH.cons rfl (fun K hK => ?_) AllReadyH.nil
                rw [if_pos (by kernel_rfl)]
                refine wp_onto_e (T := 66) (.tmp 86) (.tmp 96) 64 (by rfl) hh i0 Try.underlying64 hi0 hz0 hz1 hz2 v5 A (by rfl) r5.out (some ad2) n2 c2 C (by rfl) (HC.out w5 D5.out) (fun e => by cases e) (by rw [ea.out]; omega) (by have := D5.out.size; omega) ?_
                intro v6 w6 r6 g6 o6
                obtain ⟨A6, c6, e6, -, -, -, -⟩ := r6.slice
                rw [en6.out] at e6
                subst e6
                obtain ⟨D6, b6⟩ := after (D := D5.out) r6 g6 (by have := D5.out.size; omega) b5.out
                obtain ⟨z6, m6, y6⟩ := zof.out w6 D6
                replace D6 := Lib.hid D6
                replace b6 := Lib.hid b6
                replace r6 := Lib.hid r6
                clear g6 o6
                refine hK.out _ _ z6 (fun hHeld => ?_)
                clear hK K hHeld
                (try simp only [Act.put, List.setIfInBounds_toArray, List.set_cons_zero, List.set_cons_succ])
                refine wpAnyH_take (i := 27) (v := .pointer (some ⟨g, k, none⟩)) rfl (by kernel_rfl) (by kernel_rfl) (by kernel_rfl) (fun _ _ _ h => h) (Or.inl ⟨by kernel_rfl, fun W hSw => ?_⟩) (by assumption) ?_
                · (try dsimp only at hSw)
                  go_simp
                (try simp only [Act.put, List.setIfInBounds_toArray, List.set_cons_zero, List.set_cons_succ])
                refine wpAnyH_ready (rs := [28]) (by kernel_rfl) (by simp) ?_
                refine AllReadyH.cons rfl (fun K hK => ?_) AllReadyH.nil
                have z7 := zfar.out w6 (.slice A6 n6 c6) z6
                go_simp
                refine hK.out _ _ z7 (fun hHeld => ?_)
                clear hK K hHeld
                (try simp only [Act.put, List.setIfInBounds_toArray, List.set_cons_zero, List.set_cons_succ])
                refine wpAnyH_done (by kernel_rfl) ?_ _
                obtain ⟨a3, o3, f3⟩ := A1.out.replaced eq.out hlen.out hv.out hl1.out (by rw [eh1.out]; exact D6.out) (r6.out.base (Nat.zero_le _)) (by rw [eh1.out]; exact b6.out)
                rw [List.set_set] at a3
                replace a3 := Lib.hid a3
                replace o3 := Lib.hid (O1.out.trans (by rw [eF.out]; exact o3))
                replace f3 := Lib.hid f3
                clear z0 z2 z5 z6 z7 m0' m2 m5 m6 y0' y2 y5 y6 hrun1 hrun2 D0 D2 D5 D6 R2 r5 r6 b5 b6 z0h
                obtain ⟨W3, eW3⟩ : ∃ X, w6.setCell ⟨g, k, none⟩ (.slice A6 n6 c6) = X := ⟨_, rfl⟩
                rw [eW3]
                rw [eW3] at a3 o3
                obtain ⟨s0, s1, s2, s3⟩ := a3.out.cells
                obtain ⟨u0, u1⟩ := a3.out.used hU.out
                have hmN := (List.getElem?_eq_some_iff.1 hU.out).1
                have hN := a3.out.room
                obtain ⟨N, eN⟩ : ∃ N, st.U.length = N := ⟨_, rfl⟩
                rw [eN] at s0 hmN hN
                have a4 := Lib.hid (a3.out.setU (b := false) hU.out)
                have o4 : Hid (Only F w (W3.setCell ⟨u, m, none⟩ (.bool false))) := Lib.hid (o3.out.trans ((set_only W3 u m _).mono (fun b _ e => by rw [eF.out, e]; exact .inr (.inl rfl))))
                clear eW3 eN a3 o3 s1 s2 s3
                go_wp2_with fail
                go_ret
                (try rw [eP.out])
                refine ⟨_, rfl, ⟨u, v, _, rfl, a4.out, hgone.out, ?_⟩, o4.out, ?_⟩
                · intro b hb
                  rcases f3.out b hb with e | e
                  · exact hB.out b (by rw [eF.out]; exact e)
                  · have := hB.out c (by rw [eF.out]; exact .inl rfl)
                    have := eh1.out
                    have := cl'.out
                    omega
                · intro b hb
                  rcases f3.out b hb with e | e
                  · exact .inl (by rw [eF.out]; exact e)
                  · have := O1.out.size; exact .inr (by omega)
            · go_simp
              refine hK.out _ _ z0 (fun hHeld => ?_)
              clear hK K hHeld
              (try simp only [Act.put, List.setIfInBounds_toArray, List.set_cons_zero, List.set_cons_succ])
              refine wpAnyH_take (i := 25) (v := .slice (some ad2) n2 c2) rfl (by kernel_rfl) (by kernel_rfl) (by kernel_rfl) (fun _ _ _ h => h) (Or.inl ⟨by kernel_rfl, fun W hSw => ?_⟩) (by assumption) ?_
              · (try dsimp only at hSw)
                go_simp
              (try simp only [Act.put, List.setIfInBounds_toArray, List.set_cons_zero, List.set_cons_succ])
              refine wpAnyH_ready (rs := [5]) (by kernel_rfl) (by simp) ?_
              refine AllReadyH.cons rfl (fun K hK => ?_) AllReadyH.nil
              go_simp
              (try rw [eW2.out])
              (try rw [ehh.out])
              refine hK.out _ _ z2 (fun hHeld => ?_)
              clear hK K hHeld
              (try simp only [Act.put, List.setIfInBounds_toArray, List.set_cons_zero, List.set_cons_succ])
              refine wpAnyH_ready (rs := [15]) (by kernel_rfl) (by simp) ?_
              refine AllReadyH.cons rfl (fun K hK => ?_) AllReadyH.nil
              rw [if_pos (by kernel_rfl)]
              refine wp_onto_e (T := 66) (.tmp 76) (.tmp 85) 64 (by rfl) hh i0 Try.underlying64 hi0 hz0 hz1 hz2 (.slice (some ⟨hh, 0, none⟩) 0 0) [] (by rfl) R2.out (some ⟨b, 0, none⟩) a cap1 A (by rfl) (HA.out W2 D2.out) (fun e => by cases e) (by simp; omega) hs2.out ?_
              intro v5 w5 r5 g5 o5
              obtain ⟨D5, b5⟩ := after (D := D2.out) r5 g5 hs2.out (fun q hq => Nat.le_of_eq (by injection hq))
              have r5 : RE 66 w5 hh v5 A := r5
              obtain ⟨z5, m5, y5⟩ := zof.out w5 D5
              replace D5 := Lib.hid D5
              replace b5 := Lib.hid b5
              replace r5 := Lib.hid r5
              clear g5 o5
              refine hK.out _ _ z5 (fun hHeld => ?_)
              clear hK K hHeld
              (try simp only [Act.put, List.setIfInBounds_toArray, List.set_cons_zero, List.set_cons_succ])
              refine wpAnyH_ready (rs := [26]) (by kernel_rfl) (by simp) ?_
              refine AllReadyH.cons rfl (fun K hK => ?_) AllReadyH.nil
              rw [if_pos (by kernel_rfl)]
              refine wp_onto_e (T := 66) (.tmp 86) (.tmp 96) 64 (by rfl) hh i0 Try.underlying64 hi0 hz0 hz1 hz2 v5 A (by rfl) r5.out (some ad2) n2 c2 C (by rfl) (HC.out w5 D5.out) (fun e => by cases e) (by rw [ea.out]; omega) (by have := D5.out.size; omega) ?_
              intro v6 w6 r6 g6 o6
              obtain ⟨A6, c6, e6, -, -, -, -⟩ := r6.slice
              rw [en6.out] at e6
              subst e6
              obtain ⟨D6, b6⟩ := after (D := D5.out) r6 g6 (by have := D5.out.size; omega) b5.out
              obtain ⟨z6, m6, y6⟩ := zof.out w6 D6
              replace D6 := Lib.hid D6
              replace b6 := Lib.hid b6
              replace r6 := Lib.hid r6
              clear g6 o6
              refine hK.out _ _ z6 (fun hHeld => ?_)
              clear hK K hHeld
              (try simp only [Act.put, List.setIfInBounds_toArray, List.set_cons_zero, List.set_cons_succ])
              refine wpAnyH_take (i := 27) (v := .pointer (some ⟨g, k, none⟩)) rfl (by kernel_rfl) (by kernel_rfl) (by kernel_rfl) (fun _ _ _ h => h) (Or.inl ⟨by kernel_rfl, fun W hSw => ?_⟩) (by assumption) ?_
              · (try dsimp only at hSw)
                go_simp
              (try simp only [Act.put, List.setIfInBounds_toArray, List.set_cons_zero, List.set_cons_succ])
              refine wpAnyH_ready (rs := [28]) (by kernel_rfl) (by simp) ?_
              refine AllReadyH.cons rfl (fun K hK => ?_) AllReadyH.nil
              have z7 := zfar.out w6 (.slice A6 n6 c6) z6
              go_simp
              refine hK.out _ _ z7 (fun hHeld => ?_)
              clear hK K hHeld
              (try simp only [Act.put, List.setIfInBounds_toArray, List.set_cons_zero, List.set_cons_succ])
              refine wpAnyH_done (by kernel_rfl) ?_ _
              obtain ⟨a3, o3, f3⟩ := A1.out.replaced eq.out hlen.out hv.out hl1.out (by rw [eh1.out]; exact D6.out) (r6.out.base (Nat.zero_le _)) (by rw [eh1.out]; exact b6.out)
              rw [List.set_set] at a3
              replace a3 := Lib.hid a3
              replace o3 := Lib.hid (O1.out.trans (by rw [eF.out]; exact o3))
              replace f3 := Lib.hid f3
              clear z0 z2 z5 z6 z7 m0' m2 m5 m6 y0' y2 y5 y6 hrun1 hrun2 D0 D2 D5 D6 R2 r5 r6 b5 b6 z0h
              obtain ⟨W3, eW3⟩ : ∃ X, w6.setCell ⟨g, k, none⟩ (.slice A6 n6 c6) = X := ⟨_, rfl⟩
              rw [eW3]
              rw [eW3] at a3 o3
              obtain ⟨s0, s1, s2, s3⟩ := a3.out.cells
              obtain ⟨u0, u1⟩ := a3.out.used hU.out
              have hmN := (List.getElem?_eq_some_iff.1 hU.out).1
              have hN := a3.out.room
              obtain ⟨N, eN⟩ : ∃ N, st.U.length = N := ⟨_, rfl⟩
              rw [eN] at s0 hmN hN
              have a4 := Lib.hid (a3.out.setU (b := false) hU.out)
              have o4 : Hid (Only F w (W3.setCell ⟨u, m, none⟩ (.bool false))) := Lib.hid (o3.out.trans ((set_only W3 u m _).mono (fun b _ e => by rw [eF.out, e]; exact .inr (.inl rfl))))
              clear eW3 eN a3 o3 s1 s2 s3
              go_wp2_with fail
              go_ret
              (try rw [eP.out])
              refine ⟨_, rfl, ⟨u, v, _, rfl, a4.out, hgone.out, ?_⟩, o4.out, ?_⟩
              · intro b hb
                rcases f3.out b hb with e | e
                · exact hB.out b (by rw [eF.out]; exact e)
                · have := hB.out c (by rw [eF.out]; exact .inl rfl)
                  have := eh1.out
                  have := cl'.out
                  omega
              · intro b hb
                rcases f3.out b hb with e | e
                · exact .inl (by rw [eF.out]; exact e)
                · have := O1.out.size; exact .inr (by omega)
          · go_simp
            refine hK.out _ _ z0 (fun hHeld => ?_)
            clear hK K hHeld
            (try simp only [Act.put, List.setIfInBounds_toArray, List.set_cons_zero, List.set_cons_succ])
            refine wpAnyH_take (i := 25) (v := .slice (some ad2) n2 c2) rfl (by kernel_rfl) (by kernel_rfl) (by kernel_rfl) (fun _ _ _ h => h) (Or.inl ⟨by kernel_rfl, fun W hSw => ?_⟩) (by assumption) ?_
            · (try dsimp only at hSw)
              go_simp
            (try simp only [Act.put, List.setIfInBounds_toArray, List.set_cons_zero, List.set_cons_succ])
            refine wpAnyH_ready (rs := [5, 12]) (by kernel_rfl) (by simp) ?_
            refine AllReadyH.cons rfl (fun K hK => ?_) (AllReadyH.cons rfl (fun K hK => ?_) AllReadyH.nil)
            · go_simp
              (try rw [eW2.out])
              (try rw [ehh.out])
              refine hK.out _ _ z2 (fun hHeld => ?_)
              clear hK K hHeld
              (try simp only [Act.put, List.setIfInBounds_toArray, List.set_cons_zero, List.set_cons_succ])
              refine wpAnyH_ready (rs := [12]) (by kernel_rfl) (by simp) ?_
              refine AllReadyH.cons rfl (fun K hK => ?_) AllReadyH.nil
              go_simp
              refine hK.out _ _ z2 (fun hHeld => ?_)
              clear hK K hHeld
              (try simp only [Act.put, List.setIfInBounds_toArray, List.set_cons_zero, List.set_cons_succ])
              refine wpAnyH_take (i := 14) (v := .slice (some ⟨b, 0, none⟩) a cap1) rfl (by kernel_rfl) (by kernel_rfl) (by kernel_rfl) (fun _ _ _ h => h) (Or.inl ⟨by kernel_rfl, fun W hSw => ?_⟩) (by assumption) ?_
              · (try dsimp only at hSw)
                go_simp
              (try simp only [Act.put, List.setIfInBounds_toArray, List.set_cons_zero, List.set_cons_succ])
              refine wpAnyH_ready (rs := [15]) (by kernel_rfl) (by simp) ?_
              refine AllReadyH.cons rfl (fun K hK => ?_) AllReadyH.nil
              rw [if_pos (by kernel_rfl)]
              refine wp_onto_e (T := 66) (.tmp 76) (.tmp 85) 64 (by rfl) hh i0 Try.underlying64 hi0 hz0 hz1 hz2 (.slice (some ⟨hh, 0, none⟩) 0 0) [] (by rfl) R2.out (some ⟨b, 0, none⟩) a cap1 A (by rfl) (HA.out W2 D2.out) (fun e => by cases e) (by simp; omega) hs2.out ?_
              intro v5 w5 r5 g5 o5
              obtain ⟨D5, b5⟩ := after (D := D2.out) r5 g5 hs2.out (fun q hq => Nat.le_of_eq (by injection hq))
              have r5 : RE 66 w5 hh v5 A := r5
              obtain ⟨z5, m5, y5⟩ := zof.out w5 D5
              replace D5 := Lib.hid D5
              replace b5 := Lib.hid b5
              replace r5 := Lib.hid r5
              clear g5 o5
              refine hK.out _ _ z5 (fun hHeld => ?_)
              clear hK K hHeld
              (try simp only [Act.put, List.setIfInBounds_toArray, List.set_cons_zero, List.set_cons_succ])
              refine wpAnyH_ready (rs := [26]) (by kernel_rfl) (by simp) ?_
              refine AllReadyH.cons rfl (fun K hK => ?_) AllReadyH.nil
              rw [if_pos (by kernel_rfl)]
              refine wp_onto_e (T := 66) (.tmp 86) (.tmp 96) 64 (by rfl) hh i0 Try.underlying64 hi0 hz0 hz1 hz2 v5 A (by rfl) r5.out (some ad2) n2 c2 C (by rfl) (HC.out w5 D5.out) (fun e => by cases e) (by rw [ea.out]; omega) (by have := D5.out.size; omega) ?_
              intro v6 w6 r6 g6 o6
              obtain ⟨A6, c6, e6, -, -, -, -⟩ := r6.slice
              rw [en6.out] at e6
              subst e6
              obtain ⟨D6, b6⟩ := after (D := D5.out) r6 g6 (by have := D5.out.size; omega) b5.out
              obtain ⟨z6, m6, y6⟩ := zof.out w6 D6
              replace D6 := Lib.hid D6
              replace b6 := Lib.hid b6
              replace r6 := Lib.hid r6
              clear g6 o6
              refine hK.out _ _ z6 (fun hHeld => ?_)
              clear hK K hHeld
              (try simp only [Act.put, List.setIfInBounds_toArray, List.set_cons_zero, List.set_cons_succ])
              refine wpAnyH_take (i := 27) (v := .pointer (some ⟨g, k, none⟩)) rfl (by kernel_rfl) (by kernel_rfl) (by kernel_rfl) (fun _ _ _ h => h) (Or.inl ⟨by kernel_rfl, fun W hSw => ?_⟩) (by assumption) ?_
              · (try dsimp only at hSw)
                go_simp
              (try simp only [Act.put, List.setIfInBounds_toArray, List.set_cons_zero, List.set_cons_succ])
              refine wpAnyH_ready (rs := [28]) (by kernel_rfl) (by simp) ?_
              refine AllReadyH.cons rfl (fun K hK => ?_) AllReadyH.nil
              have z7 := zfar.out w6 (.slice A6 n6 c6) z6
              go_simp
              refine hK.out _ _ z7 (fun hHeld => ?_)
              clear hK K hHeld
              (try simp only [Act.put, List.setIfInBounds_toArray, List.set_cons_zero, List.set_cons_succ])
              refine wpAnyH_done (by kernel_rfl) ?_ _
              obtain ⟨a3, o3, f3⟩ := A1.out.replaced eq.out hlen.out hv.out hl1.out (by rw [eh1.out]; exact D6.out) (r6.out.base (Nat.zero_le _)) (by rw [eh1.out]; exact b6.out)
              rw [List.set_set] at a3
              replace a3 := Lib.hid a3
              replace o3 := Lib.hid (O1.out.trans (by rw [eF.out]; exact o3))
              replace f3 := Lib.hid f3
              clear z0 z2 z5 z6 z7 m0' m2 m5 m6 y0' y2 y5 y6 hrun1 hrun2 D0 D2 D5 D6 R2 r5 r6 b5 b6 z0h
              obtain ⟨W3, eW3⟩ : ∃ X, w6.setCell ⟨g, k, none⟩ (.slice A6 n6 c6) = X := ⟨_, rfl⟩
              rw [eW3]
              rw [eW3] at a3 o3
              obtain ⟨s0, s1, s2, s3⟩ := a3.out.cells
              obtain ⟨u0, u1⟩ := a3.out.used hU.out
              have hmN := (List.getElem?_eq_some_iff.1 hU.out).1
              have hN := a3.out.room
              obtain ⟨N, eN⟩ : ∃ N, st.U.length = N := ⟨_, rfl⟩
              rw [eN] at s0 hmN hN
              have a4 := Lib.hid (a3.out.setU (b := false) hU.out)
              have o4 : Hid (Only F w (W3.setCell ⟨u, m, none⟩ (.bool false))) := Lib.hid (o3.out.trans ((set_only W3 u m _).mono (fun b _ e => by rw [eF.out, e]; exact .inr (.inl rfl))))
              clear eW3 eN a3 o3 s1 s2 s3
              go_wp2_with fail
              go_ret
              (try rw [eP.out])
              refine ⟨_, rfl, ⟨u, v, _, rfl, a4.out, hgone.out, ?_⟩, o4.out, ?_⟩
              · intro b hb
                rcases f3.out b hb with e | e
                · exact hB.out b (by rw [eF.out]; exact e)
                · have := hB.out c (by rw [eF.out]; exact .inl rfl)
                  have := eh1.out
                  have := cl'.out
                  omega
              · intro b hb
                rcases f3.out b hb with e | e
                · exact .inl (by rw [eF.out]; exact e)
                · have := O1.out.size; exact .inr (by omega)
            · go_simp
              refine hK.out _ _ z0 (fun hHeld => ?_)
              clear hK K hHeld
              (try simp only [Act.put, List.setIfInBounds_toArray, List.set_cons_zero, List.set_cons_succ])
              refine wpAnyH_take (i := 14) (v := .slice (some ⟨b, 0, none⟩) a cap1) rfl (by kernel_rfl) (by kernel_rfl) (by kernel_rfl) (fun _ _ _ h => h) (Or.inl ⟨by kernel_rfl, fun W hSw => ?_⟩) (by assumption) ?_
              · (try dsimp only at hSw)
                go_simp
              (try simp only [Act.put, List.setIfInBounds_toArray, List.set_cons_zero, List.set_cons_succ])
              refine wpAnyH_ready (rs := [5]) (by kernel_rfl) (by simp) ?_
              refine AllReadyH.cons rfl (fun K hK => ?_) AllReadyH.nil
              go_simp
              (try rw [eW2.out])
              (try rw [ehh.out])
              refine hK.out _ _ z2 (fun hHeld => ?_)
              clear hK K hHeld
              (try simp only [Act.put, List.setIfInBounds_toArray, List.set_cons_zero, List.set_cons_succ])
              refine wpAnyH_ready (rs := [15]) (by kernel_rfl) (by simp) ?_
              refine AllReadyH.cons rfl (fun K hK => ?_) AllReadyH.nil
              rw [if_pos (by kernel_rfl)]
              refine wp_onto_e (T := 66) (.tmp 76) (.tmp 85) 64 (by rfl) hh i0 Try.underlying64 hi0 hz0 hz1 hz2 (.slice (some ⟨hh, 0, none⟩) 0 0) [] (by rfl) R2.out (some ⟨b, 0, none⟩) a cap1 A (by rfl) (HA.out W2 D2.out) (fun e => by cases e) (by simp; omega) hs2.out ?_
              intro v5 w5 r5 g5 o5
              obtain ⟨D5, b5⟩ := after (D := D2.out) r5 g5 hs2.out (fun q hq => Nat.le_of_eq (by injection hq))
              have r5 : RE 66 w5 hh v5 A := r5
              obtain ⟨z5, m5, y5⟩ := zof.out w5 D5
              replace D5 := Lib.hid D5
              replace b5 := Lib.hid b5
              replace r5 := Lib.hid r5
              clear g5 o5
              refine hK.out _ _ z5 (fun hHeld => ?_)
              clear hK K hHeld
              (try simp only [Act.put, List.setIfInBounds_toArray, List.set_cons_zero, List.set_cons_succ])
              refine wpAnyH_ready (rs := [26]) (by kernel_rfl) (by simp) ?_
              refine AllReadyH.cons rfl (fun K hK => ?_) AllReadyH.nil
              rw [if_pos (by kernel_rfl)]
              refine wp_onto_e (T := 66) (.tmp 86) (.tmp 96) 64 (by rfl) hh i0 Try.underlying64 hi0 hz0 hz1 hz2 v5 A (by rfl) r5.out (some ad2) n2 c2 C (by rfl) (HC.out w5 D5.out) (fun e => by cases e) (by rw [ea.out]; omega) (by have := D5.out.size; omega) ?_
              intro v6 w6 r6 g6 o6
              obtain ⟨A6, c6, e6, -, -, -, -⟩ := r6.slice
              rw [en6.out] at e6
              subst e6
              obtain ⟨D6, b6⟩ := after (D := D5.out) r6 g6 (by have := D5.out.size; omega) b5.out
              obtain ⟨z6, m6, y6⟩ := zof.out w6 D6
              replace D6 := Lib.hid D6
              replace b6 := Lib.hid b6
              replace r6 := Lib.hid r6
              clear g6 o6
              refine hK.out _ _ z6 (fun hHeld => ?_)
              clear hK K hHeld
              (try simp only [Act.put, List.setIfInBounds_toArray, List.set_cons_zero, List.set_cons_succ])
              refine wpAnyH_take (i := 27) (v := .pointer (some ⟨g, k, none⟩)) rfl (by kernel_rfl) (by kernel_rfl) (by kernel_rfl) (fun _ _ _ h => h) (Or.inl ⟨by kernel_rfl, fun W hSw => ?_⟩) (by assumption) ?_
              · (try dsimp only at hSw)
                go_simp
              (try simp only [Act.put, List.setIfInBounds_toArray, List.set_cons_zero, List.set_cons_succ])
              refine wpAnyH_ready (rs := [28]) (by kernel_rfl) (by simp) ?_
              refine AllReadyH.cons rfl (fun K hK => ?_) AllReadyH.nil
              have z7 := zfar.out w6 (.slice A6 n6 c6) z6
              go_simp
              refine hK.out _ _ z7 (fun hHeld => ?_)
              clear hK K hHeld
              (try simp only [Act.put, List.setIfInBounds_toArray, List.set_cons_zero, List.set_cons_succ])
              refine wpAnyH_done (by kernel_rfl) ?_ _
              obtain ⟨a3, o3, f3⟩ := A1.out.replaced eq.out hlen.out hv.out hl1.out (by rw [eh1.out]; exact D6.out) (r6.out.base (Nat.zero_le _)) (by rw [eh1.out]; exact b6.out)
              rw [List.set_set] at a3
              replace a3 := Lib.hid a3
              replace o3 := Lib.hid (O1.out.trans (by rw [eF.out]; exact o3))
              replace f3 := Lib.hid f3
              clear z0 z2 z5 z6 z7 m0' m2 m5 m6 y0' y2 y5 y6 hrun1 hrun2 D0 D2 D5 D6 R2 r5 r6 b5 b6 z0h
              obtain ⟨W3, eW3⟩ : ∃ X, w6.setCell ⟨g, k, none⟩ (.slice A6 n6 c6) = X := ⟨_, rfl⟩
              rw [eW3]
              rw [eW3] at a3 o3
              obtain ⟨s0, s1, s2, s3⟩ := a3.out.cells
              obtain ⟨u0, u1⟩ := a3.out.used hU.out
              have hmN := (List.getElem?_eq_some_iff.1 hU.out).1
              have hN := a3.out.room
              obtain ⟨N, eN⟩ : ∃ N, st.U.length = N := ⟨_, rfl⟩
              rw [eN] at s0 hmN hN
              have a4 := Lib.hid (a3.out.setU (b := false) hU.out)
              have o4 : Hid (Only F w (W3.setCell ⟨u, m, none⟩ (.bool false))) := Lib.hid (o3.out.trans ((set_only W3 u m _).mono (fun b _ e => by rw [eF.out, e]; exact .inr (.inl rfl))))
              clear eW3 eN a3 o3 s1 s2 s3
              go_wp2_with fail
              go_ret
              (try rw [eP.out])
              refine ⟨_, rfl, ⟨u, v, _, rfl, a4.out, hgone.out, ?_⟩, o4.out, ?_⟩
              · intro b hb
                rcases f3.out b hb with e | e
                · exact hB.out b (by rw [eF.out]; exact e)
                · have := hB.out c (by rw [eF.out]; exact .inl rfl)
                  have := eh1.out
                  have := cl'.out
                  omega
              · intro b hb
                rcases f3.out b hb with e | e
                · exact .inl (by rw [eF.out]; exact e)
                · have := O1.out.size; exact .inr (by omega)

        · have d3 : (x - n == 0) = false := by simpa using k3
          have ht := Lib.hid (hturn.out (by omega) q1)
          replace eP : Hid (P = (0, st.turned k (A ++ { s := m, i := i, n := x - n, t := t } :: C))) := Lib.hid (by rw [← eP.out, if_neg k3])
          clear hl1 hre
          go_wp2_with fail
          go_ret
          (try rw [eP.out])
          exact ⟨F, rfl, ⟨u, v, V, eF.out, A1.out, ht.out, hB.out⟩, O1.out, fun b hb => .inl hb⟩
end Go.Proofs.Ytcfmnmknbebfnaa
