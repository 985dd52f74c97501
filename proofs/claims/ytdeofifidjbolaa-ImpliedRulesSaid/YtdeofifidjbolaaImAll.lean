/-
  The document's implied quotes: All.
-/
import Derived.Test.YtdeofifidjbolaaImJoin
import Derived.Test.YtdeofifidjbolaaImJoinB
import Derived.Test.YtdeofifidjbolaaImJoinL
import Derived.Test.YtdeofifidjbolaaGbRef
import Derived.Test.YtdeofifidjbolaaKeepProduct
namespace Go.Proofs.Ytdeofifidjbolaa
open Go.RowKit
set_option linter.unusedVariables false
set_option linter.unusedSimpArgs false

theorem spreadFrom_range (p : PD) (near far : Int) (c : Nat) (hc : 0 < c) : ∀ d k, k + d ≤ c → 0 ≤ (spreadFrom p near far d k).1 ∧ (spreadFrom p near far d k).1 < (c : Int) := by
  intro d
  induction d with
  | zero => intro k _; rw [spreadFrom_zero]; exact ⟨Int.le_refl 0, by show (0 : Int) < (c : Int); omega⟩
  | succ d ih =>
    intro k hk
    rw [spreadFrom_succ]
    split
    · exact ⟨by show (0 : Int) ≤ (k : Int); omega, by show (k : Int) < (c : Int); omega⟩
    · exact ih (k + 1) (by omega)
theorem spreadI_range {p : PD} (h : chk p = 0) (near far : Int) : ∃ s : Nat, (spreadI p near far).1 = (s : Int) ∧ s < cntL p := by
  have h2 := chk_zero h
  have hc : cntL p = p.n1 + p.n1 * (p.n1 - 1) / 2 := by unfold cntL; rw [if_pos h]
  obtain ⟨a, b⟩ := spreadFrom_range p near far (cntL p) (by omega) (cntL p - p.n1) p.n1 (by omega)
  have a' : 0 ≤ (spreadI p near far).1 := a
  exact ⟨(spreadI p near far).1.toNat, by rw [Int.toNat_of_nonneg a'], by have : (spreadI p near far).1 < (cntL p : Int) := b; omega⟩
/-- A slice under way that reads as quotes. -/
def OutQ (base : Nat) (w : World) (v : Value) (L : List Qt) : Prop := ∃ A n c, v = .slice A n c ∧ HV fQt w A n L ∧ n ≤ c ∧ c ≤ 9223372036854775807 ∧ (A = none → c = 0) ∧ (∀ ad, A = some ad → base ≤ ad.block)
theorem OutQ.below {base : Nat} {w w' : World} {v : Value} {L : List Qt} (h : OutQ base w v L) (b : Below w.heap.size w w') : OutQ base w' v L := by
  obtain ⟨A, n, c, e, hv, r⟩ := h
  exact ⟨A, n, c, e, hv.below b, r⟩
theorem outQ_nil (base : Nat) (w : World) : OutQ base w (.slice none 0 0) [] := ⟨none, 0, 0, rfl, hv_nil _ _, Nat.le_refl _, by omega, fun _ => rfl, fun _ e => by cases e⟩
theorem AnsQ.out {base : Nat} {w w' : World} {L : List Qt} {e : Ending} (h : AnsQ base w L e w') : ∃ v, e = .returned v ∧ OutQ base w' v L ∧ Below w.heap.size w w' := by
  obtain ⟨A, n, c, rfl, hv, a, b, d, f, g⟩ := h
  exact ⟨_, rfl, ⟨A, n, c, rfl, hv, a, b, d, f⟩, g⟩
theorem build_leg (a s : Int) : ∀ W : World, (Instr.build 61 #[(0, .int .i64 a), (1, .int .i64 s)]).run Try.prog W = .ok (.agg #[.int .i64 a, .int .i64 s]) W := fun W => by kernel_rfl
theorem ROther_any (s : Int) (w : World) (h1 : 1 ≤ s) (h2 : s ≤ 2) : Calls Try.prog 46 #[.int .i64 s] w fun e w' => e = .returned (.int .i64 (3 - s)) ∧ w' = w := by
  go_enter Try.func46, Try.ntmps46
  go_wp2
  go_ret
  exact ⟨rfl, rfl⟩
theorem allQ_no {p : PD} {T : List Tp} {inst side : Int} (h : ¬ (chk p = 0 ∧ T.length = cntL p ∧ 0 ≤ inst ∧ inst < T.length ∧ (side = 1 ∨ side = 2))) : allQ p T inst side = [] := by
  unfold allQ
  rw [if_neg]
  intro e
  exact h ((askB_iff _ _ _ _).1 e)
set_option maxRecDepth 100000 in
set_option maxHeartbeats 8000000 in
theorem RAll1 (p : PD) (AT : Option Addr) (nT cT : Nat) (T : List Tp) (inst : Nat) (w : World) (hp : Hid (p.Ok w)) (hT : Hid (HV fTp w AT nT T)) (hOT : Hid (OkT T)) (hz : chk p = 0) (hn : nT = cntL p) (hi : inst < nT) :
    Calls Try.prog 24 #[p.val, .slice AT nT cT, .int .i64 (inst : Int), .int .i64 1] w (AnsQ w.heap.size w (allQ p T (inst : Int) 1)) := by
  have hlT := hT.out.1
  have hA : allQ p T (inst : Int) 1 = if (legsL p (inst : Int)).2.2 = true then joinQ T (legsL p (inst : Int)).1 1 (legsL p (inst : Int)).2.1 (3 - 1) (-1) else laterQ p T (inst : Int) 1 (p.n1 - ((inst : Int).toNat + 1)) ((inst : Int) + 1) ++ earlierQ p T (inst : Int) 1 (inst : Int).toNat 0 := by
    unfold allQ
    rw [if_pos ((askB_iff _ _ _ _).2 ⟨hz, by rw [hlT]; exact hn, by omega, by rw [hlT]; omega, by omega⟩)]
  rw [Int.toNat_natCast] at hA
  obtain ⟨-, i, j, hleg, hi1, hj1⟩ := legs_range (p := p) (inst := (inst : Int)) (by omega) (by omega)
  have hz2 := chk_zero hz
  have hcnt : p.n1 ≤ cntL p ∧ cntL p ≤ 21 := ⟨by unfold cntL; rw [if_pos hz]; omega, cntL_le p⟩
  rw [hleg] at hA
  simp only at hA
  obtain ⟨RQ, hR⟩ : ∃ RQ, allQ p T (inst : Int) 1 = RQ := ⟨_, rfl⟩
  rw [hR] at hA ⊢
  clear hR
  have HC : Hid (∀ W, Below w.heap.size w W → Calls Try.prog 43 #[p.val] W fun e w' => e = .returned (.int .i64 0) ∧ Below W.heap.size W w') := Lib.hid (fun W b => by have := RefCheck_any p W (Lib.hid (hp.out.below b)); rw [hz] at this; exact this)
  have HN : Hid (∀ W, Below w.heap.size w W → Calls Try.prog 36 #[p.val] W fun e w' => e = .returned (.int .i64 (nT : Int)) ∧ Below W.heap.size W w') := Lib.hid (fun W b => by have := RefCount_any p W (Lib.hid (hp.out.below b)); rw [← hn] at this; exact this)
  have HL : Hid (∀ W, Below w.heap.size w W → Calls Try.prog 44 #[p.val, .int .i64 (inst : Int)] W fun e w' => e = .returned (.tuple #[.int .i64 (i : Int), .int .i64 (j : Int), .bool (decide ((p.n1 : Int) ≤ (inst : Int)))]) ∧ Below W.heap.size W w') := Lib.hid (fun W b => by have := RefLegs_any p (inst : Int) W (Lib.hid (hp.out.below b)) ⟨by omega, by omega⟩; rw [hleg] at this; exact this)
  have HS : Hid (∀ (W : World) (near far : Nat), near ≤ 1000 → far ≤ 1000 → Below w.heap.size w W → ∃ s : Nat, (spreadI p (near : Int) (far : Int)).1 = (s : Int) ∧ s < nT ∧ ∃ b : Bool, Calls Try.prog 47 #[p.val, .int .i64 (near : Int), .int .i64 (far : Int)] W fun e w' => e = .returned (.tuple #[.int .i64 (s : Int), .bool b]) ∧ Below W.heap.size W w') := Lib.hid (fun W near far h1 h2 b => by
    obtain ⟨s, e, hs⟩ := spreadI_range hz (near : Int) (far : Int)
    refine ⟨s, e, by omega, (spreadI p (near : Int) (far : Int)).2, ?_⟩
    have := RefSpreads_any p (near : Int) (far : Int) W (Lib.hid (hp.out.below b)) ⟨by omega, by omega⟩ ⟨by omega, by omega⟩
    rw [e] at this
    exact this)
  have TW : Hid (∀ W, Below w.heap.size w W → HV fTp W AT nT T) := Lib.hid (fun W b => hT.out.below b)
  obtain ⟨nn, enn⟩ : ∃ nn, p.n1 = nn := ⟨_, rfl⟩
  have hn1 : p.n1 ≤ 6 := hz2.2
  rw [enn] at hn1 hA hcnt hi1 hj1
  obtain ⟨LF, eLF⟩ : ∃ f : Nat → List Qt, (fun d => laterQ p T (inst : Int) 1 d ((inst : Int) + 1)) = f := ⟨_, rfl⟩
  obtain ⟨EF, eEF⟩ : ∃ f : Nat → List Qt, (fun d => earlierQ p T (inst : Int) 1 d 0) = f := ⟨_, rfl⟩
  have hA2 : Hid (RQ = if decide ((nn : Int) ≤ (inst : Int)) = true then joinQ T (i : Int) 1 (j : Int) (3 - 1) (-1) else LF (nn - (inst + 1)) ++ EF inst) := Lib.hid (by rw [hA, ← eLF, ← eEF])
  have LF0 : Hid (LF 0 = []) := Lib.hid (by rw [← eLF]; rfl)
  have EF0 : Hid (EF 0 = []) := Lib.hid (by rw [← eEF]; rfl)
  have LFl : Hid (∀ d, (LF d).length ≤ d) := Lib.hid (fun d => by rw [← eLF]; exact laterQ_len p T (inst : Int) 1 d _)
  have EFl : Hid (∀ d, (EF d).length ≤ d) := Lib.hid (fun d => by rw [← eEF]; exact earlierQ_len p T (inst : Int) 1 d _)
  have st1 : Hid (∀ (W : World) (d nL cL : Nat) (AL : Option Addr), OutQ w.heap.size W (.slice AL nL cL) (LF d) → inst + 1 + d < nn → Below w.heap.size w W → ∃ (x : Nat) (b : Bool), Calls Try.prog 47 #[p.val, .int .i64 (inst : Int), .int .i64 ((inst + 1 + d : Nat) : Int)] W (fun e w' => e = .returned (.tuple #[.int .i64 (x : Int), .bool b]) ∧ Below W.heap.size W w') ∧ ∀ W', OutQ w.heap.size W' (.slice AL nL cL) (LF d) → Below w.heap.size w W' → Calls Try.prog 45 #[p.val, .slice AT nT cT, .int .i64 (inst : Int), .slice AL nL cL, .agg #[.int .i64 (x : Int), .int .i64 1], .agg #[.int .i64 ((inst + 1 + d : Nat) : Int), .int .i64 1], .int .i64 1] W' (AnsQ w.heap.size W' (LF (d + 1)))) := Lib.hid (fun W d nL cL AL ho hd bw => by
    obtain ⟨x, e, hx, b, hc⟩ := HS.out W inst (inst + 1 + d) (by omega) (by omega) bw
    refine ⟨x, b, hc, fun W' ho' bw' => ?_⟩
    have hsn : LF (d + 1) = LF d ++ joinQ T (x : Int) 1 ((inst + 1 + d : Nat) : Int) 1 1 := by
      rw [← eLF]
      show laterQ p T (inst : Int) 1 (d + 1) ((inst : Int) + 1) = laterQ p T (inst : Int) 1 d ((inst : Int) + 1) ++ _
      rw [laterQ_snoc, show (inst : Int) + 1 + (d : Int) = ((inst + 1 + d : Nat) : Int) by omega, e]
    rw [hsn]
    obtain ⟨A', n', c', e', hv, q1, q2, q3, q4⟩ := ho'
    injection e' with e1 e2 e3
    subst e1; subst e2; subst e3
    have := hv.1
    have := LFl.out d
    exact RJoinAdd p AT nT cT T (inst : Int) AL nL cL (LF d) x 0 (inst + 1 + d) 0 W' w.heap.size (Lib.hid (TW.out W' bw')) hOT (Lib.hid hv) q1 q2 (Lib.hid q3) (Lib.hid q4) bw'.size (by omega) (by omega) (by omega) (by omega) (by omega) (by omega))
  have st2 : Hid (∀ (W : World) (d nL cL : Nat) (AL : Option Addr), OutQ w.heap.size W (.slice AL nL cL) (LF (nn - (inst + 1)) ++ EF d) → d < inst → inst < nn → Below w.heap.size w W → ∃ (x : Nat) (b : Bool), Calls Try.prog 47 #[p.val, .int .i64 (d : Int), .int .i64 (inst : Int)] W (fun e w' => e = .returned (.tuple #[.int .i64 (x : Int), .bool b]) ∧ Below W.heap.size W w') ∧ ∀ W', OutQ w.heap.size W' (.slice AL nL cL) (LF (nn - (inst + 1)) ++ EF d) → Below w.heap.size w W' → Calls Try.prog 45 #[p.val, .slice AT nT cT, .int .i64 (inst : Int), .slice AL nL cL, .agg #[.int .i64 (x : Int), .int .i64 2], .agg #[.int .i64 (d : Int), .int .i64 1], .int .i64 0] W' (AnsQ w.heap.size W' (LF (nn - (inst + 1)) ++ EF (d + 1)))) := Lib.hid (fun W d nL cL AL ho hd hin bw => by
    obtain ⟨x, e, hx, b, hc⟩ := HS.out W d inst (by omega) (by omega) bw
    refine ⟨x, b, hc, fun W' ho' bw' => ?_⟩
    have hsn : EF (d + 1) = EF d ++ joinQ T (x : Int) 2 (d : Int) 1 0 := by
      rw [← eEF]
      show earlierQ p T (inst : Int) 1 (d + 1) 0 = earlierQ p T (inst : Int) 1 d 0 ++ _
      rw [earlierQ_snoc, show (0 : Int) + (d : Int) = (d : Int) by omega, e]
      rfl
    rw [hsn, ← List.append_assoc]
    obtain ⟨A', n', c', e', hv, q1, q2, q3, q4⟩ := ho'
    injection e' with e1 e2 e3
    subst e1; subst e2; subst e3
    have hv1 := hv.1
    have z1 := LFl.out (nn - (inst + 1))
    have z2 := EFl.out d
    rw [List.length_append] at hv1
    exact RJoinBack p AT nT cT T (inst : Int) AL nL cL (LF (nn - (inst + 1)) ++ EF d) x 1 d 0 W' w.heap.size (Lib.hid (TW.out W' bw')) hOT (Lib.hid hv) q1 q2 (Lib.hid q3) (Lib.hid q4) bw'.size (by omega) (by omega) (by omega) (by omega) (by omega) (by omega))
  have HJm : Hid (∀ (W : World), Below w.heap.size w W → Calls Try.prog 45 #[p.val, .slice AT nT cT, .int .i64 (inst : Int), .slice none 0 0, .agg #[.int .i64 (i : Int), .int .i64 1], .agg #[.int .i64 (j : Int), .int .i64 2], .int .i64 (-1)] W (AnsQ w.heap.size W (joinQ T (i : Int) 1 (j : Int) 2 (-1)))) := Lib.hid (fun W bw => by
    exact RJoinLess p AT nT cT T (inst : Int) none 0 0 [] i 0 j 1 W w.heap.size (Lib.hid (TW.out W bw)) hOT (Lib.hid (hv_nil _ _)) (Nat.le_refl _) (by omega) (Lib.hid (fun _ => rfl)) (Lib.hid (fun _ e => by cases e)) bw.size (by omega) (by omega) (by omega) (by omega) (by omega) (by omega))
  clear HS TW hA eLF eEF hp hT hOT hleg hz hlT hn hcnt
  obtain ⟨code, A1, n1, c1, tick, low, high, wide, rule, top, least, part, A2, n2, c2, Q, R⟩ := p
  have enn' : n1 = nn := enn
  subst enn'
  clear enn
  replace HC : Hid (∀ W, Below w.heap.size w W → Calls Try.prog 43 #[.agg #[.string (str code), .slice A1 n1 c1, .int .i64 tick, .int .i64 low, .int .i64 high, .int .i64 wide, .int .i64 rule, .int .i64 top, .int .i64 least, .int .i64 part, .slice A2 n2 c2]] W fun e w' => e = .returned (.int .i64 0) ∧ Below W.heap.size W w') := HC
  replace HN : Hid (∀ W, Below w.heap.size w W → Calls Try.prog 36 #[.agg #[.string (str code), .slice A1 n1 c1, .int .i64 tick, .int .i64 low, .int .i64 high, .int .i64 wide, .int .i64 rule, .int .i64 top, .int .i64 least, .int .i64 part, .slice A2 n2 c2]] W fun e w' => e = .returned (.int .i64 (nT : Int)) ∧ Below W.heap.size W w') := HN
  replace HL : Hid (∀ W, Below w.heap.size w W → Calls Try.prog 44 #[.agg #[.string (str code), .slice A1 n1 c1, .int .i64 tick, .int .i64 low, .int .i64 high, .int .i64 wide, .int .i64 rule, .int .i64 top, .int .i64 least, .int .i64 part, .slice A2 n2 c2], .int .i64 (inst : Int)] W fun e w' => e = .returned (.tuple #[.int .i64 (i : Int), .int .i64 (j : Int), .bool (decide ((n1 : Int) ≤ (inst : Int)))]) ∧ Below W.heap.size W w') := HL
  replace st1 : Hid (∀ (W : World) (d nL cL : Nat) (AL : Option Addr), OutQ w.heap.size W (.slice AL nL cL) (LF d) → inst + 1 + d < n1 → Below w.heap.size w W → ∃ (x : Nat) (b : Bool), Calls Try.prog 47 #[.agg #[.string (str code), .slice A1 n1 c1, .int .i64 tick, .int .i64 low, .int .i64 high, .int .i64 wide, .int .i64 rule, .int .i64 top, .int .i64 least, .int .i64 part, .slice A2 n2 c2], .int .i64 (inst : Int), .int .i64 ((inst + 1 + d : Nat) : Int)] W (fun e w' => e = .returned (.tuple #[.int .i64 (x : Int), .bool b]) ∧ Below W.heap.size W w') ∧ ∀ W', OutQ w.heap.size W' (.slice AL nL cL) (LF d) → Below w.heap.size w W' → Calls Try.prog 45 #[.agg #[.string (str code), .slice A1 n1 c1, .int .i64 tick, .int .i64 low, .int .i64 high, .int .i64 wide, .int .i64 rule, .int .i64 top, .int .i64 least, .int .i64 part, .slice A2 n2 c2], .slice AT nT cT, .int .i64 (inst : Int), .slice AL nL cL, .agg #[.int .i64 (x : Int), .int .i64 1], .agg #[.int .i64 ((inst + 1 + d : Nat) : Int), .int .i64 1], .int .i64 1] W' (AnsQ w.heap.size W' (LF (d + 1)))) := st1
  replace st2 : Hid (∀ (W : World) (d nL cL : Nat) (AL : Option Addr), OutQ w.heap.size W (.slice AL nL cL) (LF (n1 - (inst + 1)) ++ EF d) → d < inst → inst < n1 → Below w.heap.size w W → ∃ (x : Nat) (b : Bool), Calls Try.prog 47 #[.agg #[.string (str code), .slice A1 n1 c1, .int .i64 tick, .int .i64 low, .int .i64 high, .int .i64 wide, .int .i64 rule, .int .i64 top, .int .i64 least, .int .i64 part, .slice A2 n2 c2], .int .i64 (d : Int), .int .i64 (inst : Int)] W (fun e w' => e = .returned (.tuple #[.int .i64 (x : Int), .bool b]) ∧ Below W.heap.size W w') ∧ ∀ W', OutQ w.heap.size W' (.slice AL nL cL) (LF (n1 - (inst + 1)) ++ EF d) → Below w.heap.size w W' → Calls Try.prog 45 #[.agg #[.string (str code), .slice A1 n1 c1, .int .i64 tick, .int .i64 low, .int .i64 high, .int .i64 wide, .int .i64 rule, .int .i64 top, .int .i64 least, .int .i64 part, .slice A2 n2 c2], .slice AT nT cT, .int .i64 (inst : Int), .slice AL nL cL, .agg #[.int .i64 (x : Int), .int .i64 2], .agg #[.int .i64 (d : Int), .int .i64 1], .int .i64 0] W' (AnsQ w.heap.size W' (LF (n1 - (inst + 1)) ++ EF (d + 1)))) := st2
  replace HJm : Hid (∀ (W : World), Below w.heap.size w W → Calls Try.prog 45 #[.agg #[.string (str code), .slice A1 n1 c1, .int .i64 tick, .int .i64 low, .int .i64 high, .int .i64 wide, .int .i64 rule, .int .i64 top, .int .i64 least, .int .i64 part, .slice A2 n2 c2], .slice AT nT cT, .int .i64 (inst : Int), .slice none 0 0, .agg #[.int .i64 (i : Int), .int .i64 1], .agg #[.int .i64 (j : Int), .int .i64 2], .int .i64 (-1)] W (AnsQ w.heap.size W (joinQ T (i : Int) 1 (j : Int) 2 (-1)))) := HJm
  show Calls Try.prog 24 #[.agg #[.string (str code), .slice A1 n1 c1, .int .i64 tick, .int .i64 low, .int .i64 high, .int .i64 wide, .int .i64 rule, .int .i64 top, .int .i64 least, .int .i64 part, .slice A2 n2 c2], .slice AT nT cT, .int .i64 (inst : Int), .int .i64 1] w _
  obtain ⟨W0, eW0⟩ : ∃ W0, w.alloc (.cells #[.string (str code), .slice A1 n1 c1, .int .i64 tick, .int .i64 low, .int .i64 high, .int .i64 wide, .int .i64 rule, .int .i64 top, .int .i64 least, .int .i64 part, .slice A2 n2 c2] 25) = W0 := ⟨_, rfl⟩
  obtain ⟨g, eg⟩ : ∃ g, w.heap.size = g := ⟨_, rfl⟩
  have hblk0 : W0.heap[g]? = some (.cells #[.string (str code), .slice A1 n1 c1, .int .i64 tick, .int .i64 low, .int .i64 high, .int .i64 wide, .int .i64 rule, .int .i64 top, .int .i64 least, .int .i64 part, .slice A2 n2 c2] 25 (0, 0)) := by rw [← eW0, ← eg]; exact heap_alloc_new w _
  have b00 : Below w.heap.size w W0 := by rw [← eW0]; exact (Below.refl _ w).alloc (Nat.le_refl _) _
  have KK : Hid (∀ W, Below W0.heap.size W0 W → W.heap[g]? = some (.cells #[.string (str code), .slice A1 n1 c1, .int .i64 tick, .int .i64 low, .int .i64 high, .int .i64 wide, .int .i64 rule, .int .i64 top, .int .i64 least, .int .i64 part, .slice A2 n2 c2] 25 (0, 0))) := Lib.hid (fun W b => (b.block g (Array.getElem?_eq_some_iff.1 hblk0).1).trans hblk0)
  have BW : Hid (∀ W, Below W0.heap.size W0 W → Below w.heap.size w W) := Lib.hid (fun W b => b00.trans (b.mono b00.size))
  obtain ⟨a0, a1, a2, a3, a4, a5, a6, a7, a8, a9, a10⟩ := row11 (heap_alloc_new w (.cells #[.string (str code), .slice A1 n1 c1, .int .i64 tick, .int .i64 low, .int .i64 high, .int .i64 wide, .int .i64 rule, .int .i64 top, .int .i64 least, .int .i64 part, .slice A2 n2 c2] 25))
  replace eW0 := Lib.hid eW0
  replace eg := Lib.hid eg
  clear hblk0 b00
  have B0 := Lib.hid (Below.refl W0.heap.size W0)
  have dn : ((nT : Int) != (nT : Int)) = false := by simp
  have di1 : decide ((inst : Int) < 0) = false := decide_eq_false (by omega)
  have di2 : decide ((nT : Int) ≤ (inst : Int)) = false := decide_eq_false (by omega)
  have di3 : decide (nT ≤ inst) = false := decide_eq_false (by omega)
  have bl := Lib.hid build_leg
  go_enter Try.func24, Try.ntmps24
  go_wp2_with fail
  rw [eW0.out, eg.out]
  clear a0 a1 a2 a3 a4 a5 a6 a7 a8 a9 a10 eW0
  refine (HC.out W0 (BW.out _ B0.out)).mono ?_
  rintro e w1 ⟨rfl, bb⟩
  have B1 := Lib.hid (below_up B0.out bb)
  obtain ⟨k0, k1, k2, k3, k4, k5, k6, k7, k8, k9, k10⟩ := row11 (KK.out _ B1.out)
  clear bb B0 HC
  go_wp2_with fail
  refine (HN.out w1 (BW.out _ B1.out)).mono ?_
  rintro e w2 ⟨rfl, bb⟩
  have B2 := Lib.hid (below_up B1.out bb)
  clear k0 k1 k2 k3 k4 k5 k6 k7 k8 k9 k10 bb B1 HN
  obtain ⟨k0, k1, k2, k3, k4, k5, k6, k7, k8, k9, k10⟩ := row11 (KK.out _ B2.out)
  go_wp2_with fail
  refine (HL.out w2 (BW.out _ B2.out)).mono ?_
  rintro e w3 ⟨rfl, bb⟩
  have B3 := Lib.hid (below_up B2.out bb)
  clear k0 k1 k2 k3 k4 k5 k6 k7 k8 k9 k10 bb B2 HL dn di1 di2 di3
  by_cases hsp : (n1 : Int) ≤ (inst : Int)
  · have dsp : decide ((n1 : Int) ≤ (inst : Int)) = true := decide_eq_true hsp
    rw [dsp] at hA2 ⊢
    have bl1 := bl.out (i : Int) 1
    have bl2 := bl.out (j : Int) 2
    have hR : Hid (RQ = joinQ T (i : Int) 1 (j : Int) 2 (-1)) := Lib.hid (by rw [hA2.out, if_pos rfl]; rfl)
    obtain ⟨k0, k1, k2, k3, k4, k5, k6, k7, k8, k9, k10⟩ := row11 ((KK.out _ B3.out))
    have z0 : (fun W : World => W.cell? ⟨g, 0, none⟩ = some (.string (str code)) ∧ W.cell? ⟨g, 1, none⟩ = some (.slice A1 n1 c1) ∧ W.cell? ⟨g, 2, none⟩ = some (.int .i64 tick) ∧ W.cell? ⟨g, 3, none⟩ = some (.int .i64 low) ∧ W.cell? ⟨g, 4, none⟩ = some (.int .i64 high) ∧ W.cell? ⟨g, 5, none⟩ = some (.int .i64 wide) ∧ W.cell? ⟨g, 6, none⟩ = some (.int .i64 rule) ∧ W.cell? ⟨g, 7, none⟩ = some (.int .i64 top) ∧ W.cell? ⟨g, 8, none⟩ = some (.int .i64 least) ∧ W.cell? ⟨g, 9, none⟩ = some (.int .i64 part) ∧ W.cell? ⟨g, 10, none⟩ = some (.slice A2 n2 c2) ∧ Below w3.heap.size w3 W) w3.drew := ⟨k0, k1, k2, k3, k4, k5, k6, k7, k8, k9, k10, (Below.refl _ w3).drew⟩
    clear k0 k1 k2 k3 k4 k5 k6 k7 k8 k9 k10 hA2
    go_upto_region 5 with (fail)
    refine wp_region_held_drew (S := (fun W : World => W.cell? ⟨g, 0, none⟩ = some (.string (str code)) ∧ W.cell? ⟨g, 1, none⟩ = some (.slice A1 n1 c1) ∧ W.cell? ⟨g, 2, none⟩ = some (.int .i64 tick) ∧ W.cell? ⟨g, 3, none⟩ = some (.int .i64 low) ∧ W.cell? ⟨g, 4, none⟩ = some (.int .i64 high) ∧ W.cell? ⟨g, 5, none⟩ = some (.int .i64 wide) ∧ W.cell? ⟨g, 6, none⟩ = some (.int .i64 rule) ∧ W.cell? ⟨g, 7, none⟩ = some (.int .i64 top) ∧ W.cell? ⟨g, 8, none⟩ = some (.int .i64 least) ∧ W.cell? ⟨g, 9, none⟩ = some (.int .i64 part) ∧ W.cell? ⟨g, 10, none⟩ = some (.slice A2 n2 c2) ∧ Below w3.heap.size w3 W)) (by kernel_rfl) z0 (fun hHeld => ?_)
    have hSof : Hid (∀ W W' : World, (fun W : World => W.cell? ⟨g, 0, none⟩ = some (.string (str code)) ∧ W.cell? ⟨g, 1, none⟩ = some (.slice A1 n1 c1) ∧ W.cell? ⟨g, 2, none⟩ = some (.int .i64 tick) ∧ W.cell? ⟨g, 3, none⟩ = some (.int .i64 low) ∧ W.cell? ⟨g, 4, none⟩ = some (.int .i64 high) ∧ W.cell? ⟨g, 5, none⟩ = some (.int .i64 wide) ∧ W.cell? ⟨g, 6, none⟩ = some (.int .i64 rule) ∧ W.cell? ⟨g, 7, none⟩ = some (.int .i64 top) ∧ W.cell? ⟨g, 8, none⟩ = some (.int .i64 least) ∧ W.cell? ⟨g, 9, none⟩ = some (.int .i64 part) ∧ W.cell? ⟨g, 10, none⟩ = some (.slice A2 n2 c2) ∧ Below w3.heap.size w3 W) W → Below W.heap.size W W' → (fun W : World => W.cell? ⟨g, 0, none⟩ = some (.string (str code)) ∧ W.cell? ⟨g, 1, none⟩ = some (.slice A1 n1 c1) ∧ W.cell? ⟨g, 2, none⟩ = some (.int .i64 tick) ∧ W.cell? ⟨g, 3, none⟩ = some (.int .i64 low) ∧ W.cell? ⟨g, 4, none⟩ = some (.int .i64 high) ∧ W.cell? ⟨g, 5, none⟩ = some (.int .i64 wide) ∧ W.cell? ⟨g, 6, none⟩ = some (.int .i64 rule) ∧ W.cell? ⟨g, 7, none⟩ = some (.int .i64 top) ∧ W.cell? ⟨g, 8, none⟩ = some (.int .i64 least) ∧ W.cell? ⟨g, 9, none⟩ = some (.int .i64 part) ∧ W.cell? ⟨g, 10, none⟩ = some (.slice A2 n2 c2) ∧ Below w3.heap.size w3 W) W') := Lib.hid (fun W W' hs b => ⟨(b.cell (World.block_lt_of_cell? W _ hs.1)).trans hs.1, (b.cell (World.block_lt_of_cell? W _ hs.2.1)).trans hs.2.1, (b.cell (World.block_lt_of_cell? W _ hs.2.2.1)).trans hs.2.2.1, (b.cell (World.block_lt_of_cell? W _ hs.2.2.2.1)).trans hs.2.2.2.1, (b.cell (World.block_lt_of_cell? W _ hs.2.2.2.2.1)).trans hs.2.2.2.2.1, (b.cell (World.block_lt_of_cell? W _ hs.2.2.2.2.2.1)).trans hs.2.2.2.2.2.1, (b.cell (World.block_lt_of_cell? W _ hs.2.2.2.2.2.2.1)).trans hs.2.2.2.2.2.2.1, (b.cell (World.block_lt_of_cell? W _ hs.2.2.2.2.2.2.2.1)).trans hs.2.2.2.2.2.2.2.1, (b.cell (World.block_lt_of_cell? W _ hs.2.2.2.2.2.2.2.2.1)).trans hs.2.2.2.2.2.2.2.2.1, (b.cell (World.block_lt_of_cell? W _ hs.2.2.2.2.2.2.2.2.2.1)).trans hs.2.2.2.2.2.2.2.2.2.1, (b.cell (World.block_lt_of_cell? W _ hs.2.2.2.2.2.2.2.2.2.2.1)).trans hs.2.2.2.2.2.2.2.2.2.2.1, hs.2.2.2.2.2.2.2.2.2.2.2.trans (b.mono hs.2.2.2.2.2.2.2.2.2.2.2.size)⟩)
    refine wpAnyH_take (i := 0) (v := .agg #[.string (str code), .slice A1 n1 c1, .int .i64 tick, .int .i64 low, .int .i64 high, .int .i64 wide, .int .i64 rule, .int .i64 top, .int .i64 least, .int .i64 part, .slice A2 n2 c2]) rfl (by kernel_rfl) (by kernel_rfl) (by kernel_rfl) (fun _ _ _ h => h) (Or.inl ⟨by kernel_rfl, fun W hSw => ?_⟩) (by assumption) ?_
    · (try dsimp only at hSw)
      go_simp
    (try simp only [Act.put, List.setIfInBounds_toArray, List.set_cons_zero, List.set_cons_succ])
    refine wpAnyH_take (i := 1) (v := .slice AT nT cT) rfl (by kernel_rfl) (by kernel_rfl) (by kernel_rfl) (fun _ _ _ h => h) (Or.inl ⟨by kernel_rfl, fun W hSw => ?_⟩) (by assumption) ?_
    · (try dsimp only at hSw)
      go_simp
    (try simp only [Act.put, List.setIfInBounds_toArray, List.set_cons_zero, List.set_cons_succ])
    refine wpAnyH_take (i := 2) (v := .int .i64 (inst : Int)) rfl (by kernel_rfl) (by kernel_rfl) (by kernel_rfl) (fun _ _ _ h => h) (Or.inl ⟨by kernel_rfl, fun W hSw => ?_⟩) (by assumption) ?_
    · (try dsimp only at hSw)
      go_simp
    (try simp only [Act.put, List.setIfInBounds_toArray, List.set_cons_zero, List.set_cons_succ])
    refine wpAnyH_take (i := 3) (v := .int .i64 (i : Int)) rfl (by kernel_rfl) (by kernel_rfl) (by kernel_rfl) (fun _ _ _ h => h) (Or.inl ⟨by kernel_rfl, fun W hSw => ?_⟩) (by assumption) ?_
    · (try dsimp only at hSw)
      go_simp
    (try simp only [Act.put, List.setIfInBounds_toArray, List.set_cons_zero, List.set_cons_succ])
    refine wpAnyH_take (i := 4) (v := .int .i64 1) rfl (by kernel_rfl) (by kernel_rfl) (by kernel_rfl) (fun _ _ _ h => h) (Or.inl ⟨by kernel_rfl, fun W hSw => ?_⟩) (by assumption) ?_
    · (try dsimp only at hSw)
      go_simp
    (try simp only [Act.put, List.setIfInBounds_toArray, List.set_cons_zero, List.set_cons_succ])
    refine wpAnyH_take (i := 5) (v := .agg #[.int .i64 (i : Int), .int .i64 1]) rfl (by kernel_rfl) (by kernel_rfl) (by kernel_rfl) (fun _ _ _ h => h) (Or.inl ⟨by kernel_rfl, fun W hSw => ?_⟩) (by assumption) ?_
    · (try dsimp only at hSw)
      go_simp
    (try simp only [Act.put, List.setIfInBounds_toArray, List.set_cons_zero, List.set_cons_succ])
    refine wpAnyH_take (i := 6) (v := .int .i64 (j : Int)) rfl (by kernel_rfl) (by kernel_rfl) (by kernel_rfl) (fun _ _ _ h => h) (Or.inl ⟨by kernel_rfl, fun W hSw => ?_⟩) (by assumption) ?_
    · (try dsimp only at hSw)
      go_simp
    (try simp only [Act.put, List.setIfInBounds_toArray, List.set_cons_zero, List.set_cons_succ])
    refine wpAnyH_take (i := 7) (v := .int .i64 1) rfl (by kernel_rfl) (by kernel_rfl) (by kernel_rfl) (fun _ _ _ h => h) (Or.inl ⟨by kernel_rfl, fun W hSw => ?_⟩) (by assumption) ?_
    · (try dsimp only at hSw)
      go_simp
    (try simp only [Act.put, List.setIfInBounds_toArray, List.set_cons_zero, List.set_cons_succ])
    refine wpAnyH_ready (rs := [8]) (by kernel_rfl) (by simp) ?_
    refine AllReadyH.cons rfl (fun K hK => ?_) AllReadyH.nil
    go_simp
    refine (ROther_any 1 w3.drew (by omega) (by omega)).mono ?_
    rintro e ux ⟨rfl, rfl⟩
    have z1 := z0
    go_wp2_with fail
    refine hK.out _ _ z1 (fun hHeld => ?_)
    clear hK K
    (try simp only [Act.put, List.setIfInBounds_toArray, List.set_cons_zero, List.set_cons_succ])
    refine wpAnyH_take (i := 9) (v := .agg #[.int .i64 (j : Int), .int .i64 2]) rfl (by kernel_rfl) (by kernel_rfl) (by kernel_rfl) (fun _ _ _ h => h) (Or.inl ⟨by kernel_rfl, fun W hSw => ?_⟩) (by assumption) ?_
    · (try dsimp only at hSw)
      go_simp
    (try simp only [Act.put, List.setIfInBounds_toArray, List.set_cons_zero, List.set_cons_succ])
    refine wpAnyH_ready (rs := [10]) (by kernel_rfl) (by simp) ?_
    refine AllReadyH.cons rfl (fun K hK => ?_) AllReadyH.nil
    go_simp
    refine (HJm.out w3.drew (BW.out _ (B3.out.drew))).mono ?_
    rintro e w5 ha
    obtain ⟨v5, rfl, ho, b5⟩ := ha.out
    have z5 := hSof.out _ _ z1 b5
    clear ha
    go_wp2_with fail
    refine hK.out _ _ z5 (fun hHeld => ?_)
    clear hK K
    (try simp only [Act.put, List.setIfInBounds_toArray, List.set_cons_zero, List.set_cons_succ])
    refine wpAnyH_take (i := 11) (v := v5) rfl (by kernel_rfl) (by kernel_rfl) (by kernel_rfl) (fun _ _ _ h => h) (Or.inl ⟨by kernel_rfl, fun W hSw => ?_⟩) (by assumption) ?_
    · (try dsimp only at hSw)
      go_simp
    (try simp only [Act.put, List.setIfInBounds_toArray, List.set_cons_zero, List.set_cons_succ])
    refine wpAnyH_done (by kernel_rfl) ?_ _
    (try simp only [List.getElem_toArray, List.getElem_cons_succ, List.getElem_cons_zero, Act.put, List.setIfInBounds_toArray, List.set_cons_zero, List.set_cons_succ])
    have fin : Hid (AnsQ w.heap.size w RQ (.returned v5) w5) := Lib.hid (by
      obtain ⟨A, n, c, e, hv, q1, q2, q3, q4⟩ := ho
      rw [e, hR.out]
      exact ⟨A, n, c, rfl, hv, q1, q2, q3, q4, BW.out _ (below_up (B3.out.drew) b5)⟩)
    clear hHeld z5 ho b5
    go_wp2_with fail
    go_ret
    exact fin.out
  · have dsp : decide ((n1 : Int) ≤ (inst : Int)) = false := decide_eq_false hsp
    rw [dsp] at hA2 ⊢
    have hin : inst < n1 := by omega
    obtain ⟨K, eK⟩ : ∃ K, n1 - (inst + 1) = K := ⟨_, rfl⟩
    have hR : Hid (RQ = LF K ++ EF inst) := Lib.hid (by rw [hA2.out, if_neg (by simp), eK])
    rw [eK] at st2
    replace eK := Lib.hid eK
    have hO0 : Hid (OutQ w.heap.size w3 (.slice none 0 0) (LF 0)) := Lib.hid (by rw [LF0.out]; exact outQ_nil _ _)
    clear hA2 HJm
    obtain ⟨k0, k1, k2, k3, k4, k5, k6, k7, k8, k9, k10⟩ := row11 (KK.out _ B3.out)
    go_wp2_with fail
    clear k0 k1 k2 k3 k4 k5 k6 k7 k8 k9 k10
    go_loopw [12, 13] (fun u iv wr => ∃ (d mm : Nat), iv = .int .i64 (mm : Int) ∧ mm = inst + 1 + d ∧ mm ≤ n1 ∧ Hid (OutQ w.heap.size wr u (LF d)) ∧ Hid (Below W0.heap.size W0 wr)) (fun _ iv _ => (n1 - intOf iv).toNat)
    case atStart => exact ⟨0, inst + 1, by go_num, by omega, by omega, hO0, B3⟩
    case round =>
      clear hO0 B3
      obtain ⟨d, mm, rfl, hmm, hle, hO, hB⟩ := hrel
      obtain ⟨k0, k1, k2, k3, k4, k5, k6, k7, k8, k9, k10⟩ := row11 (KK.out _ hB.out)
      obtain ⟨A5, n5, c5, rfl, -⟩ := hO.out
      by_cases hlt : mm < n1
      · have d1 : decide ((mm : Int) < (n1 : Int)) = true := decide_eq_true (by omega)
        obtain ⟨x, b, hc, hj⟩ := st1.out wr d n5 c5 A5 hO.out (by omega) (BW.out _ hB.out)
        rw [← hmm] at hc hj
        have hm1 : mm + 1 ≤ n1 := by omega
        have hm2 : Hid (mm + 1 = inst + 1 + (d + 1)) := Lib.hid (by omega)
        clear hmm hle hlt
        have bl1 := bl.out (x : Int) 1
        have bl2 := bl.out (mm : Int) 1
        replace hc := Lib.hid hc
        replace hj := Lib.hid hj
        go_wp2_with fail
        refine hc.out.mono ?_
        rintro e w4 ⟨rfl, bb⟩
        have B4 := Lib.hid (below_up hB.out bb)
        have ho4 := Lib.hid (hO.out.below bb)
        clear k0 k1 k2 k3 k4 k5 k6 k7 k8 k9 k10 bb hc hO hB
        obtain ⟨k0, k1, k2, k3, k4, k5, k6, k7, k8, k9, k10⟩ := row11 (KK.out _ B4.out)
        go_wp2_with fail
        refine (hj.out w4 ho4.out (BW.out _ B4.out)).mono ?_
        rintro e w5 ha
        obtain ⟨v5, rfl, ho5, b5⟩ := ha.out
        have ho5' := Lib.hid ho5
        have B5 := Lib.hid (below_up B4.out b5)
        clear k0 k1 k2 k3 k4 k5 k6 k7 k8 k9 k10 ha ho5 b5 ho4 B4 hj bl1 bl2
        go_wp2_with fail
        go_roundw
        case rel => exact ⟨d + 1, mm + 1, by go_num, hm2.out, hm1, ho5', B5⟩
        case measure => simp [intOf]; omega
      · obtain rfl : n1 = mm := by omega
        have d1 : decide ((n1 : Int) < (n1 : Int)) = false := by simp
        have edK : d = K := by have := eK.out; omega
        rw [edK] at hO
        have hO2 : Hid (OutQ w.heap.size wr (.slice A5 n5 c5) (LF K ++ EF 0)) := Lib.hid (by rw [EF0.out, List.append_nil]; exact hO.out)
        clear edK hmm hle hlt
        go_wp2_with fail
        clear k0 k1 k2 k3 k4 k5 k6 k7 k8 k9 k10
        go_loopw [12, 16] (fun u iv wr => ∃ (t : Nat), iv = .int .i64 (t : Int) ∧ t ≤ inst ∧ Hid (OutQ w.heap.size wr u (LF K ++ EF t)) ∧ Hid (Below W0.heap.size W0 wr)) (fun _ iv _ => (inst - intOf iv).toNat)
        case atStart => exact ⟨0, rfl, by omega, hO2, hB⟩
        case round =>
          clear hO2 hB hO
          obtain ⟨t, rfl, hle2, hO, hB⟩ := hrel
          obtain ⟨k0, k1, k2, k3, k4, k5, k6, k7, k8, k9, k10⟩ := row11 (KK.out _ hB.out)
          obtain ⟨A5, n5, c5, rfl, -⟩ := hO.out
          by_cases hlt2 : t < inst
          · have d2 : decide ((t : Int) < (inst : Int)) = true := decide_eq_true (by omega)
            obtain ⟨x, b, hc, hj⟩ := st2.out wr t n5 c5 A5 hO.out hlt2 hin (BW.out _ hB.out)
            have hm1 : t + 1 ≤ inst := by omega
            have bl1 := bl.out (x : Int) 2
            have bl2 := bl.out (t : Int) 1
            replace hc := Lib.hid hc
            replace hj := Lib.hid hj
            clear hle2 hlt2
            go_wp2_with fail
            refine hc.out.mono ?_
            rintro e w4 ⟨rfl, bb⟩
            have B4 := Lib.hid (below_up hB.out bb)
            have ho4 := Lib.hid (hO.out.below bb)
            clear k0 k1 k2 k3 k4 k5 k6 k7 k8 k9 k10 bb hc hO hB
            obtain ⟨k0, k1, k2, k3, k4, k5, k6, k7, k8, k9, k10⟩ := row11 (KK.out _ B4.out)
            have b4d : Below w4.heap.size w4 w4.drew := (Below.refl _ w4).drew
            have z0 : (fun W : World => W.cell? ⟨g, 0, none⟩ = some (.string (str code)) ∧ W.cell? ⟨g, 1, none⟩ = some (.slice A1 n1 c1) ∧ W.cell? ⟨g, 2, none⟩ = some (.int .i64 tick) ∧ W.cell? ⟨g, 3, none⟩ = some (.int .i64 low) ∧ W.cell? ⟨g, 4, none⟩ = some (.int .i64 high) ∧ W.cell? ⟨g, 5, none⟩ = some (.int .i64 wide) ∧ W.cell? ⟨g, 6, none⟩ = some (.int .i64 rule) ∧ W.cell? ⟨g, 7, none⟩ = some (.int .i64 top) ∧ W.cell? ⟨g, 8, none⟩ = some (.int .i64 least) ∧ W.cell? ⟨g, 9, none⟩ = some (.int .i64 part) ∧ W.cell? ⟨g, 10, none⟩ = some (.slice A2 n2 c2) ∧ Below w4.heap.size w4 W) w4.drew := ⟨k0, k1, k2, k3, k4, k5, k6, k7, k8, k9, k10, b4d⟩
            clear k0 k1 k2 k3 k4 k5 k6 k7 k8 k9 k10
            go_upto_region 16 with (fail)
            refine wp_region_held_drew (S := (fun W : World => W.cell? ⟨g, 0, none⟩ = some (.string (str code)) ∧ W.cell? ⟨g, 1, none⟩ = some (.slice A1 n1 c1) ∧ W.cell? ⟨g, 2, none⟩ = some (.int .i64 tick) ∧ W.cell? ⟨g, 3, none⟩ = some (.int .i64 low) ∧ W.cell? ⟨g, 4, none⟩ = some (.int .i64 high) ∧ W.cell? ⟨g, 5, none⟩ = some (.int .i64 wide) ∧ W.cell? ⟨g, 6, none⟩ = some (.int .i64 rule) ∧ W.cell? ⟨g, 7, none⟩ = some (.int .i64 top) ∧ W.cell? ⟨g, 8, none⟩ = some (.int .i64 least) ∧ W.cell? ⟨g, 9, none⟩ = some (.int .i64 part) ∧ W.cell? ⟨g, 10, none⟩ = some (.slice A2 n2 c2) ∧ Below w4.heap.size w4 W)) (by kernel_rfl) z0 (fun hHeld => ?_)
            have hSof : Hid (∀ W W' : World, (fun W : World => W.cell? ⟨g, 0, none⟩ = some (.string (str code)) ∧ W.cell? ⟨g, 1, none⟩ = some (.slice A1 n1 c1) ∧ W.cell? ⟨g, 2, none⟩ = some (.int .i64 tick) ∧ W.cell? ⟨g, 3, none⟩ = some (.int .i64 low) ∧ W.cell? ⟨g, 4, none⟩ = some (.int .i64 high) ∧ W.cell? ⟨g, 5, none⟩ = some (.int .i64 wide) ∧ W.cell? ⟨g, 6, none⟩ = some (.int .i64 rule) ∧ W.cell? ⟨g, 7, none⟩ = some (.int .i64 top) ∧ W.cell? ⟨g, 8, none⟩ = some (.int .i64 least) ∧ W.cell? ⟨g, 9, none⟩ = some (.int .i64 part) ∧ W.cell? ⟨g, 10, none⟩ = some (.slice A2 n2 c2) ∧ Below w4.heap.size w4 W) W → Below W.heap.size W W' → (fun W : World => W.cell? ⟨g, 0, none⟩ = some (.string (str code)) ∧ W.cell? ⟨g, 1, none⟩ = some (.slice A1 n1 c1) ∧ W.cell? ⟨g, 2, none⟩ = some (.int .i64 tick) ∧ W.cell? ⟨g, 3, none⟩ = some (.int .i64 low) ∧ W.cell? ⟨g, 4, none⟩ = some (.int .i64 high) ∧ W.cell? ⟨g, 5, none⟩ = some (.int .i64 wide) ∧ W.cell? ⟨g, 6, none⟩ = some (.int .i64 rule) ∧ W.cell? ⟨g, 7, none⟩ = some (.int .i64 top) ∧ W.cell? ⟨g, 8, none⟩ = some (.int .i64 least) ∧ W.cell? ⟨g, 9, none⟩ = some (.int .i64 part) ∧ W.cell? ⟨g, 10, none⟩ = some (.slice A2 n2 c2) ∧ Below w4.heap.size w4 W) W') := Lib.hid (fun W W' hs b => ⟨(b.cell (World.block_lt_of_cell? W _ hs.1)).trans hs.1, (b.cell (World.block_lt_of_cell? W _ hs.2.1)).trans hs.2.1, (b.cell (World.block_lt_of_cell? W _ hs.2.2.1)).trans hs.2.2.1, (b.cell (World.block_lt_of_cell? W _ hs.2.2.2.1)).trans hs.2.2.2.1, (b.cell (World.block_lt_of_cell? W _ hs.2.2.2.2.1)).trans hs.2.2.2.2.1, (b.cell (World.block_lt_of_cell? W _ hs.2.2.2.2.2.1)).trans hs.2.2.2.2.2.1, (b.cell (World.block_lt_of_cell? W _ hs.2.2.2.2.2.2.1)).trans hs.2.2.2.2.2.2.1, (b.cell (World.block_lt_of_cell? W _ hs.2.2.2.2.2.2.2.1)).trans hs.2.2.2.2.2.2.2.1, (b.cell (World.block_lt_of_cell? W _ hs.2.2.2.2.2.2.2.2.1)).trans hs.2.2.2.2.2.2.2.2.1, (b.cell (World.block_lt_of_cell? W _ hs.2.2.2.2.2.2.2.2.2.1)).trans hs.2.2.2.2.2.2.2.2.2.1, (b.cell (World.block_lt_of_cell? W _ hs.2.2.2.2.2.2.2.2.2.2.1)).trans hs.2.2.2.2.2.2.2.2.2.2.1, hs.2.2.2.2.2.2.2.2.2.2.2.trans (b.mono hs.2.2.2.2.2.2.2.2.2.2.2.size)⟩)
            refine wpAnyH_take (i := 0) (v := .agg #[.string (str code), .slice A1 n1 c1, .int .i64 tick, .int .i64 low, .int .i64 high, .int .i64 wide, .int .i64 rule, .int .i64 top, .int .i64 least, .int .i64 part, .slice A2 n2 c2]) rfl (by kernel_rfl) (by kernel_rfl) (by kernel_rfl) (fun _ _ _ h => h) (Or.inl ⟨by kernel_rfl, fun W hSw => ?_⟩) (by assumption) ?_
            · (try dsimp only at hSw)
              go_simp
            (try simp only [Act.put, List.setIfInBounds_toArray, List.set_cons_zero, List.set_cons_succ])
            refine wpAnyH_take (i := 1) (v := .slice AT nT cT) rfl (by kernel_rfl) (by kernel_rfl) (by kernel_rfl) (fun _ _ _ h => h) (Or.inl ⟨by kernel_rfl, fun W hSw => ?_⟩) (by assumption) ?_
            · (try dsimp only at hSw)
              go_simp
            (try simp only [Act.put, List.setIfInBounds_toArray, List.set_cons_zero, List.set_cons_succ])
            refine wpAnyH_take (i := 2) (v := .int .i64 (inst : Int)) rfl (by kernel_rfl) (by kernel_rfl) (by kernel_rfl) (fun _ _ _ h => h) (Or.inl ⟨by kernel_rfl, fun W hSw => ?_⟩) (by assumption) ?_
            · (try dsimp only at hSw)
              go_simp
            (try simp only [Act.put, List.setIfInBounds_toArray, List.set_cons_zero, List.set_cons_succ])
            refine wpAnyH_take (i := 3) (v := .slice A5 n5 c5) rfl (by kernel_rfl) (by kernel_rfl) (by kernel_rfl) (fun _ _ _ h => h) (Or.inl ⟨by kernel_rfl, fun W hSw => ?_⟩) (by assumption) ?_
            · (try dsimp only at hSw)
              go_simp
            (try simp only [Act.put, List.setIfInBounds_toArray, List.set_cons_zero, List.set_cons_succ])
            refine wpAnyH_take (i := 4) (v := .int .i64 (x : Int)) rfl (by kernel_rfl) (by kernel_rfl) (by kernel_rfl) (fun _ _ _ h => h) (Or.inl ⟨by kernel_rfl, fun W hSw => ?_⟩) (by assumption) ?_
            · (try dsimp only at hSw)
              go_simp
            (try simp only [Act.put, List.setIfInBounds_toArray, List.set_cons_zero, List.set_cons_succ])
            refine wpAnyH_take (i := 5) (v := .int .i64 1) rfl (by kernel_rfl) (by kernel_rfl) (by kernel_rfl) (fun _ _ _ h => h) (Or.inl ⟨by kernel_rfl, fun W hSw => ?_⟩) (by assumption) ?_
            · (try dsimp only at hSw)
              go_simp
            (try simp only [Act.put, List.setIfInBounds_toArray, List.set_cons_zero, List.set_cons_succ])
            refine wpAnyH_take (i := 8) (v := .int .i64 (t : Int)) rfl (by kernel_rfl) (by kernel_rfl) (by kernel_rfl) (fun _ _ _ h => h) (Or.inl ⟨by kernel_rfl, fun W hSw => ?_⟩) (by assumption) ?_
            · (try dsimp only at hSw)
              go_simp
            (try simp only [Act.put, List.setIfInBounds_toArray, List.set_cons_zero, List.set_cons_succ])
            refine wpAnyH_take (i := 9) (v := .int .i64 1) rfl (by kernel_rfl) (by kernel_rfl) (by kernel_rfl) (fun _ _ _ h => h) (Or.inl ⟨by kernel_rfl, fun W hSw => ?_⟩) (by assumption) ?_
            · (try dsimp only at hSw)
              go_simp
            (try simp only [Act.put, List.setIfInBounds_toArray, List.set_cons_zero, List.set_cons_succ])
            refine wpAnyH_take (i := 10) (v := .agg #[.int .i64 (t : Int), .int .i64 1]) rfl (by kernel_rfl) (by kernel_rfl) (by kernel_rfl) (fun _ _ _ h => h) (Or.inl ⟨by kernel_rfl, fun W hSw => ?_⟩) (by assumption) ?_
            · (try dsimp only at hSw)
              go_simp
            (try simp only [Act.put, List.setIfInBounds_toArray, List.set_cons_zero, List.set_cons_succ])
            refine wpAnyH_ready (rs := [6]) (by kernel_rfl) (by simp) ?_
            refine AllReadyH.cons rfl (fun K hK => ?_) AllReadyH.nil
            go_simp
            refine (ROther_any 1 w4.drew (by omega) (by omega)).mono ?_
            rintro e ux ⟨rfl, rfl⟩
            have z1 := z0
            go_wp2_with fail
            refine hK.out _ _ z1 (fun hHeld => ?_)
            clear hK K
            (try simp only [Act.put, List.setIfInBounds_toArray, List.set_cons_zero, List.set_cons_succ])
            refine wpAnyH_take (i := 7) (v := .agg #[.int .i64 (x : Int), .int .i64 2]) rfl (by kernel_rfl) (by kernel_rfl) (by kernel_rfl) (fun _ _ _ h => h) (Or.inl ⟨by kernel_rfl, fun W hSw => ?_⟩) (by assumption) ?_
            · (try dsimp only at hSw)
              go_simp
            (try simp only [Act.put, List.setIfInBounds_toArray, List.set_cons_zero, List.set_cons_succ])
            refine wpAnyH_ready (rs := [11]) (by kernel_rfl) (by simp) ?_
            refine AllReadyH.cons rfl (fun K hK => ?_) AllReadyH.nil
            go_simp
            refine (hj.out w4.drew (ho4.out.below b4d) (BW.out _ (B4.out.drew))).mono ?_
            rintro e w5 ha
            obtain ⟨v5, rfl, ho5, b5⟩ := ha.out
            have z5 := hSof.out _ _ z1 b5
            clear ha
            go_wp2_with fail
            refine hK.out _ _ z5 (fun hHeld => ?_)
            clear hK K
            (try simp only [Act.put, List.setIfInBounds_toArray, List.set_cons_zero, List.set_cons_succ])
            refine wpAnyH_take (i := 12) (v := v5) rfl (by kernel_rfl) (by kernel_rfl) (by kernel_rfl) (fun _ _ _ h => h) (Or.inl ⟨by kernel_rfl, fun W hSw => ?_⟩) (by assumption) ?_
            · (try dsimp only at hSw)
              go_simp
            (try simp only [Act.put, List.setIfInBounds_toArray, List.set_cons_zero, List.set_cons_succ])
            refine wpAnyH_done (by kernel_rfl) ?_ _
            (try simp only [List.getElem_toArray, List.getElem_cons_succ, List.getElem_cons_zero, Act.put, List.setIfInBounds_toArray, List.set_cons_zero, List.set_cons_succ])
            have ho5' := Lib.hid ho5
            have B5 := Lib.hid (below_up (B4.out.drew) b5)
            clear hHeld z5 ho5 b5 z0 hj ho4 B4
            go_wp2_with fail
            go_roundw
            case rel => exact ⟨t + 1, by go_num, hm1, ho5', B5⟩
            case measure => simp [intOf]; omega
          · obtain rfl : inst = t := by omega
            have d2 : decide ((inst : Int) < (inst : Int)) = false := by simp
            have fin : Hid (AnsQ w.heap.size w RQ (.returned (.slice A5 n5 c5)) wr) := Lib.hid (by
              obtain ⟨A, n, c, e, hv, q1, q2, q3, q4⟩ := hO.out
              rw [e, hR.out]
              exact ⟨A, n, c, rfl, hv, q1, q2, q3, q4, BW.out _ hB.out⟩)
            clear k0 k1 k2 k3 k4 k5 k6 k7 k8 k9 k10 hO hle2 hlt2
            go_wp2_with fail
            go_ret
            exact fin.out
set_option maxRecDepth 100000 in
set_option maxHeartbeats 8000000 in
theorem RAll2 (p : PD) (AT : Option Addr) (nT cT : Nat) (T : List Tp) (inst : Nat) (w : World) (hp : Hid (p.Ok w)) (hT : Hid (HV fTp w AT nT T)) (hOT : Hid (OkT T)) (hz : chk p = 0) (hn : nT = cntL p) (hi : inst < nT) :
    Calls Try.prog 24 #[p.val, .slice AT nT cT, .int .i64 (inst : Int), .int .i64 2] w (AnsQ w.heap.size w (allQ p T (inst : Int) 2)) := by
  have hlT := hT.out.1
  have hA : allQ p T (inst : Int) 2 = if (legsL p (inst : Int)).2.2 = true then joinQ T (legsL p (inst : Int)).1 2 (legsL p (inst : Int)).2.1 (3 - 2) (-1) else laterQ p T (inst : Int) 2 (p.n1 - ((inst : Int).toNat + 1)) ((inst : Int) + 1) ++ earlierQ p T (inst : Int) 2 (inst : Int).toNat 0 := by
    unfold allQ
    rw [if_pos ((askB_iff _ _ _ _).2 ⟨hz, by rw [hlT]; exact hn, by omega, by rw [hlT]; omega, by omega⟩)]
  rw [Int.toNat_natCast] at hA
  obtain ⟨-, i, j, hleg, hi1, hj1⟩ := legs_range (p := p) (inst := (inst : Int)) (by omega) (by omega)
  have hz2 := chk_zero hz
  have hcnt : p.n1 ≤ cntL p ∧ cntL p ≤ 21 := ⟨by unfold cntL; rw [if_pos hz]; omega, cntL_le p⟩
  rw [hleg] at hA
  simp only at hA
  obtain ⟨RQ, hR⟩ : ∃ RQ, allQ p T (inst : Int) 2 = RQ := ⟨_, rfl⟩
  rw [hR] at hA ⊢
  clear hR
  have HC : Hid (∀ W, Below w.heap.size w W → Calls Try.prog 43 #[p.val] W fun e w' => e = .returned (.int .i64 0) ∧ Below W.heap.size W w') := Lib.hid (fun W b => by have := RefCheck_any p W (Lib.hid (hp.out.below b)); rw [hz] at this; exact this)
  have HN : Hid (∀ W, Below w.heap.size w W → Calls Try.prog 36 #[p.val] W fun e w' => e = .returned (.int .i64 (nT : Int)) ∧ Below W.heap.size W w') := Lib.hid (fun W b => by have := RefCount_any p W (Lib.hid (hp.out.below b)); rw [← hn] at this; exact this)
  have HL : Hid (∀ W, Below w.heap.size w W → Calls Try.prog 44 #[p.val, .int .i64 (inst : Int)] W fun e w' => e = .returned (.tuple #[.int .i64 (i : Int), .int .i64 (j : Int), .bool (decide ((p.n1 : Int) ≤ (inst : Int)))]) ∧ Below W.heap.size W w') := Lib.hid (fun W b => by have := RefLegs_any p (inst : Int) W (Lib.hid (hp.out.below b)) ⟨by omega, by omega⟩; rw [hleg] at this; exact this)
  have HS : Hid (∀ (W : World) (near far : Nat), near ≤ 1000 → far ≤ 1000 → Below w.heap.size w W → ∃ s : Nat, (spreadI p (near : Int) (far : Int)).1 = (s : Int) ∧ s < nT ∧ ∃ b : Bool, Calls Try.prog 47 #[p.val, .int .i64 (near : Int), .int .i64 (far : Int)] W fun e w' => e = .returned (.tuple #[.int .i64 (s : Int), .bool b]) ∧ Below W.heap.size W w') := Lib.hid (fun W near far h1 h2 b => by
    obtain ⟨s, e, hs⟩ := spreadI_range hz (near : Int) (far : Int)
    refine ⟨s, e, by omega, (spreadI p (near : Int) (far : Int)).2, ?_⟩
    have := RefSpreads_any p (near : Int) (far : Int) W (Lib.hid (hp.out.below b)) ⟨by omega, by omega⟩ ⟨by omega, by omega⟩
    rw [e] at this
    exact this)
  have TW : Hid (∀ W, Below w.heap.size w W → HV fTp W AT nT T) := Lib.hid (fun W b => hT.out.below b)
  obtain ⟨nn, enn⟩ : ∃ nn, p.n1 = nn := ⟨_, rfl⟩
  have hn1 : p.n1 ≤ 6 := hz2.2
  rw [enn] at hn1 hA hcnt hi1 hj1
  obtain ⟨LF, eLF⟩ : ∃ f : Nat → List Qt, (fun d => laterQ p T (inst : Int) 2 d ((inst : Int) + 1)) = f := ⟨_, rfl⟩
  obtain ⟨EF, eEF⟩ : ∃ f : Nat → List Qt, (fun d => earlierQ p T (inst : Int) 2 d 0) = f := ⟨_, rfl⟩
  have hA2 : Hid (RQ = if decide ((nn : Int) ≤ (inst : Int)) = true then joinQ T (i : Int) 2 (j : Int) (3 - 2) (-1) else LF (nn - (inst + 1)) ++ EF inst) := Lib.hid (by rw [hA, ← eLF, ← eEF])
  have LF0 : Hid (LF 0 = []) := Lib.hid (by rw [← eLF]; rfl)
  have EF0 : Hid (EF 0 = []) := Lib.hid (by rw [← eEF]; rfl)
  have LFl : Hid (∀ d, (LF d).length ≤ d) := Lib.hid (fun d => by rw [← eLF]; exact laterQ_len p T (inst : Int) 2 d _)
  have EFl : Hid (∀ d, (EF d).length ≤ d) := Lib.hid (fun d => by rw [← eEF]; exact earlierQ_len p T (inst : Int) 2 d _)
  have st1 : Hid (∀ (W : World) (d nL cL : Nat) (AL : Option Addr), OutQ w.heap.size W (.slice AL nL cL) (LF d) → inst + 1 + d < nn → Below w.heap.size w W → ∃ (x : Nat) (b : Bool), Calls Try.prog 47 #[p.val, .int .i64 (inst : Int), .int .i64 ((inst + 1 + d : Nat) : Int)] W (fun e w' => e = .returned (.tuple #[.int .i64 (x : Int), .bool b]) ∧ Below W.heap.size W w') ∧ ∀ W', OutQ w.heap.size W' (.slice AL nL cL) (LF d) → Below w.heap.size w W' → Calls Try.prog 45 #[p.val, .slice AT nT cT, .int .i64 (inst : Int), .slice AL nL cL, .agg #[.int .i64 (x : Int), .int .i64 2], .agg #[.int .i64 ((inst + 1 + d : Nat) : Int), .int .i64 2], .int .i64 1] W' (AnsQ w.heap.size W' (LF (d + 1)))) := Lib.hid (fun W d nL cL AL ho hd bw => by
    obtain ⟨x, e, hx, b, hc⟩ := HS.out W inst (inst + 1 + d) (by omega) (by omega) bw
    refine ⟨x, b, hc, fun W' ho' bw' => ?_⟩
    have hsn : LF (d + 1) = LF d ++ joinQ T (x : Int) 2 ((inst + 1 + d : Nat) : Int) 2 1 := by
      rw [← eLF]
      show laterQ p T (inst : Int) 2 (d + 1) ((inst : Int) + 1) = laterQ p T (inst : Int) 2 d ((inst : Int) + 1) ++ _
      rw [laterQ_snoc, show (inst : Int) + 1 + (d : Int) = ((inst + 1 + d : Nat) : Int) by omega, e]
    rw [hsn]
    obtain ⟨A', n', c', e', hv, q1, q2, q3, q4⟩ := ho'
    injection e' with e1 e2 e3
    subst e1; subst e2; subst e3
    have := hv.1
    have := LFl.out d
    exact RJoinAdd p AT nT cT T (inst : Int) AL nL cL (LF d) x 1 (inst + 1 + d) 1 W' w.heap.size (Lib.hid (TW.out W' bw')) hOT (Lib.hid hv) q1 q2 (Lib.hid q3) (Lib.hid q4) bw'.size (by omega) (by omega) (by omega) (by omega) (by omega) (by omega))
  have st2 : Hid (∀ (W : World) (d nL cL : Nat) (AL : Option Addr), OutQ w.heap.size W (.slice AL nL cL) (LF (nn - (inst + 1)) ++ EF d) → d < inst → inst < nn → Below w.heap.size w W → ∃ (x : Nat) (b : Bool), Calls Try.prog 47 #[p.val, .int .i64 (d : Int), .int .i64 (inst : Int)] W (fun e w' => e = .returned (.tuple #[.int .i64 (x : Int), .bool b]) ∧ Below W.heap.size W w') ∧ ∀ W', OutQ w.heap.size W' (.slice AL nL cL) (LF (nn - (inst + 1)) ++ EF d) → Below w.heap.size w W' → Calls Try.prog 45 #[p.val, .slice AT nT cT, .int .i64 (inst : Int), .slice AL nL cL, .agg #[.int .i64 (x : Int), .int .i64 1], .agg #[.int .i64 (d : Int), .int .i64 2], .int .i64 0] W' (AnsQ w.heap.size W' (LF (nn - (inst + 1)) ++ EF (d + 1)))) := Lib.hid (fun W d nL cL AL ho hd hin bw => by
    obtain ⟨x, e, hx, b, hc⟩ := HS.out W d inst (by omega) (by omega) bw
    refine ⟨x, b, hc, fun W' ho' bw' => ?_⟩
    have hsn : EF (d + 1) = EF d ++ joinQ T (x : Int) 1 (d : Int) 2 0 := by
      rw [← eEF]
      show earlierQ p T (inst : Int) 2 (d + 1) 0 = earlierQ p T (inst : Int) 2 d 0 ++ _
      rw [earlierQ_snoc, show (0 : Int) + (d : Int) = (d : Int) by omega, e]
      rfl
    rw [hsn, ← List.append_assoc]
    obtain ⟨A', n', c', e', hv, q1, q2, q3, q4⟩ := ho'
    injection e' with e1 e2 e3
    subst e1; subst e2; subst e3
    have hv1 := hv.1
    have z1 := LFl.out (nn - (inst + 1))
    have z2 := EFl.out d
    rw [List.length_append] at hv1
    exact RJoinBack p AT nT cT T (inst : Int) AL nL cL (LF (nn - (inst + 1)) ++ EF d) x 0 d 1 W' w.heap.size (Lib.hid (TW.out W' bw')) hOT (Lib.hid hv) q1 q2 (Lib.hid q3) (Lib.hid q4) bw'.size (by omega) (by omega) (by omega) (by omega) (by omega) (by omega))
  have HJm : Hid (∀ (W : World), Below w.heap.size w W → Calls Try.prog 45 #[p.val, .slice AT nT cT, .int .i64 (inst : Int), .slice none 0 0, .agg #[.int .i64 (i : Int), .int .i64 2], .agg #[.int .i64 (j : Int), .int .i64 1], .int .i64 (-1)] W (AnsQ w.heap.size W (joinQ T (i : Int) 2 (j : Int) 1 (-1)))) := Lib.hid (fun W bw => by
    exact RJoinLess p AT nT cT T (inst : Int) none 0 0 [] i 1 j 0 W w.heap.size (Lib.hid (TW.out W bw)) hOT (Lib.hid (hv_nil _ _)) (Nat.le_refl _) (by omega) (Lib.hid (fun _ => rfl)) (Lib.hid (fun _ e => by cases e)) bw.size (by omega) (by omega) (by omega) (by omega) (by omega) (by omega))
  clear HS TW hA eLF eEF hp hT hOT hleg hz hlT hn hcnt
  obtain ⟨code, A1, n1, c1, tick, low, high, wide, rule, top, least, part, A2, n2, c2, Q, R⟩ := p
  have enn' : n1 = nn := enn
  subst enn'
  clear enn
  replace HC : Hid (∀ W, Below w.heap.size w W → Calls Try.prog 43 #[.agg #[.string (str code), .slice A1 n1 c1, .int .i64 tick, .int .i64 low, .int .i64 high, .int .i64 wide, .int .i64 rule, .int .i64 top, .int .i64 least, .int .i64 part, .slice A2 n2 c2]] W fun e w' => e = .returned (.int .i64 0) ∧ Below W.heap.size W w') := HC
  replace HN : Hid (∀ W, Below w.heap.size w W → Calls Try.prog 36 #[.agg #[.string (str code), .slice A1 n1 c1, .int .i64 tick, .int .i64 low, .int .i64 high, .int .i64 wide, .int .i64 rule, .int .i64 top, .int .i64 least, .int .i64 part, .slice A2 n2 c2]] W fun e w' => e = .returned (.int .i64 (nT : Int)) ∧ Below W.heap.size W w') := HN
  replace HL : Hid (∀ W, Below w.heap.size w W → Calls Try.prog 44 #[.agg #[.string (str code), .slice A1 n1 c1, .int .i64 tick, .int .i64 low, .int .i64 high, .int .i64 wide, .int .i64 rule, .int .i64 top, .int .i64 least, .int .i64 part, .slice A2 n2 c2], .int .i64 (inst : Int)] W fun e w' => e = .returned (.tuple #[.int .i64 (i : Int), .int .i64 (j : Int), .bool (decide ((n1 : Int) ≤ (inst : Int)))]) ∧ Below W.heap.size W w') := HL
  replace st1 : Hid (∀ (W : World) (d nL cL : Nat) (AL : Option Addr), OutQ w.heap.size W (.slice AL nL cL) (LF d) → inst + 1 + d < n1 → Below w.heap.size w W → ∃ (x : Nat) (b : Bool), Calls Try.prog 47 #[.agg #[.string (str code), .slice A1 n1 c1, .int .i64 tick, .int .i64 low, .int .i64 high, .int .i64 wide, .int .i64 rule, .int .i64 top, .int .i64 least, .int .i64 part, .slice A2 n2 c2], .int .i64 (inst : Int), .int .i64 ((inst + 1 + d : Nat) : Int)] W (fun e w' => e = .returned (.tuple #[.int .i64 (x : Int), .bool b]) ∧ Below W.heap.size W w') ∧ ∀ W', OutQ w.heap.size W' (.slice AL nL cL) (LF d) → Below w.heap.size w W' → Calls Try.prog 45 #[.agg #[.string (str code), .slice A1 n1 c1, .int .i64 tick, .int .i64 low, .int .i64 high, .int .i64 wide, .int .i64 rule, .int .i64 top, .int .i64 least, .int .i64 part, .slice A2 n2 c2], .slice AT nT cT, .int .i64 (inst : Int), .slice AL nL cL, .agg #[.int .i64 (x : Int), .int .i64 2], .agg #[.int .i64 ((inst + 1 + d : Nat) : Int), .int .i64 2], .int .i64 1] W' (AnsQ w.heap.size W' (LF (d + 1)))) := st1
  replace st2 : Hid (∀ (W : World) (d nL cL : Nat) (AL : Option Addr), OutQ w.heap.size W (.slice AL nL cL) (LF (n1 - (inst + 1)) ++ EF d) → d < inst → inst < n1 → Below w.heap.size w W → ∃ (x : Nat) (b : Bool), Calls Try.prog 47 #[.agg #[.string (str code), .slice A1 n1 c1, .int .i64 tick, .int .i64 low, .int .i64 high, .int .i64 wide, .int .i64 rule, .int .i64 top, .int .i64 least, .int .i64 part, .slice A2 n2 c2], .int .i64 (d : Int), .int .i64 (inst : Int)] W (fun e w' => e = .returned (.tuple #[.int .i64 (x : Int), .bool b]) ∧ Below W.heap.size W w') ∧ ∀ W', OutQ w.heap.size W' (.slice AL nL cL) (LF (n1 - (inst + 1)) ++ EF d) → Below w.heap.size w W' → Calls Try.prog 45 #[.agg #[.string (str code), .slice A1 n1 c1, .int .i64 tick, .int .i64 low, .int .i64 high, .int .i64 wide, .int .i64 rule, .int .i64 top, .int .i64 least, .int .i64 part, .slice A2 n2 c2], .slice AT nT cT, .int .i64 (inst : Int), .slice AL nL cL, .agg #[.int .i64 (x : Int), .int .i64 1], .agg #[.int .i64 (d : Int), .int .i64 2], .int .i64 0] W' (AnsQ w.heap.size W' (LF (n1 - (inst + 1)) ++ EF (d + 1)))) := st2
  replace HJm : Hid (∀ (W : World), Below w.heap.size w W → Calls Try.prog 45 #[.agg #[.string (str code), .slice A1 n1 c1, .int .i64 tick, .int .i64 low, .int .i64 high, .int .i64 wide, .int .i64 rule, .int .i64 top, .int .i64 least, .int .i64 part, .slice A2 n2 c2], .slice AT nT cT, .int .i64 (inst : Int), .slice none 0 0, .agg #[.int .i64 (i : Int), .int .i64 2], .agg #[.int .i64 (j : Int), .int .i64 1], .int .i64 (-1)] W (AnsQ w.heap.size W (joinQ T (i : Int) 2 (j : Int) 1 (-1)))) := HJm
  show Calls Try.prog 24 #[.agg #[.string (str code), .slice A1 n1 c1, .int .i64 tick, .int .i64 low, .int .i64 high, .int .i64 wide, .int .i64 rule, .int .i64 top, .int .i64 least, .int .i64 part, .slice A2 n2 c2], .slice AT nT cT, .int .i64 (inst : Int), .int .i64 2] w _
  obtain ⟨W0, eW0⟩ : ∃ W0, w.alloc (.cells #[.string (str code), .slice A1 n1 c1, .int .i64 tick, .int .i64 low, .int .i64 high, .int .i64 wide, .int .i64 rule, .int .i64 top, .int .i64 least, .int .i64 part, .slice A2 n2 c2] 25) = W0 := ⟨_, rfl⟩
  obtain ⟨g, eg⟩ : ∃ g, w.heap.size = g := ⟨_, rfl⟩
  have hblk0 : W0.heap[g]? = some (.cells #[.string (str code), .slice A1 n1 c1, .int .i64 tick, .int .i64 low, .int .i64 high, .int .i64 wide, .int .i64 rule, .int .i64 top, .int .i64 least, .int .i64 part, .slice A2 n2 c2] 25 (0, 0)) := by rw [← eW0, ← eg]; exact heap_alloc_new w _
  have b00 : Below w.heap.size w W0 := by rw [← eW0]; exact (Below.refl _ w).alloc (Nat.le_refl _) _
  have KK : Hid (∀ W, Below W0.heap.size W0 W → W.heap[g]? = some (.cells #[.string (str code), .slice A1 n1 c1, .int .i64 tick, .int .i64 low, .int .i64 high, .int .i64 wide, .int .i64 rule, .int .i64 top, .int .i64 least, .int .i64 part, .slice A2 n2 c2] 25 (0, 0))) := Lib.hid (fun W b => (b.block g (Array.getElem?_eq_some_iff.1 hblk0).1).trans hblk0)
  have BW : Hid (∀ W, Below W0.heap.size W0 W → Below w.heap.size w W) := Lib.hid (fun W b => b00.trans (b.mono b00.size))
  obtain ⟨a0, a1, a2, a3, a4, a5, a6, a7, a8, a9, a10⟩ := row11 (heap_alloc_new w (.cells #[.string (str code), .slice A1 n1 c1, .int .i64 tick, .int .i64 low, .int .i64 high, .int .i64 wide, .int .i64 rule, .int .i64 top, .int .i64 least, .int .i64 part, .slice A2 n2 c2] 25))
  replace eW0 := Lib.hid eW0
  replace eg := Lib.hid eg
  clear hblk0 b00
  have B0 := Lib.hid (Below.refl W0.heap.size W0)
  have dn : ((nT : Int) != (nT : Int)) = false := by simp
  have di1 : decide ((inst : Int) < 0) = false := decide_eq_false (by omega)
  have di2 : decide ((nT : Int) ≤ (inst : Int)) = false := decide_eq_false (by omega)
  have di3 : decide (nT ≤ inst) = false := decide_eq_false (by omega)
  have bl := Lib.hid build_leg
  go_enter Try.func24, Try.ntmps24
  go_wp2_with fail
  rw [eW0.out, eg.out]
  clear a0 a1 a2 a3 a4 a5 a6 a7 a8 a9 a10 eW0
  refine (HC.out W0 (BW.out _ B0.out)).mono ?_
  rintro e w1 ⟨rfl, bb⟩
  have B1 := Lib.hid (below_up B0.out bb)
  obtain ⟨k0, k1, k2, k3, k4, k5, k6, k7, k8, k9, k10⟩ := row11 (KK.out _ B1.out)
  clear bb B0 HC
  go_wp2_with fail
  refine (HN.out w1 (BW.out _ B1.out)).mono ?_
  rintro e w2 ⟨rfl, bb⟩
  have B2 := Lib.hid (below_up B1.out bb)
  clear k0 k1 k2 k3 k4 k5 k6 k7 k8 k9 k10 bb B1 HN
  obtain ⟨k0, k1, k2, k3, k4, k5, k6, k7, k8, k9, k10⟩ := row11 (KK.out _ B2.out)
  go_wp2_with fail
  refine (HL.out w2 (BW.out _ B2.out)).mono ?_
  rintro e w3 ⟨rfl, bb⟩
  have B3 := Lib.hid (below_up B2.out bb)
  clear k0 k1 k2 k3 k4 k5 k6 k7 k8 k9 k10 bb B2 HL dn di1 di2 di3
  by_cases hsp : (n1 : Int) ≤ (inst : Int)
  · have dsp : decide ((n1 : Int) ≤ (inst : Int)) = true := decide_eq_true hsp
    rw [dsp] at hA2 ⊢
    have bl1 := bl.out (i : Int) 2
    have bl2 := bl.out (j : Int) 1
    have hR : Hid (RQ = joinQ T (i : Int) 2 (j : Int) 1 (-1)) := Lib.hid (by rw [hA2.out, if_pos rfl]; rfl)
    obtain ⟨k0, k1, k2, k3, k4, k5, k6, k7, k8, k9, k10⟩ := row11 ((KK.out _ B3.out))
    have z0 : (fun W : World => W.cell? ⟨g, 0, none⟩ = some (.string (str code)) ∧ W.cell? ⟨g, 1, none⟩ = some (.slice A1 n1 c1) ∧ W.cell? ⟨g, 2, none⟩ = some (.int .i64 tick) ∧ W.cell? ⟨g, 3, none⟩ = some (.int .i64 low) ∧ W.cell? ⟨g, 4, none⟩ = some (.int .i64 high) ∧ W.cell? ⟨g, 5, none⟩ = some (.int .i64 wide) ∧ W.cell? ⟨g, 6, none⟩ = some (.int .i64 rule) ∧ W.cell? ⟨g, 7, none⟩ = some (.int .i64 top) ∧ W.cell? ⟨g, 8, none⟩ = some (.int .i64 least) ∧ W.cell? ⟨g, 9, none⟩ = some (.int .i64 part) ∧ W.cell? ⟨g, 10, none⟩ = some (.slice A2 n2 c2) ∧ Below w3.heap.size w3 W) w3.drew := ⟨k0, k1, k2, k3, k4, k5, k6, k7, k8, k9, k10, (Below.refl _ w3).drew⟩
    clear k0 k1 k2 k3 k4 k5 k6 k7 k8 k9 k10 hA2
    go_upto_region 5 with (fail)
    refine wp_region_held_drew (S := (fun W : World => W.cell? ⟨g, 0, none⟩ = some (.string (str code)) ∧ W.cell? ⟨g, 1, none⟩ = some (.slice A1 n1 c1) ∧ W.cell? ⟨g, 2, none⟩ = some (.int .i64 tick) ∧ W.cell? ⟨g, 3, none⟩ = some (.int .i64 low) ∧ W.cell? ⟨g, 4, none⟩ = some (.int .i64 high) ∧ W.cell? ⟨g, 5, none⟩ = some (.int .i64 wide) ∧ W.cell? ⟨g, 6, none⟩ = some (.int .i64 rule) ∧ W.cell? ⟨g, 7, none⟩ = some (.int .i64 top) ∧ W.cell? ⟨g, 8, none⟩ = some (.int .i64 least) ∧ W.cell? ⟨g, 9, none⟩ = some (.int .i64 part) ∧ W.cell? ⟨g, 10, none⟩ = some (.slice A2 n2 c2) ∧ Below w3.heap.size w3 W)) (by kernel_rfl) z0 (fun hHeld => ?_)
    have hSof : Hid (∀ W W' : World, (fun W : World => W.cell? ⟨g, 0, none⟩ = some (.string (str code)) ∧ W.cell? ⟨g, 1, none⟩ = some (.slice A1 n1 c1) ∧ W.cell? ⟨g, 2, none⟩ = some (.int .i64 tick) ∧ W.cell? ⟨g, 3, none⟩ = some (.int .i64 low) ∧ W.cell? ⟨g, 4, none⟩ = some (.int .i64 high) ∧ W.cell? ⟨g, 5, none⟩ = some (.int .i64 wide) ∧ W.cell? ⟨g, 6, none⟩ = some (.int .i64 rule) ∧ W.cell? ⟨g, 7, none⟩ = some (.int .i64 top) ∧ W.cell? ⟨g, 8, none⟩ = some (.int .i64 least) ∧ W.cell? ⟨g, 9, none⟩ = some (.int .i64 part) ∧ W.cell? ⟨g, 10, none⟩ = some (.slice A2 n2 c2) ∧ Below w3.heap.size w3 W) W → Below W.heap.size W W' → (fun W : World => W.cell? ⟨g, 0, none⟩ = some (.string (str code)) ∧ W.cell? ⟨g, 1, none⟩ = some (.slice A1 n1 c1) ∧ W.cell? ⟨g, 2, none⟩ = some (.int .i64 tick) ∧ W.cell? ⟨g, 3, none⟩ = some (.int .i64 low) ∧ W.cell? ⟨g, 4, none⟩ = some (.int .i64 high) ∧ W.cell? ⟨g, 5, none⟩ = some (.int .i64 wide) ∧ W.cell? ⟨g, 6, none⟩ = some (.int .i64 rule) ∧ W.cell? ⟨g, 7, none⟩ = some (.int .i64 top) ∧ W.cell? ⟨g, 8, none⟩ = some (.int .i64 least) ∧ W.cell? ⟨g, 9, none⟩ = some (.int .i64 part) ∧ W.cell? ⟨g, 10, none⟩ = some (.slice A2 n2 c2) ∧ Below w3.heap.size w3 W) W') := Lib.hid (fun W W' hs b => ⟨(b.cell (World.block_lt_of_cell? W _ hs.1)).trans hs.1, (b.cell (World.block_lt_of_cell? W _ hs.2.1)).trans hs.2.1, (b.cell (World.block_lt_of_cell? W _ hs.2.2.1)).trans hs.2.2.1, (b.cell (World.block_lt_of_cell? W _ hs.2.2.2.1)).trans hs.2.2.2.1, (b.cell (World.block_lt_of_cell? W _ hs.2.2.2.2.1)).trans hs.2.2.2.2.1, (b.cell (World.block_lt_of_cell? W _ hs.2.2.2.2.2.1)).trans hs.2.2.2.2.2.1, (b.cell (World.block_lt_of_cell? W _ hs.2.2.2.2.2.2.1)).trans hs.2.2.2.2.2.2.1, (b.cell (World.block_lt_of_cell? W _ hs.2.2.2.2.2.2.2.1)).trans hs.2.2.2.2.2.2.2.1, (b.cell (World.block_lt_of_cell? W _ hs.2.2.2.2.2.2.2.2.1)).trans hs.2.2.2.2.2.2.2.2.1, (b.cell (World.block_lt_of_cell? W _ hs.2.2.2.2.2.2.2.2.2.1)).trans hs.2.2.2.2.2.2.2.2.2.1, (b.cell (World.block_lt_of_cell? W _ hs.2.2.2.2.2.2.2.2.2.2.1)).trans hs.2.2.2.2.2.2.2.2.2.2.1, hs.2.2.2.2.2.2.2.2.2.2.2.trans (b.mono hs.2.2.2.2.2.2.2.2.2.2.2.size)⟩)
    refine wpAnyH_take (i := 0) (v := .agg #[.string (str code), .slice A1 n1 c1, .int .i64 tick, .int .i64 low, .int .i64 high, .int .i64 wide, .int .i64 rule, .int .i64 top, .int .i64 least, .int .i64 part, .slice A2 n2 c2]) rfl (by kernel_rfl) (by kernel_rfl) (by kernel_rfl) (fun _ _ _ h => h) (Or.inl ⟨by kernel_rfl, fun W hSw => ?_⟩) (by assumption) ?_
    · (try dsimp only at hSw)
      go_simp
    (try simp only [Act.put, List.setIfInBounds_toArray, List.set_cons_zero, List.set_cons_succ])
    refine wpAnyH_take (i := 1) (v := .slice AT nT cT) rfl (by kernel_rfl) (by kernel_rfl) (by kernel_rfl) (fun _ _ _ h => h) (Or.inl ⟨by kernel_rfl, fun W hSw => ?_⟩) (by assumption) ?_
    · (try dsimp only at hSw)
      go_simp
    (try simp only [Act.put, List.setIfInBounds_toArray, List.set_cons_zero, List.set_cons_succ])
    refine wpAnyH_take (i := 2) (v := .int .i64 (inst : Int)) rfl (by kernel_rfl) (by kernel_rfl) (by kernel_rfl) (fun _ _ _ h => h) (Or.inl ⟨by kernel_rfl, fun W hSw => ?_⟩) (by assumption) ?_
    · (try dsimp only at hSw)
      go_simp
    (try simp only [Act.put, List.setIfInBounds_toArray, List.set_cons_zero, List.set_cons_succ])
    refine wpAnyH_take (i := 3) (v := .int .i64 (i : Int)) rfl (by kernel_rfl) (by kernel_rfl) (by kernel_rfl) (fun _ _ _ h => h) (Or.inl ⟨by kernel_rfl, fun W hSw => ?_⟩) (by assumption) ?_
    · (try dsimp only at hSw)
      go_simp
    (try simp only [Act.put, List.setIfInBounds_toArray, List.set_cons_zero, List.set_cons_succ])
    refine wpAnyH_take (i := 4) (v := .int .i64 2) rfl (by kernel_rfl) (by kernel_rfl) (by kernel_rfl) (fun _ _ _ h => h) (Or.inl ⟨by kernel_rfl, fun W hSw => ?_⟩) (by assumption) ?_
    · (try dsimp only at hSw)
      go_simp
    (try simp only [Act.put, List.setIfInBounds_toArray, List.set_cons_zero, List.set_cons_succ])
    refine wpAnyH_take (i := 5) (v := .agg #[.int .i64 (i : Int), .int .i64 2]) rfl (by kernel_rfl) (by kernel_rfl) (by kernel_rfl) (fun _ _ _ h => h) (Or.inl ⟨by kernel_rfl, fun W hSw => ?_⟩) (by assumption) ?_
    · (try dsimp only at hSw)
      go_simp
    (try simp only [Act.put, List.setIfInBounds_toArray, List.set_cons_zero, List.set_cons_succ])
    refine wpAnyH_take (i := 6) (v := .int .i64 (j : Int)) rfl (by kernel_rfl) (by kernel_rfl) (by kernel_rfl) (fun _ _ _ h => h) (Or.inl ⟨by kernel_rfl, fun W hSw => ?_⟩) (by assumption) ?_
    · (try dsimp only at hSw)
      go_simp
    (try simp only [Act.put, List.setIfInBounds_toArray, List.set_cons_zero, List.set_cons_succ])
    refine wpAnyH_take (i := 7) (v := .int .i64 2) rfl (by kernel_rfl) (by kernel_rfl) (by kernel_rfl) (fun _ _ _ h => h) (Or.inl ⟨by kernel_rfl, fun W hSw => ?_⟩) (by assumption) ?_
    · (try dsimp only at hSw)
      go_simp
    (try simp only [Act.put, List.setIfInBounds_toArray, List.set_cons_zero, List.set_cons_succ])
    refine wpAnyH_ready (rs := [8]) (by kernel_rfl) (by simp) ?_
    refine AllReadyH.cons rfl (fun K hK => ?_) AllReadyH.nil
    go_simp
    refine (ROther_any 2 w3.drew (by omega) (by omega)).mono ?_
    rintro e ux ⟨rfl, rfl⟩
    have z1 := z0
    go_wp2_with fail
    refine hK.out _ _ z1 (fun hHeld => ?_)
    clear hK K
    (try simp only [Act.put, List.setIfInBounds_toArray, List.set_cons_zero, List.set_cons_succ])
    refine wpAnyH_take (i := 9) (v := .agg #[.int .i64 (j : Int), .int .i64 1]) rfl (by kernel_rfl) (by kernel_rfl) (by kernel_rfl) (fun _ _ _ h => h) (Or.inl ⟨by kernel_rfl, fun W hSw => ?_⟩) (by assumption) ?_
    · (try dsimp only at hSw)
      go_simp
    (try simp only [Act.put, List.setIfInBounds_toArray, List.set_cons_zero, List.set_cons_succ])
    refine wpAnyH_ready (rs := [10]) (by kernel_rfl) (by simp) ?_
    refine AllReadyH.cons rfl (fun K hK => ?_) AllReadyH.nil
    go_simp
    refine (HJm.out w3.drew (BW.out _ (B3.out.drew))).mono ?_
    rintro e w5 ha
    obtain ⟨v5, rfl, ho, b5⟩ := ha.out
    have z5 := hSof.out _ _ z1 b5
    clear ha
    go_wp2_with fail
    refine hK.out _ _ z5 (fun hHeld => ?_)
    clear hK K
    (try simp only [Act.put, List.setIfInBounds_toArray, List.set_cons_zero, List.set_cons_succ])
    refine wpAnyH_take (i := 11) (v := v5) rfl (by kernel_rfl) (by kernel_rfl) (by kernel_rfl) (fun _ _ _ h => h) (Or.inl ⟨by kernel_rfl, fun W hSw => ?_⟩) (by assumption) ?_
    · (try dsimp only at hSw)
      go_simp
    (try simp only [Act.put, List.setIfInBounds_toArray, List.set_cons_zero, List.set_cons_succ])
    refine wpAnyH_done (by kernel_rfl) ?_ _
    (try simp only [List.getElem_toArray, List.getElem_cons_succ, List.getElem_cons_zero, Act.put, List.setIfInBounds_toArray, List.set_cons_zero, List.set_cons_succ])
    have fin : Hid (AnsQ w.heap.size w RQ (.returned v5) w5) := Lib.hid (by
      obtain ⟨A, n, c, e, hv, q1, q2, q3, q4⟩ := ho
      rw [e, hR.out]
      exact ⟨A, n, c, rfl, hv, q1, q2, q3, q4, BW.out _ (below_up (B3.out.drew) b5)⟩)
    clear hHeld z5 ho b5
    go_wp2_with fail
    go_ret
    exact fin.out
  · have dsp : decide ((n1 : Int) ≤ (inst : Int)) = false := decide_eq_false hsp
    rw [dsp] at hA2 ⊢
    have hin : inst < n1 := by omega
    obtain ⟨K, eK⟩ : ∃ K, n1 - (inst + 1) = K := ⟨_, rfl⟩
    have hR : Hid (RQ = LF K ++ EF inst) := Lib.hid (by rw [hA2.out, if_neg (by simp), eK])
    rw [eK] at st2
    replace eK := Lib.hid eK
    have hO0 : Hid (OutQ w.heap.size w3 (.slice none 0 0) (LF 0)) := Lib.hid (by rw [LF0.out]; exact outQ_nil _ _)
    clear hA2 HJm
    obtain ⟨k0, k1, k2, k3, k4, k5, k6, k7, k8, k9, k10⟩ := row11 (KK.out _ B3.out)
    go_wp2_with fail
    clear k0 k1 k2 k3 k4 k5 k6 k7 k8 k9 k10
    go_loopw [12, 13] (fun u iv wr => ∃ (d mm : Nat), iv = .int .i64 (mm : Int) ∧ mm = inst + 1 + d ∧ mm ≤ n1 ∧ Hid (OutQ w.heap.size wr u (LF d)) ∧ Hid (Below W0.heap.size W0 wr)) (fun _ iv _ => (n1 - intOf iv).toNat)
    case atStart => exact ⟨0, inst + 1, by go_num, by omega, by omega, hO0, B3⟩
    case round =>
      clear hO0 B3
      obtain ⟨d, mm, rfl, hmm, hle, hO, hB⟩ := hrel
      obtain ⟨k0, k1, k2, k3, k4, k5, k6, k7, k8, k9, k10⟩ := row11 (KK.out _ hB.out)
      obtain ⟨A5, n5, c5, rfl, -⟩ := hO.out
      by_cases hlt : mm < n1
      · have d1 : decide ((mm : Int) < (n1 : Int)) = true := decide_eq_true (by omega)
        obtain ⟨x, b, hc, hj⟩ := st1.out wr d n5 c5 A5 hO.out (by omega) (BW.out _ hB.out)
        rw [← hmm] at hc hj
        have hm1 : mm + 1 ≤ n1 := by omega
        have hm2 : Hid (mm + 1 = inst + 1 + (d + 1)) := Lib.hid (by omega)
        clear hmm hle hlt
        have bl1 := bl.out (x : Int) 2
        have bl2 := bl.out (mm : Int) 2
        replace hc := Lib.hid hc
        replace hj := Lib.hid hj
        go_wp2_with fail
        refine hc.out.mono ?_
        rintro e w4 ⟨rfl, bb⟩
        have B4 := Lib.hid (below_up hB.out bb)
        have ho4 := Lib.hid (hO.out.below bb)
        clear k0 k1 k2 k3 k4 k5 k6 k7 k8 k9 k10 bb hc hO hB
        obtain ⟨k0, k1, k2, k3, k4, k5, k6, k7, k8, k9, k10⟩ := row11 (KK.out _ B4.out)
        go_wp2_with fail
        refine (hj.out w4 ho4.out (BW.out _ B4.out)).mono ?_
        rintro e w5 ha
        obtain ⟨v5, rfl, ho5, b5⟩ := ha.out
        have ho5' := Lib.hid ho5
        have B5 := Lib.hid (below_up B4.out b5)
        clear k0 k1 k2 k3 k4 k5 k6 k7 k8 k9 k10 ha ho5 b5 ho4 B4 hj bl1 bl2
        go_wp2_with fail
        go_roundw
        case rel => exact ⟨d + 1, mm + 1, by go_num, hm2.out, hm1, ho5', B5⟩
        case measure => simp [intOf]; omega
      · obtain rfl : n1 = mm := by omega
        have d1 : decide ((n1 : Int) < (n1 : Int)) = false := by simp
        have edK : d = K := by have := eK.out; omega
        rw [edK] at hO
        have hO2 : Hid (OutQ w.heap.size wr (.slice A5 n5 c5) (LF K ++ EF 0)) := Lib.hid (by rw [EF0.out, List.append_nil]; exact hO.out)
        clear edK hmm hle hlt
        go_wp2_with fail
        clear k0 k1 k2 k3 k4 k5 k6 k7 k8 k9 k10
        go_loopw [12, 16] (fun u iv wr => ∃ (t : Nat), iv = .int .i64 (t : Int) ∧ t ≤ inst ∧ Hid (OutQ w.heap.size wr u (LF K ++ EF t)) ∧ Hid (Below W0.heap.size W0 wr)) (fun _ iv _ => (inst - intOf iv).toNat)
        case atStart => exact ⟨0, rfl, by omega, hO2, hB⟩
        case round =>
          clear hO2 hB hO
          obtain ⟨t, rfl, hle2, hO, hB⟩ := hrel
          obtain ⟨k0, k1, k2, k3, k4, k5, k6, k7, k8, k9, k10⟩ := row11 (KK.out _ hB.out)
          obtain ⟨A5, n5, c5, rfl, -⟩ := hO.out
          by_cases hlt2 : t < inst
          · have d2 : decide ((t : Int) < (inst : Int)) = true := decide_eq_true (by omega)
            obtain ⟨x, b, hc, hj⟩ := st2.out wr t n5 c5 A5 hO.out hlt2 hin (BW.out _ hB.out)
            have hm1 : t + 1 ≤ inst := by omega
            have bl1 := bl.out (x : Int) 1
            have bl2 := bl.out (t : Int) 2
            replace hc := Lib.hid hc
            replace hj := Lib.hid hj
            clear hle2 hlt2
            go_wp2_with fail
            refine hc.out.mono ?_
            rintro e w4 ⟨rfl, bb⟩
            have B4 := Lib.hid (below_up hB.out bb)
            have ho4 := Lib.hid (hO.out.below bb)
            clear k0 k1 k2 k3 k4 k5 k6 k7 k8 k9 k10 bb hc hO hB
            obtain ⟨k0, k1, k2, k3, k4, k5, k6, k7, k8, k9, k10⟩ := row11 (KK.out _ B4.out)
            have b4d : Below w4.heap.size w4 w4.drew := (Below.refl _ w4).drew
            have z0 : (fun W : World => W.cell? ⟨g, 0, none⟩ = some (.string (str code)) ∧ W.cell? ⟨g, 1, none⟩ = some (.slice A1 n1 c1) ∧ W.cell? ⟨g, 2, none⟩ = some (.int .i64 tick) ∧ W.cell? ⟨g, 3, none⟩ = some (.int .i64 low) ∧ W.cell? ⟨g, 4, none⟩ = some (.int .i64 high) ∧ W.cell? ⟨g, 5, none⟩ = some (.int .i64 wide) ∧ W.cell? ⟨g, 6, none⟩ = some (.int .i64 rule) ∧ W.cell? ⟨g, 7, none⟩ = some (.int .i64 top) ∧ W.cell? ⟨g, 8, none⟩ = some (.int .i64 least) ∧ W.cell? ⟨g, 9, none⟩ = some (.int .i64 part) ∧ W.cell? ⟨g, 10, none⟩ = some (.slice A2 n2 c2) ∧ Below w4.heap.size w4 W) w4.drew := ⟨k0, k1, k2, k3, k4, k5, k6, k7, k8, k9, k10, b4d⟩
            clear k0 k1 k2 k3 k4 k5 k6 k7 k8 k9 k10
            go_upto_region 16 with (fail)
            refine wp_region_held_drew (S := (fun W : World => W.cell? ⟨g, 0, none⟩ = some (.string (str code)) ∧ W.cell? ⟨g, 1, none⟩ = some (.slice A1 n1 c1) ∧ W.cell? ⟨g, 2, none⟩ = some (.int .i64 tick) ∧ W.cell? ⟨g, 3, none⟩ = some (.int .i64 low) ∧ W.cell? ⟨g, 4, none⟩ = some (.int .i64 high) ∧ W.cell? ⟨g, 5, none⟩ = some (.int .i64 wide) ∧ W.cell? ⟨g, 6, none⟩ = some (.int .i64 rule) ∧ W.cell? ⟨g, 7, none⟩ = some (.int .i64 top) ∧ W.cell? ⟨g, 8, none⟩ = some (.int .i64 least) ∧ W.cell? ⟨g, 9, none⟩ = some (.int .i64 part) ∧ W.cell? ⟨g, 10, none⟩ = some (.slice A2 n2 c2) ∧ Below w4.heap.size w4 W)) (by kernel_rfl) z0 (fun hHeld => ?_)
            have hSof : Hid (∀ W W' : World, (fun W : World => W.cell? ⟨g, 0, none⟩ = some (.string (str code)) ∧ W.cell? ⟨g, 1, none⟩ = some (.slice A1 n1 c1) ∧ W.cell? ⟨g, 2, none⟩ = some (.int .i64 tick) ∧ W.cell? ⟨g, 3, none⟩ = some (.int .i64 low) ∧ W.cell? ⟨g, 4, none⟩ = some (.int .i64 high) ∧ W.cell? ⟨g, 5, none⟩ = some (.int .i64 wide) ∧ W.cell? ⟨g, 6, none⟩ = some (.int .i64 rule) ∧ W.cell? ⟨g, 7, none⟩ = some (.int .i64 top) ∧ W.cell? ⟨g, 8, none⟩ = some (.int .i64 least) ∧ W.cell? ⟨g, 9, none⟩ = some (.int .i64 part) ∧ W.cell? ⟨g, 10, none⟩ = some (.slice A2 n2 c2) ∧ Below w4.heap.size w4 W) W → Below W.heap.size W W' → (fun W : World => W.cell? ⟨g, 0, none⟩ = some (.string (str code)) ∧ W.cell? ⟨g, 1, none⟩ = some (.slice A1 n1 c1) ∧ W.cell? ⟨g, 2, none⟩ = some (.int .i64 tick) ∧ W.cell? ⟨g, 3, none⟩ = some (.int .i64 low) ∧ W.cell? ⟨g, 4, none⟩ = some (.int .i64 high) ∧ W.cell? ⟨g, 5, none⟩ = some (.int .i64 wide) ∧ W.cell? ⟨g, 6, none⟩ = some (.int .i64 rule) ∧ W.cell? ⟨g, 7, none⟩ = some (.int .i64 top) ∧ W.cell? ⟨g, 8, none⟩ = some (.int .i64 least) ∧ W.cell? ⟨g, 9, none⟩ = some (.int .i64 part) ∧ W.cell? ⟨g, 10, none⟩ = some (.slice A2 n2 c2) ∧ Below w4.heap.size w4 W) W') := Lib.hid (fun W W' hs b => ⟨(b.cell (World.block_lt_of_cell? W _ hs.1)).trans hs.1, (b.cell (World.block_lt_of_cell? W _ hs.2.1)).trans hs.2.1, (b.cell (World.block_lt_of_cell? W _ hs.2.2.1)).trans hs.2.2.1, (b.cell (World.block_lt_of_cell? W _ hs.2.2.2.1)).trans hs.2.2.2.1, (b.cell (World.block_lt_of_cell? W _ hs.2.2.2.2.1)).trans hs.2.2.2.2.1, (b.cell (World.block_lt_of_cell? W _ hs.2.2.2.2.2.1)).trans hs.2.2.2.2.2.1, (b.cell (World.block_lt_of_cell? W _ hs.2.2.2.2.2.2.1)).trans hs.2.2.2.2.2.2.1, (b.cell (World.block_lt_of_cell? W _ hs.2.2.2.2.2.2.2.1)).trans hs.2.2.2.2.2.2.2.1, (b.cell (World.block_lt_of_cell? W _ hs.2.2.2.2.2.2.2.2.1)).trans hs.2.2.2.2.2.2.2.2.1, (b.cell (World.block_lt_of_cell? W _ hs.2.2.2.2.2.2.2.2.2.1)).trans hs.2.2.2.2.2.2.2.2.2.1, (b.cell (World.block_lt_of_cell? W _ hs.2.2.2.2.2.2.2.2.2.2.1)).trans hs.2.2.2.2.2.2.2.2.2.2.1, hs.2.2.2.2.2.2.2.2.2.2.2.trans (b.mono hs.2.2.2.2.2.2.2.2.2.2.2.size)⟩)
            refine wpAnyH_take (i := 0) (v := .agg #[.string (str code), .slice A1 n1 c1, .int .i64 tick, .int .i64 low, .int .i64 high, .int .i64 wide, .int .i64 rule, .int .i64 top, .int .i64 least, .int .i64 part, .slice A2 n2 c2]) rfl (by kernel_rfl) (by kernel_rfl) (by kernel_rfl) (fun _ _ _ h => h) (Or.inl ⟨by kernel_rfl, fun W hSw => ?_⟩) (by assumption) ?_
            · (try dsimp only at hSw)
              go_simp
            (try simp only [Act.put, List.setIfInBounds_toArray, List.set_cons_zero, List.set_cons_succ])
            refine wpAnyH_take (i := 1) (v := .slice AT nT cT) rfl (by kernel_rfl) (by kernel_rfl) (by kernel_rfl) (fun _ _ _ h => h) (Or.inl ⟨by kernel_rfl, fun W hSw => ?_⟩) (by assumption) ?_
            · (try dsimp only at hSw)
              go_simp
            (try simp only [Act.put, List.setIfInBounds_toArray, List.set_cons_zero, List.set_cons_succ])
            refine wpAnyH_take (i := 2) (v := .int .i64 (inst : Int)) rfl (by kernel_rfl) (by kernel_rfl) (by kernel_rfl) (fun _ _ _ h => h) (Or.inl ⟨by kernel_rfl, fun W hSw => ?_⟩) (by assumption) ?_
            · (try dsimp only at hSw)
              go_simp
            (try simp only [Act.put, List.setIfInBounds_toArray, List.set_cons_zero, List.set_cons_succ])
            refine wpAnyH_take (i := 3) (v := .slice A5 n5 c5) rfl (by kernel_rfl) (by kernel_rfl) (by kernel_rfl) (fun _ _ _ h => h) (Or.inl ⟨by kernel_rfl, fun W hSw => ?_⟩) (by assumption) ?_
            · (try dsimp only at hSw)
              go_simp
            (try simp only [Act.put, List.setIfInBounds_toArray, List.set_cons_zero, List.set_cons_succ])
            refine wpAnyH_take (i := 4) (v := .int .i64 (x : Int)) rfl (by kernel_rfl) (by kernel_rfl) (by kernel_rfl) (fun _ _ _ h => h) (Or.inl ⟨by kernel_rfl, fun W hSw => ?_⟩) (by assumption) ?_
            · (try dsimp only at hSw)
              go_simp
            (try simp only [Act.put, List.setIfInBounds_toArray, List.set_cons_zero, List.set_cons_succ])
            refine wpAnyH_take (i := 5) (v := .int .i64 2) rfl (by kernel_rfl) (by kernel_rfl) (by kernel_rfl) (fun _ _ _ h => h) (Or.inl ⟨by kernel_rfl, fun W hSw => ?_⟩) (by assumption) ?_
            · (try dsimp only at hSw)
              go_simp
            (try simp only [Act.put, List.setIfInBounds_toArray, List.set_cons_zero, List.set_cons_succ])
            refine wpAnyH_take (i := 8) (v := .int .i64 (t : Int)) rfl (by kernel_rfl) (by kernel_rfl) (by kernel_rfl) (fun _ _ _ h => h) (Or.inl ⟨by kernel_rfl, fun W hSw => ?_⟩) (by assumption) ?_
            · (try dsimp only at hSw)
              go_simp
            (try simp only [Act.put, List.setIfInBounds_toArray, List.set_cons_zero, List.set_cons_succ])
            refine wpAnyH_take (i := 9) (v := .int .i64 2) rfl (by kernel_rfl) (by kernel_rfl) (by kernel_rfl) (fun _ _ _ h => h) (Or.inl ⟨by kernel_rfl, fun W hSw => ?_⟩) (by assumption) ?_
            · (try dsimp only at hSw)
              go_simp
            (try simp only [Act.put, List.setIfInBounds_toArray, List.set_cons_zero, List.set_cons_succ])
            refine wpAnyH_take (i := 10) (v := .agg #[.int .i64 (t : Int), .int .i64 2]) rfl (by kernel_rfl) (by kernel_rfl) (by kernel_rfl) (fun _ _ _ h => h) (Or.inl ⟨by kernel_rfl, fun W hSw => ?_⟩) (by assumption) ?_
            · (try dsimp only at hSw)
              go_simp
            (try simp only [Act.put, List.setIfInBounds_toArray, List.set_cons_zero, List.set_cons_succ])
            refine wpAnyH_ready (rs := [6]) (by kernel_rfl) (by simp) ?_
            refine AllReadyH.cons rfl (fun K hK => ?_) AllReadyH.nil
            go_simp
            refine (ROther_any 2 w4.drew (by omega) (by omega)).mono ?_
            rintro e ux ⟨rfl, rfl⟩
            have z1 := z0
            go_wp2_with fail
            refine hK.out _ _ z1 (fun hHeld => ?_)
            clear hK K
            (try simp only [Act.put, List.setIfInBounds_toArray, List.set_cons_zero, List.set_cons_succ])
            refine wpAnyH_take (i := 7) (v := .agg #[.int .i64 (x : Int), .int .i64 1]) rfl (by kernel_rfl) (by kernel_rfl) (by kernel_rfl) (fun _ _ _ h => h) (Or.inl ⟨by kernel_rfl, fun W hSw => ?_⟩) (by assumption) ?_
            · (try dsimp only at hSw)
              go_simp
            (try simp only [Act.put, List.setIfInBounds_toArray, List.set_cons_zero, List.set_cons_succ])
            refine wpAnyH_ready (rs := [11]) (by kernel_rfl) (by simp) ?_
            refine AllReadyH.cons rfl (fun K hK => ?_) AllReadyH.nil
            go_simp
            refine (hj.out w4.drew (ho4.out.below b4d) (BW.out _ (B4.out.drew))).mono ?_
            rintro e w5 ha
            obtain ⟨v5, rfl, ho5, b5⟩ := ha.out
            have z5 := hSof.out _ _ z1 b5
            clear ha
            go_wp2_with fail
            refine hK.out _ _ z5 (fun hHeld => ?_)
            clear hK K
            (try simp only [Act.put, List.setIfInBounds_toArray, List.set_cons_zero, List.set_cons_succ])
            refine wpAnyH_take (i := 12) (v := v5) rfl (by kernel_rfl) (by kernel_rfl) (by kernel_rfl) (fun _ _ _ h => h) (Or.inl ⟨by kernel_rfl, fun W hSw => ?_⟩) (by assumption) ?_
            · (try dsimp only at hSw)
              go_simp
            (try simp only [Act.put, List.setIfInBounds_toArray, List.set_cons_zero, List.set_cons_succ])
            refine wpAnyH_done (by kernel_rfl) ?_ _
            (try simp only [List.getElem_toArray, List.getElem_cons_succ, List.getElem_cons_zero, Act.put, List.setIfInBounds_toArray, List.set_cons_zero, List.set_cons_succ])
            have ho5' := Lib.hid ho5
            have B5 := Lib.hid (below_up (B4.out.drew) b5)
            clear hHeld z5 ho5 b5 z0 hj ho4 B4
            go_wp2_with fail
            go_roundw
            case rel => exact ⟨t + 1, by go_num, hm1, ho5', B5⟩
            case measure => simp [intOf]; omega
          · obtain rfl : inst = t := by omega
            have d2 : decide ((inst : Int) < (inst : Int)) = false := by simp
            have fin : Hid (AnsQ w.heap.size w RQ (.returned (.slice A5 n5 c5)) wr) := Lib.hid (by
              obtain ⟨A, n, c, e, hv, q1, q2, q3, q4⟩ := hO.out
              rw [e, hR.out]
              exact ⟨A, n, c, rfl, hv, q1, q2, q3, q4, BW.out _ hB.out⟩)
            clear k0 k1 k2 k3 k4 k5 k6 k7 k8 k9 k10 hO hle2 hlt2
            go_wp2_with fail
            go_ret
            exact fin.out
set_option maxRecDepth 100000 in
set_option maxHeartbeats 8000000 in
theorem RAllNo (p : PD) (AT : Option Addr) (nT cT : Nat) (inst side : Int) (w : World) (hp : Hid (p.Ok w)) (i1 : -9223372036854775808 ≤ inst) (i2 : inst ≤ 9223372036854775807) (s1 : -9223372036854775808 ≤ side) (s2 : side ≤ 9223372036854775807) (hn : nT ≤ 9223372036854775807) (hno : ¬ (chk p = 0 ∧ nT = cntL p ∧ 0 ≤ inst ∧ inst < nT ∧ (side = 1 ∨ side = 2))) :
    Calls Try.prog 24 #[p.val, .slice AT nT cT, .int .i64 inst, .int .i64 side] w (AnsQ w.heap.size w []) := by
  have hcl := cntL_le p
  obtain ⟨e0, he0⟩ : ∃ e, chk p = e := ⟨_, rfl⟩
  obtain ⟨c0, hc0⟩ : ∃ c, cntL p = c := ⟨_, rfl⟩
  have HC : Hid (∀ W, Below w.heap.size w W → Calls Try.prog 43 #[p.val] W fun e w' => e = .returned (.int .i64 (e0 : Int)) ∧ Below W.heap.size W w') := Lib.hid (fun W b => by have := RefCheck_any p W (Lib.hid (hp.out.below b)); rw [he0] at this; exact this)
  have HN : Hid (∀ W, Below w.heap.size w W → Calls Try.prog 36 #[p.val] W fun e w' => e = .returned (.int .i64 (c0 : Int)) ∧ Below W.heap.size W w') := Lib.hid (fun W b => by have := RefCount_any p W (Lib.hid (hp.out.below b)); rw [hc0] at this; exact this)
  rw [he0, hc0] at hno
  rw [hc0] at hcl
  clear he0 hc0 hp
  obtain ⟨code, A1, n1, c1, tick, low, high, wide, rule, top, least, part, A2, n2, c2, Q, R⟩ := p
  replace HC : Hid (∀ W, Below w.heap.size w W → Calls Try.prog 43 #[.agg #[.string (str code), .slice A1 n1 c1, .int .i64 tick, .int .i64 low, .int .i64 high, .int .i64 wide, .int .i64 rule, .int .i64 top, .int .i64 least, .int .i64 part, .slice A2 n2 c2]] W fun e w' => e = .returned (.int .i64 (e0 : Int)) ∧ Below W.heap.size W w') := HC
  replace HN : Hid (∀ W, Below w.heap.size w W → Calls Try.prog 36 #[.agg #[.string (str code), .slice A1 n1 c1, .int .i64 tick, .int .i64 low, .int .i64 high, .int .i64 wide, .int .i64 rule, .int .i64 top, .int .i64 least, .int .i64 part, .slice A2 n2 c2]] W fun e w' => e = .returned (.int .i64 (c0 : Int)) ∧ Below W.heap.size W w') := HN
  show Calls Try.prog 24 #[.agg #[.string (str code), .slice A1 n1 c1, .int .i64 tick, .int .i64 low, .int .i64 high, .int .i64 wide, .int .i64 rule, .int .i64 top, .int .i64 least, .int .i64 part, .slice A2 n2 c2], .slice AT nT cT, .int .i64 inst, .int .i64 side] w _
  obtain ⟨W0, eW0⟩ : ∃ W0, w.alloc (.cells #[.string (str code), .slice A1 n1 c1, .int .i64 tick, .int .i64 low, .int .i64 high, .int .i64 wide, .int .i64 rule, .int .i64 top, .int .i64 least, .int .i64 part, .slice A2 n2 c2] 25) = W0 := ⟨_, rfl⟩
  obtain ⟨g, eg⟩ : ∃ g, w.heap.size = g := ⟨_, rfl⟩
  have hblk0 : W0.heap[g]? = some (.cells #[.string (str code), .slice A1 n1 c1, .int .i64 tick, .int .i64 low, .int .i64 high, .int .i64 wide, .int .i64 rule, .int .i64 top, .int .i64 least, .int .i64 part, .slice A2 n2 c2] 25 (0, 0)) := by rw [← eW0, ← eg]; exact heap_alloc_new w _
  have b00 : Below w.heap.size w W0 := by rw [← eW0]; exact (Below.refl _ w).alloc (Nat.le_refl _) _
  have KK : Hid (∀ W, Below W0.heap.size W0 W → W.heap[g]? = some (.cells #[.string (str code), .slice A1 n1 c1, .int .i64 tick, .int .i64 low, .int .i64 high, .int .i64 wide, .int .i64 rule, .int .i64 top, .int .i64 least, .int .i64 part, .slice A2 n2 c2] 25 (0, 0))) := Lib.hid (fun W b => (b.block g (Array.getElem?_eq_some_iff.1 hblk0).1).trans hblk0)
  have BW : Hid (∀ W, Below W0.heap.size W0 W → Below w.heap.size w W) := Lib.hid (fun W b => b00.trans (b.mono b00.size))
  obtain ⟨a0, a1, a2, a3, a4, a5, a6, a7, a8, a9, a10⟩ := row11 (heap_alloc_new w (.cells #[.string (str code), .slice A1 n1 c1, .int .i64 tick, .int .i64 low, .int .i64 high, .int .i64 wide, .int .i64 rule, .int .i64 top, .int .i64 least, .int .i64 part, .slice A2 n2 c2] 25))
  have ans : Hid (∀ W, Below W0.heap.size W0 W → AnsQ w.heap.size w [] (.returned (.slice none 0 0)) W) := Lib.hid (fun W b => ⟨none, 0, 0, rfl, hv_nil _ _, Nat.le_refl _, by omega, fun _ => rfl, (fun _ e => by cases e), BW.out _ b⟩)
  replace eW0 := Lib.hid eW0
  replace eg := Lib.hid eg
  clear hblk0 b00
  have B0 := Lib.hid (Below.refl W0.heap.size W0)
  by_cases h0 : e0 ≠ 0
  · have d0 : ((e0 : Int) != 0) = true := bne_iff_ne.2 (by omega)
    clear hno
    go_enter Try.func24, Try.ntmps24
    go_wp2_with fail
    rw [eW0.out, eg.out]
    clear a0 a1 a2 a3 a4 a5 a6 a7 a8 a9 a10 eW0
    refine (HC.out W0 (BW.out _ B0.out)).mono ?_
    rintro e w1 ⟨rfl, bb⟩
    have B1 := Lib.hid (below_up B0.out bb)
    clear bb B0 HC
    go_wp2_with fail
    go_ret
    exact ans.out _ B1.out
  obtain rfl : e0 = 0 := by omega
  have d0 : (((0 : Nat) : Int) != 0) = false := by simp
  by_cases h1 : nT ≠ c0
  · have d1 : ((nT : Int) != (c0 : Int)) = true := bne_iff_ne.2 (by omega)
    clear hno
    go_enter Try.func24, Try.ntmps24
    go_wp2_with fail
    rw [eW0.out, eg.out]
    clear a0 a1 a2 a3 a4 a5 a6 a7 a8 a9 a10 eW0
    refine (HC.out W0 (BW.out _ B0.out)).mono ?_
    rintro e w1 ⟨rfl, bb⟩
    have B1 := Lib.hid (below_up B0.out bb)
    clear bb B0 HC
    obtain ⟨k0, k1, k2, k3, k4, k5, k6, k7, k8, k9, k10⟩ := row11 (KK.out _ B1.out)
    go_wp2_with fail
    refine (HN.out w1 (BW.out _ B1.out)).mono ?_
    rintro e w2 ⟨rfl, bb⟩
    have B2 := Lib.hid (below_up B1.out bb)
    clear k0 k1 k2 k3 k4 k5 k6 k7 k8 k9 k10 bb B1 HN
    go_wp2_with fail
    go_ret
    exact ans.out _ B2.out
  obtain rfl : nT = c0 := by omega
  have d1 : ((nT : Int) != (nT : Int)) = false := by simp
  by_cases h2 : inst < 0
  · have d2 : decide (inst < 0) = true := decide_eq_true h2
    clear hno
    go_enter Try.func24, Try.ntmps24
    go_wp2_with fail
    rw [eW0.out, eg.out]
    clear a0 a1 a2 a3 a4 a5 a6 a7 a8 a9 a10 eW0
    refine (HC.out W0 (BW.out _ B0.out)).mono ?_
    rintro e w1 ⟨rfl, bb⟩
    have B1 := Lib.hid (below_up B0.out bb)
    clear bb B0 HC
    obtain ⟨k0, k1, k2, k3, k4, k5, k6, k7, k8, k9, k10⟩ := row11 (KK.out _ B1.out)
    go_wp2_with fail
    refine (HN.out w1 (BW.out _ B1.out)).mono ?_
    rintro e w2 ⟨rfl, bb⟩
    have B2 := Lib.hid (below_up B1.out bb)
    clear k0 k1 k2 k3 k4 k5 k6 k7 k8 k9 k10 bb B1 HN
    go_wp2_with fail
    go_ret
    exact ans.out _ B2.out
  have d2 : decide (inst < 0) = false := decide_eq_false h2
  by_cases h3 : (nT : Int) ≤ inst
  · have d3 : decide ((nT : Int) ≤ inst) = true := decide_eq_true h3
    clear hno
    go_enter Try.func24, Try.ntmps24
    go_wp2_with fail
    rw [eW0.out, eg.out]
    clear a0 a1 a2 a3 a4 a5 a6 a7 a8 a9 a10 eW0
    refine (HC.out W0 (BW.out _ B0.out)).mono ?_
    rintro e w1 ⟨rfl, bb⟩
    have B1 := Lib.hid (below_up B0.out bb)
    clear bb B0 HC
    obtain ⟨k0, k1, k2, k3, k4, k5, k6, k7, k8, k9, k10⟩ := row11 (KK.out _ B1.out)
    go_wp2_with fail
    refine (HN.out w1 (BW.out _ B1.out)).mono ?_
    rintro e w2 ⟨rfl, bb⟩
    have B2 := Lib.hid (below_up B1.out bb)
    clear k0 k1 k2 k3 k4 k5 k6 k7 k8 k9 k10 bb B1 HN
    go_wp2_with fail
    go_ret
    exact ans.out _ B2.out
  have d3 : decide ((nT : Int) ≤ inst) = false := decide_eq_false h3
  have e1 : side ≠ 1 := fun e => hno ⟨rfl, rfl, by omega, by omega, .inl e⟩
  have e2 : side ≠ 2 := fun e => hno ⟨rfl, rfl, by omega, by omega, .inr e⟩
  have d4 : (side != 1) = true := bne_iff_ne.2 e1
  have d5 : (side != 2) = true := bne_iff_ne.2 e2
  clear hno
  go_enter Try.func24, Try.ntmps24
  go_wp2_with fail
  rw [eW0.out, eg.out]
  clear a0 a1 a2 a3 a4 a5 a6 a7 a8 a9 a10 eW0
  refine (HC.out W0 (BW.out _ B0.out)).mono ?_
  rintro e w1 ⟨rfl, bb⟩
  have B1 := Lib.hid (below_up B0.out bb)
  clear bb B0 HC
  obtain ⟨k0, k1, k2, k3, k4, k5, k6, k7, k8, k9, k10⟩ := row11 (KK.out _ B1.out)
  go_wp2_with fail
  refine (HN.out w1 (BW.out _ B1.out)).mono ?_
  rintro e w2 ⟨rfl, bb⟩
  have B2 := Lib.hid (below_up B1.out bb)
  clear k0 k1 k2 k3 k4 k5 k6 k7 k8 k9 k10 bb B1 HN
  go_wp2_with fail
  go_ret
  exact ans.out _ B2.out
theorem RAll14_any (p : PD) (AT : Option Addr) (nT cT : Nat) (T : List Tp) (inst side : Int) (w : World) (hp : Hid (p.Ok w)) (hT : Hid (HV fTp w AT nT T)) (hOT : Hid (OkT T)) (hi : I64 inst) (hs : I64 side) (hn : nT ≤ 9223372036854775807) :
    Calls Try.prog 24 #[p.val, .slice AT nT cT, .int .i64 inst, .int .i64 side] w (AnsQ w.heap.size w (allQ p T inst side)) := by
  have hlT := hT.out.1
  by_cases h : chk p = 0 ∧ nT = cntL p ∧ 0 ≤ inst ∧ inst < nT ∧ (side = 1 ∨ side = 2)
  · obtain ⟨h1, h2, h3, h4, h5⟩ := h
    obtain ⟨it, rfl⟩ : ∃ it : Nat, inst = (it : Int) := ⟨inst.toNat, by omega⟩
    rcases h5 with rfl | rfl
    · exact RAll1 p AT nT cT T it w hp hT hOT h1 h2 (by omega)
    · exact RAll2 p AT nT cT T it w hp hT hOT h1 h2 (by omega)
  · rw [allQ_no (by rw [hlT]; exact h)]
    exact RAllNo p AT nT cT inst side w hp hi.1 hi.2 hs.1 hs.2 hn h
end Go.Proofs.Ytdeofifidjbolaa
