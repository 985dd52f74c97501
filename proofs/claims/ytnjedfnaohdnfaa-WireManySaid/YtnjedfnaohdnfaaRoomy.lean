/-
  Contracts: Roomy and Intact of bytes, of the book.
-/
import Derived.Test.YtnjedfnaohdnfaaKeepBytes
import Derived.Laws.CopyOwn
namespace Go.Proofs.Ytnjedfnaohdnfaa
open Go.RowKit
set_option linter.unusedVariables false
set_option linter.unusedSimpArgs false

theorem rb_block {w : World} {base g n : Nat} {l : List UInt8} (h : RB w base (.slice (some ⟨g, 0, none⟩) n n) l) (hl : l.length = n) : w.heap[g]? = some (.cells (l.map bc).toArray 5 (0, 0)) ∧ base ≤ g := by
  rcases h.2 with ⟨h', _⟩ | ⟨g', cap', cur, h', hb, hg, _, _, hcs, htake⟩
  · simp at h'
  · simp only [Value.slice.injEq, Option.some.injEq, Addr.mk.injEq, and_true, true_and] at h'
    obtain ⟨rfl, _, rfl⟩ := h'
    refine ⟨?_, hb⟩
    rw [List.take_of_length_le (by rw [Array.length_toList, hcs, hl]; omega)] at htake
    rw [← htake]
    exact hg
theorem rb_of_block {w : World} {base g n : Nat} {l : List UInt8} (h : w.heap[g]? = some (.cells (l.map bc).toArray 5 (0, 0))) (hb : base ≤ g) (hl : l.length = n) (hm : n ≤ maxLen) : RB w base (.slice (some ⟨g, 0, none⟩) n n) l := by
  refine ⟨by simp, .inr ⟨g, n, (l.map bc).toArray, by rw [hl], hb, h, by omega, hm, by simp [hl], ?_⟩⟩
  rw [List.take_of_length_le (by simp)]
theorem rb_stored {w : World} {base g n cap : Nat} {l : List UInt8} (hl : l.length = n) (h : RB w base (.slice (some ⟨g, 0, none⟩) n cap) l) (j : Nat) (u : UInt8) :
    RB (w.setCell ⟨g, j, none⟩ (bc u)) base (.slice (some ⟨g, 0, none⟩) n cap) (l.set j u) ∧ w.grownBy (w.setCell ⟨g, j, none⟩ (bc u)) (some g) := by
  unfold RB at h ⊢
  rw [hl] at h
  obtain ⟨h1, h2⟩ := World.ownsRow.stored h j (bc u)
  refine ⟨?_, h2⟩
  rw [List.length_set, hl, List.map_set]
  exact h1
theorem rb_cell {w : World} {base g n cap : Nat} {l : List UInt8} (hl : l.length = n) (h : RB w base (.slice (some ⟨g, 0, none⟩) n cap) l) (j : Nat) (hj : j < n) :
    w.cell? ⟨g, j, none⟩ = some (bc (l.getD j 0)) ∧ w.frozen? ⟨g, j, none⟩ = false := by
  unfold RB at h
  rw [hl] at h
  refine ⟨?_, World.ownsRow.frozenAt h j⟩
  rw [World.ownsRow.cellAt h j (by omega)]
  simp [List.getD, List.getElem?_eq_getElem (show j < l.length by omega)]
theorem zeros_bc (n : Nat) : (madeCells #[Value.int .u8 0] n).toList = (List.replicate n (0 : UInt8)).map bc := by
  rw [toList_madeCells_one, List.map_replicate]
  rfl
theorem splice_zero (l : List UInt8) (k : Nat) : splice (List.replicate (l.length + k) (bc 0)) 0 (l.map bc) = (l ++ List.replicate k 0).map bc := by
  unfold splice
  simp
theorem mark_next (l : List UInt8) (x : UInt8) (a b : Nat) : (l ++ List.replicate a x ++ List.replicate (b + 1) (0 : UInt8)).set (l.length + a) x = l ++ List.replicate (a + 1) x ++ List.replicate b 0 := by
  rw [List.set_append_right _ _ (by simp)]
  rw [show l.length + a - (l ++ List.replicate a x).length = 0 by simp, List.replicate_succ, List.set_cons_zero, List.replicate_succ']
  simp

set_option maxRecDepth 100000 in
set_option maxHeartbeats 2000000 in
theorem Roomy_any (A : Option Addr) (n cap : Nat) (l : List UInt8) (x : UInt8) (w : World) (hn : n ≤ 1000000000) (h : Hid (HB w A n l)) :
    Calls Try.prog 19 #[.slice A n cap, .int .u8 x.toNat] w fun e w' => ∃ g, e = .returned (.slice (some ⟨g, 0, none⟩) (n + 80) (n + 80)) ∧ RB w' w.heap.size (.slice (some ⟨g, 0, none⟩) (n + 80) (n + 80)) (l ++ List.replicate 80 x) ∧ Below w.heap.size w w' := by
  obtain ⟨i0, hi0, hz0, hz1, hz2⟩ := info_parts info_u8
  have hl := Lib.hid h.out.1
  have en : ((n + 80 : Nat) : Int) = (n : Int) + 80 := by omega
  go_enter Try.func19, Try.ntmps19
  go_wp2_with (at_make; refine wpList_make_full _ (by rfl) (.tmp 9) (.tmp 9) 22 (by rfl) w.heap.size 5 i0 (.int .u8 0) 1 Try.underlying22 hi0 hz0 hz1 .i64 .i64 _ _ (n + 80) (by rfl) (by rfl) en.symm en.symm ?b1 ?b2 ?b3 ?_)
  case b1 => rw [hz2]; omega
  case b2 => unfold maxLen; omega
  case b3 => exact Nat.le_refl _
  rw [zeros_bc]
  intro w1 r1 g1
  have b1 := Lib.hid ((Below.refl w.heap.size w).grown g1 (Nat.le_refl _) (fun k hk => by cases hk))
  have R1 : RB w1 w.heap.size (.slice (some ⟨w.heap.size, 0, none⟩) (n + 80) (n + 80)) (List.replicate (n + 80) 0) := by
    unfold RB; rw [List.length_replicate]; exact r1
  obtain ⟨hblk, _⟩ := rb_block R1 (by simp)
  have H1 := Lib.hid (h.out.below b1.out)
  have hblk := Lib.hid hblk
  clear r1 g1
  have hsz : (Try.prog.info? 5).map (·.size) = some 1 := by rw [hi0]; simp [hz1]
  have hlen := h.out.1
  go_wp2_with (refine wpList_copy_splice (by rfl) (.tmp 11) (.tmp 12) 22 22 (by rfl) 5 Try.underlying22 hsz (some ⟨w.heap.size, 0, none⟩) A (n + 80) (n + 80) n cap (by rfl) (by rfl) w.heap.size 0 ((List.replicate (n + 80) (0 : UInt8)).map bc) 5 hblk.out (l.map bc) ?c1 ?c2 ?c3 ?c4 w.heap.size w b1.out (Nat.le_refl _) ?_)
  case c1 => simp [hlen]
  case c2 =>
    intro hpos
    obtain ⟨b, off, rfl, hc⟩ := h.out.2 hpos
    refine ⟨⟨b, off, none⟩, rfl, fun j v hj => ?_⟩
    obtain ⟨b', off', e', hc'⟩ := H1.out.2 hpos
    injection e' with e'
    injection e' with f1 f2
    subst f1; subst f2
    have hjl : j < l.length := by
      rcases Nat.lt_or_ge j l.length with hq | hq
      · exact hq
      · rw [List.getElem?_eq_none (by simpa using hq)] at hj; cases hj
    rw [WideShapes.add_plain, hc' j (by omega)]
    simp [List.getD, hj]
  case c3 => simp [hlen]
  case c4 => intro v hv; obtain ⟨y, _, rfl⟩ := List.mem_map.1 hv; rfl
  intro w2 hblk2 b2
  have hs2 : Hid (RB w2 w.heap.size (.slice (some ⟨w.heap.size, 0, none⟩) (n + 80) (n + 80)) (l ++ List.replicate 80 0)) := Lib.hid (by
    have e := hblk2.out
    rw [← hlen, splice_zero] at e
    exact rb_of_block e (Nat.le_refl _) (by simp [hlen]) (by unfold maxLen; omega))
  have b2 := Lib.hid b2
  obtain ⟨g, eg⟩ : ∃ g, w.heap.size = g := ⟨_, rfl⟩
  clear hblk2 hlen
  go_wp2_with fail
  rw [eg]
  go_loopw [6] (fun i wr => ∃ k : Nat, i = .int .i64 ((n : Int) + k) ∧ k ≤ 80 ∧ Hid (RB wr g (.slice (some ⟨g, 0, none⟩) (n + 80) (n + 80)) (l ++ List.replicate k x ++ List.replicate (80 - k) 0)) ∧ Hid (Below g w wr)) (fun i _ => (n + 80 - intOf i).toNat)
  case atStart => exact ⟨0, by go_num, by omega, Lib.hid (by rw [← eg]; simpa using hs2.out), by rw [← eg]; exact b2⟩
  case round =>
    obtain ⟨k, rfl, hk, hR, hB⟩ := hrel
    by_cases hlt : k < 80
    · have d1 : decide ((n : Int) + (k : Int) < (n : Int) + 80) = true := decide_eq_true (by omega)
      have hll : (l ++ List.replicate k x ++ List.replicate (80 - k) 0).length = n + 80 := by simp [hl.out]; omega
      obtain ⟨r2, g2⟩ := rb_stored hll hR.out (n + k) x
      obtain ⟨hcell, hf⟩ := rb_cell hll hR.out (n + k) (by omega)
      unfold bc at hcell
      have hnext : Hid (RB (wr.setCell ⟨g, n + k, none⟩ (bc x)) g (.slice (some ⟨g, 0, none⟩) (n + 80) (n + 80)) (l ++ List.replicate (k + 1) x ++ List.replicate (80 - (k + 1)) 0)) := Lib.hid (by
        have e := mark_next l x k (80 - (k + 1))
        rw [show 80 - (k + 1) + 1 = 80 - k by omega, hl.out] at e
        rw [← e]; exact r2)
      have hB2 : Hid (Below g w (wr.setCell ⟨g, n + k, none⟩ (bc x))) := Lib.hid (hB.out.setCell (p := ⟨g, n + k, none⟩) (Nat.le_refl _) _)
      unfold bc at hnext hB2
      clear r2 g2
      go_wp2_with fail
      go_roundw
      case rel => exact ⟨k + 1, by go_num, by omega, hnext, hB2⟩
      case measure => simp [intOf]; omega
    · obtain rfl : k = 80 := by omega
      have d1 : decide ((n : Int) + 80 < (n : Int) + 80) = false := decide_eq_false (by omega)
      have hfin := Lib.hid (show RB wr g (.slice (some ⟨g, 0, none⟩) (n + 80) (n + 80)) (l ++ List.replicate 80 x) by have := hR.out; simpa using this)
      go_wp2_with fail
      go_ret
      exact ⟨g, rfl, by rw [eg]; exact hfin.out, by rw [eg]; exact hB.out⟩

set_option maxRecDepth 100000 in
set_option maxHeartbeats 1000000 in
/-- A list that Roomy made is as it was. -/
theorem Intact_yes (b off n ca cb : Nat) (B : Option Addr) (l : List UInt8) (x : UInt8) (w : World) (hn : n ≤ 1000000000) (hca : n + 80 ≤ ca) (hca2 : ca ≤ 9223372036854775807) (h : Hid (HB w (some ⟨b, off, none⟩) (n + 80) (l ++ List.replicate 80 x))) (hb : Hid (HB w B n l)) :
    Calls Try.prog 20 #[.slice (some ⟨b, off, none⟩) (n + 80) ca, .slice B n cb, .int .u8 x.toNat] w fun e w' => e = .returned (.bool true) ∧ ∃ q, w' = w.drewN q := by
  have q1 : n ≤ ca := by omega
  have hd : ((n : Int) + 80 != (n : Int) + 80) = false := by simp
  have hl := Lib.hid hb.out.1
  have HT : Hid (HB w (some ⟨b, off, none⟩) n l) := Lib.hid (by
    have := h.out.take (k := n) (by omega)
    rw [List.take_left' hl.out] at this
    exact this)
  go_enter Try.func20, Try.ntmps20
  go_wp2_with fail
  refine (Same_any (some ⟨b, off, none⟩) B n n ca cb l l _ (by omega) (by omega) HT hb).mono ?_
  rintro e w1 ⟨rfl, q, rfl⟩
  rw [decide_eq_true (rfl : l = l)]
  go_wp2_with fail
  go_loopw [7] (fun i wr => ∃ k : Nat, i = .int .i64 ((n : Int) + k) ∧ k ≤ 80 ∧ wr = w.drewN q) (fun i _ => (n + 80 - intOf i).toNat)
  case atStart => exact ⟨0, by go_num, by omega, rfl⟩
  case round =>
    obtain ⟨k, rfl, hk, rfl⟩ := hrel
    by_cases hlt : k < 80
    · have d1 : decide ((n : Int) + (k : Int) < (n : Int) + 80) = true := decide_eq_true (by omega)
      obtain ⟨b', off', e', hc⟩ := h.out.2 (by omega)
      injection e' with e'
      injection e' with f1 f2
      subst f1; subst f2
      have hcell := hc (n + k) (by omega)
      have hx : (l ++ List.replicate 80 x).getD (n + k) 0 = x := by
        rw [List.getD_eq_getElem?_getD, List.getElem?_append_right (by rw [hl.out]; omega), hl.out]
        rw [Nat.add_sub_cancel_left, List.getElem?_replicate, if_pos hlt]; rfl
      rw [hx] at hcell
      unfold bc at hcell
      clear hc hx
      have i1 : ((x.toNat : Int) != (x.toNat : Int)) = false := by simp
      go_wp2_with fail
      go_roundw
      case rel => exact ⟨k + 1, by go_num, by omega, by first | trivial | rfl⟩
      case measure => simp [intOf]; omega
    · obtain rfl : k = 80 := by omega
      have d1 : decide ((n : Int) + 80 < (n : Int) + 80) = false := decide_eq_false (by omega)
      go_wp2_with fail
      go_ret
      exact ⟨rfl, q, rfl⟩
end Go.Proofs.Ytnjedfnaohdnfaa
