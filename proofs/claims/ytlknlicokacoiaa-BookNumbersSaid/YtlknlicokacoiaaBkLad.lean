/-
  Contract: Ladder, of book.
-/
import Derived.Test.YtlknlicokacoiaaBkReads
namespace Go.Proofs.Ytlknlicokacoiaa
open Go.RowKit
set_option linter.unusedVariables false
set_option linter.unusedSimpArgs false

theorem info_level : (Try.prog.info? 47).map (fun i => (i.zero, i.size, i.bytes)) = some (some (.agg #[.int .i64 0, .int .i64 0, .int .i64 0]), 3, 24) := by kernel_rfl
theorem hv_oneL {w : World} {h : Nat} {T : TypeId} {x : Lv} (hh : w.heap[h]? = some (.cells x.cells T (0, 0))) : HV fL w (some ⟨h, 0, none⟩) 1 [x] := by
  refine ⟨rfl, fun j y hy => ⟨h, 0, rfl, fun m u hu => ?_⟩⟩
  have hj : j = 0 := by have := (List.getElem?_eq_some_iff.1 hy).1; simpa using this
  subst hj
  simp at hy; subst hy
  rw [Nat.zero_mul, Nat.zero_add, Lib.cell_of_heap hh, ← hu]
  match m with
  | 0 => rfl
  | 1 => rfl
  | 2 => rfl
  | m + 3 => rfl
def LadPost (D : Nat) (L : List Lv) (w : World) (e : Ending) (w' : World) : Prop := ∃ v', e = .returned v' ∧ Own fL 47 w' D v' L ∧ Below D w w'
set_option maxRecDepth 100000 in
set_option maxHeartbeats 2000000 in
theorem Ladder_go (B b a : Nat) (F : Nat → Prop) (V : Nat → Value) (vs : Value) (c : Cs) (s : Int) (R : List (Int × Nat)) (A : Option Addr) (n cap : Nat) (w : World) (hW : Hid (Wb B b a F V vs c w)) (hQ : c.st.Q.length ≤ 250) (HR : Hid (Calls Try.prog 45 #[.pointer (some ⟨b, 0, none⟩), .int .i64 s] w fun e w' => e = .returned (.slice A n cap) ∧ w = w')) (hv : Hid (HV fR w A n R)) (hn : n ≤ 250) :
    Calls Try.prog 19 #[.pointer (some ⟨b, 0, none⟩), .int .i64 s] w (LadPost w.heap.size (R.map (lvR c.st)) w) := by
  obtain ⟨i0, hi0, hz0, hz1, hz2⟩ := info_parts info_level
  have bs : Hid (Below w.heap.size w w) := Lib.hid (Below.refl _ _)
  have st0 : Hid (Own fL 47 w w.heap.size (.slice none 0 0) ((R.map (lvR c.st)).take 0)) := Lib.hid (own_nil _ _ _)
  have hRl : Hid (R.length = n) := Lib.hid hv.out.1
  obtain ⟨g, eg⟩ : ∃ g, w.heap.size = g := ⟨_, rfl⟩
  rw [eg] at st0 ⊢
  replace eg := Lib.hid eg
  go_enter Try.func19, Try.ntmps19
  go_wp2_with fail
  refine HR.out.mono ?_
  rintro e w1 ⟨rfl, rfl⟩
  go_wp2_with fail
  go_loopw [5, 12] (fun v' i wr => ∃ j : Nat, i = .int .i64 j ∧ j ≤ n ∧ Hid (Own fL 47 wr g v' ((R.map (lvR c.st)).take j)) ∧ Hid (Below w.heap.size w wr)) (fun _ i _ => (n - intOf i).toNat)
  case atStart => exact ⟨0, rfl, by omega, st0, bs⟩
  case round =>
    clear st0 bs
    obtain ⟨j, rfl, hj, hOw, hB⟩ := hrel
    by_cases hlt : j < n
    · obtain ⟨r, hr⟩ : ∃ r, R[j]? = some r := ⟨_, List.getElem?_eq_getElem (by rw [hRl.out]; exact hlt)⟩
      have htk : Hid ((R.map (lvR c.st)).take (j + 1) = (R.map (lvR c.st)).take j ++ [lvR c.st r]) := Lib.hid (by rw [List.take_add_one]; congr 1; rw [List.getElem?_map, hr]; rfl)
      obtain ⟨gv, off, rfl, c0, c1⟩ := (hv.out.below hB.out).atR hr
      obtain ⟨W3, eW3⟩ : ∃ W, wr.alloc (.cells #[.int .i64 r.1, .int .i64 (r.2 : Int)] 86) = W := ⟨_, rfl⟩
      have b3 : Below wr.heap.size wr W3 := by rw [← eW3]; exact (Below.refl _ wr).alloc (Nat.le_refl _) _
      have hgr : g ≤ wr.heap.size := by have := hB.out.size; have := eg.out; omega
      have B3 : Hid (Below w.heap.size w W3) := Lib.hid (hB.out.trans (b3.mono hB.out.size))
      have hL := Level_any B b a F V vs c r W3 (Lib.hid (hW.out.below B3.out)) (by omega)
      obtain ⟨lp, ln, lc, elv⟩ : ∃ p n c', lvR c.st r = ⟨p, n, c'⟩ := ⟨_, _, _, rfl⟩
      rw [elv] at hL htk
      have HL' : Hid (Calls Try.prog 46 #[.pointer (some ⟨b, 0, none⟩), .agg #[.int .i64 r.1, .int .i64 (r.2 : Int)]] W3 fun e' w' => e' = .returned (.agg #[.int .i64 lp, .int .i64 ln, .int .i64 lc]) ∧ Below W3.heap.size W3 w') := Lib.hid hL
      obtain ⟨⟨q0, q1⟩, -⟩ := row2 (show W3.heap[wr.heap.size]? = some (.cells #[.int .i64 r.1, .int .i64 (r.2 : Int)] 86 (0, 0)) by rw [← eW3]; exact heap_alloc_new wr _)
      have hO3 := Lib.hid (hOw.out.below b3)
      have hu := Lib.hid (fun k (hk : u5.ownBlock = some k) => hOw.out.lt k hk)
      obtain ⟨rp, rq⟩ := r
      simp only at c0 c1 q0 q1 HL' eW3
      replace b3 := Lib.hid b3
      replace hr := Lib.hid hr
      clear hL elv hOw hB
      go_wp2_with fail
      refine HL'.out.mono ?_
      rintro e w4 ⟨rfl, b4⟩
      obtain ⟨W5, eW5⟩ : ∃ W, w4.alloc (.cells #[.int .i64 lp, .int .i64 ln, .int .i64 lc] 47) = W := ⟨_, rfl⟩
      have b5 : Below W3.heap.size W3 W5 := by rw [← eW5]; exact b4.alloc b4.size _
      have hO5 := Lib.hid (hO3.out.below b5)
      have hv5 : Hid (HV fL W5 (some ⟨w4.heap.size, 0, none⟩) 1 [⟨lp, ln, lc⟩]) := Lib.hid (hv_oneL (x := ⟨lp, ln, lc⟩) (by rw [← eW5]; exact heap_alloc_new w4 _))
      have B5 : Hid (Below w.heap.size w W5) := Lib.hid (B3.out.trans (b5.mono B3.out.size))
      have hg5 : Hid (g ≤ W5.heap.size) := Lib.hid (by have := B5.out.size; have := eg.out; omega)
      have hlen : ((R.map (lvR c.st)).take j).length + 1 ≤ 1000000 := by rw [List.length_take]; omega
      replace b4 := Lib.hid b4
      replace b5 := Lib.hid b5
      clear hO3 HL' eW3 q0 q1 c0 c1 B3
      go_wp2_with (at_builtin; refine wpList_onto_g (fm := fL) (T := 47) rfl (.tmp 16) (.tmp 20) 44 rfl g i0 (.agg #[.int .i64 0, .int .i64 0, .int .i64 0]) 24 Try.underlying44 hi0 hz0 hz1 hz2 rfl (by decide) u5 _ rfl hO5.out (some ⟨w4.heap.size, 0, none⟩) 1 1 [⟨lp, ln, lc⟩] rfl hv5.out (fun e => by cases e) hlen hg5.out ?_)
      intro v6 w6 o6 g6 k6
      have o7 : Hid (Own fL 47 w6 g v6 ((R.map (lvR c.st)).take (j + 1))) := Lib.hid (by rw [htk.out]; exact o6)
      have B6 : Hid (Below w.heap.size w w6) := Lib.hid (B5.out.grown g6 (by have := B5.out.size; omega) (fun k hk => by have := (hu.out k hk).1; have := eg.out; omega))
      clear o6 g6 k6 hO5 B5 hv5 eW5 hu
      go_wp2_with fail
      go_roundw
      case rel => exact ⟨j + 1, by go_num, by omega, o7, B6⟩
      case measure => simp [intOf]; omega
    · obtain rfl : j = n := by omega
      have hfin : Hid (Own fL 47 wr g u5 (R.map (lvR c.st))) := Lib.hid (by
        have := hOw.out
        rwa [List.take_of_length_le (by rw [List.length_map, hRl.out]; exact Nat.le_refl _)] at this)
      clear hOw
      go_wp2_with fail
      go_ret
      exact ⟨_, rfl, hfin.out, by have := hB.out; rw [eg.out] at this; exact this⟩
theorem Ladder_any (B b a : Nat) (F : Nat → Prop) (V : Nat → Value) (vs : Value) (c : Cs) (s : Int) (w : World) (hW : Hid (Wb B b a F V vs c w)) (hI : Hid (CInv noEx c)) (hQ : c.st.Q.length ≤ 250) :
    Calls Try.prog 19 #[.pointer (some ⟨b, 0, none⟩), .int .i64 s] w (LadPost w.heap.size (ladO c.abs s) w) := by
  rcases sideB_cases s with hs | ⟨sn, rfl, hs⟩
  · rw [CInv.lad_no hs]
    exact Ladder_go B b a F V vs c s [] none 0 0 w hW hQ (Lib.hid (Rows_no b s w hs)) (Lib.hid (hv_nil w none)) (by omega)
  · rw [hI.out.lad hs]
    obtain ⟨A, cap, ev, hv, -, -, -, -⟩ := (hW.out.bm.rw sn hs).slice
    have HR := Rows_yes b a V vs c.R c.T c.S sn w (Lib.hid hW.out.bm) hs
    rw [ev] at HR
    exact Ladder_go B b a F V vs c (sn : Int) (c.R sn) A (c.R sn).length cap w hW hQ (Lib.hid HR) (Lib.hid hv) (Nat.le_trans (hI.out.rows_le' sn) hQ)
end Go.Proofs.Ytlknlicokacoiaa
