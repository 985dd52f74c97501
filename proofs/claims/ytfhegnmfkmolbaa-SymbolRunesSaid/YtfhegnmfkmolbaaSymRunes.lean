/-
  The walk of the law SymbolRunes.
-/
import Derived.Test.YtfhegnmfkmolbaaSymFacts
namespace Go.Proofs.Ytfhegnmfkmolbaa
open Go.RowKit
set_option linter.unusedVariables false
set_option linter.unusedSimpArgs false

theorem encode_two (r : Nat) (h : r < 2048) : Utf8.encode (r : Int) = str (enc r) := by
  have hv : Utf8.valid (r : Int) = true := by unfold Utf8.valid; simp; omega
  unfold Utf8.encode enc
  simp only [hv, if_true, Int.toNat_natCast]
  by_cases h1 : r < 128
  · rw [if_pos h1, if_pos h1]; rfl
  · rw [if_neg h1, if_neg h1, if_pos h]; rfl
theorem enc_ne (r : Nat) : enc r ≠ [] := by unfold enc; split <;> simp
theorem runes_enc {r : Nat} (h : r < 2048) : runes (enc r) = [(r, enc r)] := by
  have hs := step_enc h []
  rw [List.append_nil] at hs
  rw [runes_cons _ (enc_ne r), hs]
  simp only [List.take_length, List.drop_length, runes_nil]
theorem dec_high {b : UInt8} (h : 224 ≤ b.toNat) (c : List UInt8) : 2048 ≤ (dec b c).1 := by
  have h1 : ¬ b.toNat < 128 := by omega
  have h2 : ¬ b.toNat / 32 = 6 := by have := b.toNat_lt; omega
  unfold dec
  split
  all_goals simp only [h1, h2, if_false, false_and]
  all_goals (repeat' split)
  all_goals first | omega | (simp only; omega)
theorem high_no {b : UInt8} {t : List UInt8} (h : 224 ≤ b.toNat) : prodB (b :: t) = false := by
  have hd := dec_high h (tw t)
  rw [← step_cons] at hd
  refine prodB_bad (k := 0) (r := (step (b :: t)).1) (x := (b :: t).take (step (b :: t)).2) ?_ ?_
  · rw [runes_cons _ (by simp)]; rfl
  · exact decide_eq_false (by omega)
/-- A rune alone is a product just where it may be. -/
theorem prod_encode (r : Nat) : ∃ z, Utf8.encode (r : Int) = str z ∧ prodB z = okS r ∧ z.length ≤ 4 := by
  by_cases h : r < 2048
  · refine ⟨enc r, encode_two r h, ?_, by unfold enc; split <;> simp⟩
    unfold prodB
    rw [runes_enc h]
    simp
  · have hok : okS r = false := decide_eq_false (by omega)
    rw [hok]
    refine ⟨(Utf8.encode (r : Int)).data.toList, (str_self _).symm, ?_⟩
    obtain ⟨c, hc, hc2⟩ : ∃ c, (if Utf8.valid (r : Int) = true then ((r : Int)).toNat else Utf8.runeError) = c ∧ 2048 ≤ c ∧ c ≤ 1114111 := by
      cases hv : Utf8.valid (r : Int)
      · exact ⟨65533, rfl, by omega, by omega⟩
      · rw [validRune_eq] at hv
        have h3 : ((0 : Int) ≤ r ∧ (r : Int) < 55296) ∨ ((57343 : Int) < r ∧ (r : Int) ≤ 1114111) := of_decide_eq_true hv
        exact ⟨r, rfl, by omega, by omega⟩
    unfold Utf8.encode
    simp only [hc]
    rw [if_neg (by omega), if_neg (by omega)]
    split
    · refine ⟨high_no ?_, by simp⟩
      simp; omega
    · refine ⟨high_no ?_, by simp⟩
      simp; omega

/-- Are the first k runes such as may be? -/
def goodTo (l : List UInt8) (k : Nat) : Bool := ((runes l).take k).all (fun p => okS p.1)
theorem goodTo_zero (l : List UInt8) : goodTo l 0 = true := by simp [goodTo]
theorem goodTo_next {l : List UInt8} {k r : Nat} {x : List UInt8} (h : (runes l)[k]? = some (r, x)) : goodTo l (k + 1) = (goodTo l k && okS r) := by
  unfold goodTo
  rw [List.take_add_one, h, List.all_append]
  simp
theorem goodTo_all (l : List UInt8) : prodB l = (goodTo l (runes l).length && (decide (1 ≤ (runes l).length) && decide ((runes l).length ≤ 4))) := by
  unfold goodTo prodB
  rw [List.take_length]
theorem heap_keep {w w' : World} {k : Nat} {o : Obj} (hb : Below w.heap.size w w') (h : w.heap[k]? = some o) : w'.heap[k]? = some o := heap_below hb h

set_option maxRecDepth 100000 in
set_option maxHeartbeats 8000000 in
theorem SRunes_go (P l : List UInt8) (w : World) (ep : Hid (P.take 60 = l)) (pl : l.length ≤ 60) :
    Calls Try.prog 8 #[.string (str P)] w fun e w' => e = .returned (.bool true) ∧ Below w.heap.size w w' := by
  have fl : (runes l).length ≤ 60 := Nat.le_trans (runes_len l) pl
  obtain ⟨g, eg⟩ : ∃ g, w.heap.size = g := ⟨_, rfl⟩
  go_enter Try.func8, Try.ntmps8
  go_wp2_with fail
  refine (SFew_any P _).mono ?_
  rintro z w0 ⟨rfl, rfl⟩
  rw [ep.out]
  go_wp2_with fail
  go_loopw [3, 4] (fun c b wr => ∃ k pos : Nat, k ≤ 60 ∧ c = .int .i64 k ∧ b = .bool (goodTo l k) ∧ Hid (At l k pos) ∧ wr.heap[g]? = some (.stringIter (str l) pos) ∧ Hid (Below g w0 wr)) (fun _ _ wr => l.length - wr.iterPos g)
  case atStart =>
    refine ⟨0, 0, by omega, rfl, by rw [goodTo_zero], Lib.hid (at_zero l), ?_, Lib.hid ((Below.refl _ w0).alloc (by omega) _)⟩
    have := World.iter_heap w0 (str l) 0
    simpa [eg] using this
  case round =>
    obtain ⟨k, pos, hk, rfl, rfl, hat, hit, hbel⟩ := hrel
    obtain ⟨gk, egk⟩ : ∃ gk, goodTo l k = gk := ⟨_, rfl⟩
    rw [egk]
    have hsz : g < wr.heap.size := (Array.getElem?_eq_some_iff.1 hit).1
    by_cases hp : pos < l.length
    · obtain ⟨r, d, _, hnx, hd, hpd, hkl, hg, ha2, hr⟩ := at_step hat.out hp
      have ha2 := Lib.hid ha2
      have hn := fun ty => hnx wr g ty hit
      clear hnx
      have hit2 := Lib.hid (Lib.iterAt_heap wr g (str l) pos (pos + d) hit)
      have hbel2 := Lib.hid (Lib.below_iterAt hbel.out (k := g) (by omega) (str l) (pos + d))
      obtain ⟨W, hW⟩ : ∃ W, wr.iterAt g (str l) (pos + d) = W := ⟨_, rfl⟩
      rw [hW] at hit2 hbel2 hn
      clear hW
      have hWz : g < W.heap.size := (Array.getElem?_eq_some_iff.1 hit2.out).1
      have hgn := goodTo_next hg
      rw [egk] at hgn
      have egk := Lib.hid egk
      obtain ⟨z, ez, hz, zl⟩ := prod_encode r
      have cz : ∀ V : World, (convert 21 9 (.int .i32 (r : Int))).run Try.prog V = .ok (.string (str z)) V := fun V => by
        rw [run_convert_int_string V 21 9 .i32 _ (by kernel_rfl) Try.underlying9, ez]
      clear ez
      cases hb : okS r
      · rw [hb] at hgn hz
        have hz := Lib.hid hz
        have hg2 : Hid (goodTo l (k + 1) = false) := Lib.hid (by rw [hgn]; cases gk <;> rfl)
        clear hgn
        rcases okS_ways hb with h1 | ⟨h1, h2⟩ | h1 | h1
        · clear hb
          have t1 : decide (65 ≤ (r : Int)) = false := decide_eq_false (by omega)
          have t2 : decide (913 ≤ (r : Int)) = false := decide_eq_false (by omega)
          clear h1
          go_wp2_with fail
          refine (Product_any z _).mono ?_
          rintro e w1 ⟨rfl, bz⟩
          rw [hz.out]
          have hit3 := Lib.hid (heap_below bz hit2.out)
          have hbel3 := Lib.hid (hbel2.out.trans (bz.mono (by omega)))
          clear bz
          cases gk
          · go_wp2_with fail
            go_roundw
            case rel => exact ⟨k + 1, pos + d, by omega, by go_num, by rw [hg2.out], ha2, hit3.out, hbel3⟩
            case measure => simp only [World.iterPos, hit3.out, hit]; omega
          · go_wp2_with fail
            go_roundw
            case rel => exact ⟨k + 1, pos + d, by omega, by go_num, by rw [hg2.out], ha2, hit3.out, hbel3⟩
            case measure => simp only [World.iterPos, hit3.out, hit]; omega
        · clear hb
          have t1 : decide (65 ≤ (r : Int)) = true := decide_eq_true (by omega)
          have t2 : decide ((r : Int) ≤ 90) = false := decide_eq_false (by omega)
          have t3 : decide (913 ≤ (r : Int)) = false := decide_eq_false (by omega)
          clear h1 h2
          go_wp2_with fail
          refine (Product_any z _).mono ?_
          rintro e w1 ⟨rfl, bz⟩
          rw [hz.out]
          have hit3 := Lib.hid (heap_below bz hit2.out)
          have hbel3 := Lib.hid (hbel2.out.trans (bz.mono (by omega)))
          clear bz
          cases gk
          · go_wp2_with fail
            go_roundw
            case rel => exact ⟨k + 1, pos + d, by omega, by go_num, by rw [hg2.out], ha2, hit3.out, hbel3⟩
            case measure => simp only [World.iterPos, hit3.out, hit]; omega
          · go_wp2_with fail
            go_roundw
            case rel => exact ⟨k + 1, pos + d, by omega, by go_num, by rw [hg2.out], ha2, hit3.out, hbel3⟩
            case measure => simp only [World.iterPos, hit3.out, hit]; omega
        · clear hb
          have t1 : decide (65 ≤ (r : Int)) = true := decide_eq_true (by omega)
          have t2 : decide ((r : Int) ≤ 90) = false := decide_eq_false (by omega)
          have t3 : decide (913 ≤ (r : Int)) = true := decide_eq_true (by omega)
          have t4 : decide ((r : Int) ≤ 937) = false := decide_eq_false (by omega)
          clear h1
          go_wp2_with fail
          refine (Product_any z _).mono ?_
          rintro e w1 ⟨rfl, bz⟩
          rw [hz.out]
          have hit3 := Lib.hid (heap_below bz hit2.out)
          have hbel3 := Lib.hid (hbel2.out.trans (bz.mono (by omega)))
          clear bz
          cases gk
          · go_wp2_with fail
            go_roundw
            case rel => exact ⟨k + 1, pos + d, by omega, by go_num, by rw [hg2.out], ha2, hit3.out, hbel3⟩
            case measure => simp only [World.iterPos, hit3.out, hit]; omega
          · go_wp2_with fail
            go_roundw
            case rel => exact ⟨k + 1, pos + d, by omega, by go_num, by rw [hg2.out], ha2, hit3.out, hbel3⟩
            case measure => simp only [World.iterPos, hit3.out, hit]; omega
        · clear hb
          have t1 : decide (65 ≤ (r : Int)) = true := decide_eq_true (by omega)
          have t2 : decide ((r : Int) ≤ 90) = false := decide_eq_false (by omega)
          have t3 : decide (913 ≤ (r : Int)) = true := decide_eq_true (by omega)
          have t4 : decide ((r : Int) ≤ 937) = true := decide_eq_true (by omega)
          have t5 : ((r : Int) != 930) = false := by simp; omega
          clear h1
          go_wp2_with fail
          refine (Product_any z _).mono ?_
          rintro e w1 ⟨rfl, bz⟩
          rw [hz.out]
          have hit3 := Lib.hid (heap_below bz hit2.out)
          have hbel3 := Lib.hid (hbel2.out.trans (bz.mono (by omega)))
          clear bz
          cases gk
          · go_wp2_with fail
            go_roundw
            case rel => exact ⟨k + 1, pos + d, by omega, by go_num, by rw [hg2.out], ha2, hit3.out, hbel3⟩
            case measure => simp only [World.iterPos, hit3.out, hit]; omega
          · go_wp2_with fail
            go_roundw
            case rel => exact ⟨k + 1, pos + d, by omega, by go_num, by rw [hg2.out], ha2, hit3.out, hbel3⟩
            case measure => simp only [World.iterPos, hit3.out, hit]; omega
      · rw [hb] at hgn hz
        have hz := Lib.hid hz
        have hg2 : Hid (goodTo l (k + 1) = gk) := Lib.hid (by rw [hgn]; cases gk <;> rfl)
        clear hgn
        rcases okS_yes hb with ⟨h1, h2⟩ | ⟨h1, h2, h3⟩
        · clear hb
          have t1 : decide (65 ≤ (r : Int)) = true := decide_eq_true (by omega)
          have t2 : decide ((r : Int) ≤ 90) = true := decide_eq_true (by omega)
          clear h1 h2
          go_wp2_with fail
          refine (Product_any z _).mono ?_
          rintro e w1 ⟨rfl, bz⟩
          rw [hz.out]
          have hit3 := Lib.hid (heap_below bz hit2.out)
          have hbel3 := Lib.hid (hbel2.out.trans (bz.mono (by omega)))
          clear bz
          cases gk
          · go_wp2_with fail
            go_roundw
            case rel => exact ⟨k + 1, pos + d, by omega, by go_num, by rw [hg2.out], ha2, hit3.out, hbel3⟩
            case measure => simp only [World.iterPos, hit3.out, hit]; omega
          · go_wp2_with fail
            go_roundw
            case rel => exact ⟨k + 1, pos + d, by omega, by go_num, by rw [hg2.out], ha2, hit3.out, hbel3⟩
            case measure => simp only [World.iterPos, hit3.out, hit]; omega
        · clear hb
          have t1 : decide (65 ≤ (r : Int)) = true := decide_eq_true (by omega)
          have t2 : decide ((r : Int) ≤ 90) = false := decide_eq_false (by omega)
          have t3 : decide (913 ≤ (r : Int)) = true := decide_eq_true (by omega)
          have t4 : decide ((r : Int) ≤ 937) = true := decide_eq_true (by omega)
          have t5 : ((r : Int) != 930) = true := by simp; omega
          clear h1 h2 h3
          go_wp2_with fail
          refine (Product_any z _).mono ?_
          rintro e w1 ⟨rfl, bz⟩
          rw [hz.out]
          have hit3 := Lib.hid (heap_below bz hit2.out)
          have hbel3 := Lib.hid (hbel2.out.trans (bz.mono (by omega)))
          clear bz
          cases gk
          · go_wp2_with fail
            go_roundw
            case rel => exact ⟨k + 1, pos + d, by omega, by go_num, by rw [hg2.out], ha2, hit3.out, hbel3⟩
            case measure => simp only [World.iterPos, hit3.out, hit]; omega
          · go_wp2_with fail
            go_roundw
            case rel => exact ⟨k + 1, pos + d, by omega, by go_num, by rw [hg2.out], ha2, hit3.out, hbel3⟩
            case measure => simp only [World.iterPos, hit3.out, hit]; omega
    · have hn := fun ty => (at_stop hp).2 wr g ty hit
      have he := (at_end hat.out hp).2
      subst he
      have hall := goodTo_all l
      rw [egk] at hall
      clear egk
      cases gk
      · have hpb := Lib.hid (show prodB l = false by rw [hall]; rfl)
        have c1 := Lib.hid (codeE_bad (m := 0) hpb.out)
        clear hall
        go_wp2_with fail
        refine (Code_any l 0 _).mono ?_
        rintro e w1 ⟨rfl, bz⟩
        rw [c1.out]
        have B1 := Lib.hid (hbel.out.trans (bz.mono (by omega)))
        have hs1 := bz.size
        clear bz
        go_wp2_with fail
        refine (Product_any l _).mono ?_
        rintro e w2 ⟨rfl, bz⟩
        rw [hpb.out]
        have B2 := Lib.hid (B1.out.trans (bz.mono (by omega)))
        have hs2 := bz.size
        clear bz
        go_wp2_with fail
        refine (Product_any l _).mono ?_
        rintro e w3 ⟨rfl, bz⟩
        rw [hpb.out]
        have B3 := Lib.hid (B2.out.trans (bz.mono (by omega)))
        have hs3 := bz.size
        clear bz
        go_wp2_with fail
        refine (SKnown_any _).mono ?_
        rintro e w4 ⟨rfl, bz⟩
        have B4 := Lib.hid (B3.out.trans (bz.mono (by omega)))
        clear bz
        go_wp2_with fail
        go_ret
        exact ⟨rfl, by rw [eg]; exact B4.out⟩
      · obtain ⟨n, en⟩ : ∃ n, (runes l).length = n := ⟨_, rfl⟩
        rw [en] at hall hk ⊢
        clear en
        by_cases n1 : 1 ≤ n
        · have d1 : decide (1 ≤ (n : Int)) = true := decide_eq_true (by omega)
          have d1' : decide (1 ≤ n) = true := decide_eq_true n1
          by_cases n4 : n ≤ 4
          · have d2 : decide ((n : Int) ≤ 4) = true := decide_eq_true (by omega)
            have d2' : decide (n ≤ 4) = true := decide_eq_true n4
            have hpb := Lib.hid (show prodB l = true by rw [hall, d1', d2']; rfl)
            have c1 := Lib.hid (codeE_ok (m := 0) hpb.out (by omega))
            clear hall n1 n4
            go_wp2_with fail
            refine (Code_any l 0 _).mono ?_
            rintro e w1 ⟨rfl, bz⟩
            rw [show codeE l 0 = 0 from c1.out]
            have B1 := Lib.hid (hbel.out.trans (bz.mono (by omega)))
            have hs1 := bz.size
            clear bz
            go_wp2_with fail
            refine (Product_any l _).mono ?_
            rintro e w2 ⟨rfl, bz⟩
            rw [hpb.out]
            have B2 := Lib.hid (B1.out.trans (bz.mono (by omega)))
            have hs2 := bz.size
            clear bz
            go_wp2_with fail
            refine (Product_any l _).mono ?_
            rintro e w3 ⟨rfl, bz⟩
            rw [hpb.out]
            have B3 := Lib.hid (B2.out.trans (bz.mono (by omega)))
            have hs3 := bz.size
            clear bz
            go_wp2_with fail
            refine (SKnown_any _).mono ?_
            rintro e w4 ⟨rfl, bz⟩
            have B4 := Lib.hid (B3.out.trans (bz.mono (by omega)))
            clear bz
            go_wp2_with fail
            go_ret
            exact ⟨rfl, by rw [eg]; exact B4.out⟩
          · have d2 : decide ((n : Int) ≤ 4) = false := decide_eq_false (by omega)
            have d2' : decide (n ≤ 4) = false := decide_eq_false n4
            have hpb := Lib.hid (show prodB l = false by rw [hall, d1', d2']; rfl)
            have c1 := Lib.hid (codeE_bad (m := 0) hpb.out)
            clear hall n1 n4
            go_wp2_with fail
            refine (Code_any l 0 _).mono ?_
            rintro e w1 ⟨rfl, bz⟩
            rw [c1.out]
            have B1 := Lib.hid (hbel.out.trans (bz.mono (by omega)))
            have hs1 := bz.size
            clear bz
            go_wp2_with fail
            refine (Product_any l _).mono ?_
            rintro e w2 ⟨rfl, bz⟩
            rw [hpb.out]
            have B2 := Lib.hid (B1.out.trans (bz.mono (by omega)))
            have hs2 := bz.size
            clear bz
            go_wp2_with fail
            refine (Product_any l _).mono ?_
            rintro e w3 ⟨rfl, bz⟩
            rw [hpb.out]
            have B3 := Lib.hid (B2.out.trans (bz.mono (by omega)))
            have hs3 := bz.size
            clear bz
            go_wp2_with fail
            refine (SKnown_any _).mono ?_
            rintro e w4 ⟨rfl, bz⟩
            have B4 := Lib.hid (B3.out.trans (bz.mono (by omega)))
            clear bz
            go_wp2_with fail
            go_ret
            exact ⟨rfl, by rw [eg]; exact B4.out⟩
        · have d1 : decide (1 ≤ (n : Int)) = false := decide_eq_false (by omega)
          have d1' : decide (1 ≤ n) = false := decide_eq_false n1
          have hpb := Lib.hid (show prodB l = false by rw [hall, d1']; rfl)
          have c1 := Lib.hid (codeE_bad (m := 0) hpb.out)
          clear hall n1
          go_wp2_with fail
          refine (Code_any l 0 _).mono ?_
          rintro e w1 ⟨rfl, bz⟩
          rw [c1.out]
          have B1 := Lib.hid (hbel.out.trans (bz.mono (by omega)))
          have hs1 := bz.size
          clear bz
          go_wp2_with fail
          refine (Product_any l _).mono ?_
          rintro e w2 ⟨rfl, bz⟩
          rw [hpb.out]
          have B2 := Lib.hid (B1.out.trans (bz.mono (by omega)))
          have hs2 := bz.size
          clear bz
          go_wp2_with fail
          refine (Product_any l _).mono ?_
          rintro e w3 ⟨rfl, bz⟩
          rw [hpb.out]
          have B3 := Lib.hid (B2.out.trans (bz.mono (by omega)))
          have hs3 := bz.size
          clear bz
          go_wp2_with fail
          refine (SKnown_any _).mono ?_
          rintro e w4 ⟨rfl, bz⟩
          have B4 := Lib.hid (B3.out.trans (bz.mono (by omega)))
          clear bz
          go_wp2_with fail
          go_ret
          exact ⟨rfl, by rw [eg]; exact B4.out⟩
theorem SRunes_walk (P : List UInt8) (w : World) :
    Calls Try.prog 8 #[.string (str P)] w fun e w' => e = .returned (.bool true) ∧ Below w.heap.size w w' :=
  SRunes_go P _ w (Lib.hid rfl) (take_len _ _)
end Go.Proofs.Ytfhegnmfkmolbaa
