/-
  The document's shares by size: Plain, Share.
-/
import Derived.Test.YtabogoonbapjiaaPrShare
import Derived.Test.YtabogoonbapjiaaPrRefBy
namespace Go.Proofs.Ytabogoonbapjiaa
open Go.RowKit
set_option linter.unusedVariables false
set_option linter.unusedSimpArgs false

set_option maxRecDepth 100000 in
set_option maxHeartbeats 3200000 in
theorem PRShare_any (A : Option Addr) (n cap : Nat) (xs : List Int) (top most least q : Int) (w : World) (hn : n ≤ 9223372036854775807) (t1 : -9223372036854775808 ≤ top) (t2 : top ≤ 9223372036854775807) (o1 : -9223372036854775808 ≤ most) (o2 : most ≤ 9223372036854775807) (m1 : -9223372036854775808 ≤ least) (m2 : least ≤ 9223372036854775807) (q1 : -9223372036854775808 ≤ q) (q2 : q ≤ 9223372036854775807) (h : Hid (Holds w A n xs)) :
    Calls Try.prog 22 #[.slice A n cap, .int .i64 top, .int .i64 most, .int .i64 least, .int .i64 q] w (Gave w (topL xs top most least q)) := by
  have HR := RRight_any A n cap xs q w hn q1 q2 h
  cases hr : rightL xs q with
  | false =>
    rw [top_no (by rw [hr]; rfl)]
    rw [hr] at HR
    replace HR := Lib.hid HR
    clear hr
    go_enter Try.func22, Try.ntmps22
    go_wp2_with fail
    refine HR.out.mono ?_
    rintro e w1 ⟨rfl, rfl⟩
    go_wp2_with fail
    go_ret
    exact ⟨_, rfl, row_nil _ _, Below.refl _ _⟩
  | true =>
  rw [hr] at HR
  replace HR := Lib.hid HR
  by_cases hm : least < 1
  · have d1 : decide (least < 1) = true := decide_eq_true hm
    rw [top_no (by rw [hr, decide_eq_false (show ¬ 1 ≤ least by omega)]; rfl)]
    clear hr
    go_enter Try.func22, Try.ntmps22
    go_wp2_with fail
    refine HR.out.mono ?_
    rintro e w1 ⟨rfl, rfl⟩
    go_wp2_with fail
    go_ret
    exact ⟨_, rfl, row_nil _ _, Below.refl _ _⟩
  have d1 : decide (least < 1) = false := decide_eq_false hm
  by_cases hmo : most < 0
  · have dm : decide (most < 0) = true := decide_eq_true hmo
    rw [top_no (by rw [hr, decide_eq_true (show 1 ≤ least by omega), decide_eq_false (by omega)]; rfl)]
    clear hr
    go_enter Try.func22, Try.ntmps22
    go_wp2_with fail
    refine HR.out.mono ?_
    rintro e w1 ⟨rfl, rfl⟩
    go_wp2_with fail
    go_ret
    exact ⟨_, rfl, row_nil _ _, Below.refl _ _⟩
  have dm : decide (most < 0) = false := decide_eq_false hmo
  have hr2 : 1 ≤ least := by omega
  rw [top_yes hr hr2 (by omega), topB_eq]
  obtain ⟨hl, hx, hq, hqs⟩ := (right_iff xs q).1 hr
  have hx0 : ∀ x ∈ xs, 0 ≤ x ∧ x ≤ 1000000 := fun x hh => by have := hx x hh; omega
  have h0 : ∀ x ∈ xs, 0 ≤ x := fun x hh => (hx0 x hh).1
  have hlen := h.out.1
  have hbd := (sumL_bound xs 1000000 hx0).2
  have hq3 : q ≤ 250000000 := by omega
  have kfit := topK_fit (top := top) (most := most) (q := q) h0 hq (by omega)
  obtain ⟨hfit, iF, -, -, -, -, -, -⟩ := top_facts (F := firstL xs.length top (topK xs top most q)) (K := topK xs top most q) hr hr2 (first_len _ _ _) (fun k hk => first_fit h0 hq (by omega) hk) (first_sum xs top most q) kfit.2
  have sF := first_sum xs top most q
  have lF := first_len n top (topK xs top most q)
  rw [hlen] at hfit iF sF ⊢
  have fin : ∀ t : Nat, top = t → t < n → (List.replicate n (0 : Int)).set t (topK xs top most q) = firstL n top (topK xs top most q) := fun t e ht => by
    have e2 := first_in (n := n) (t := t) (k := topK xs top most q) ht
    rw [← e] at e2
    exact e2.symm
  have fout : ¬ (0 ≤ top ∧ top < (n : Int)) → firstL n top (topK xs top most q) = List.replicate n 0 := fun hh => first_out hh
  have kin : ∀ t : Nat, top = t → t < n → topK xs top most q = min (min (xs.getD t 0) most) q := fun t e ht => by
    have e2 := topK_in (l := xs) (t := t) (most := most) (q := q) (by omega)
    rw [← e] at e2
    exact e2
  have kout : ¬ (0 ≤ top ∧ top < (n : Int)) → topK xs top most q = 0 := fun hh => topK_out (by rw [hlen]; exact hh)
  obtain ⟨K, hK⟩ : ∃ K, topK xs top most q = K := ⟨_, rfl⟩
  simp only [hK] at hfit iF sF lF fin fout kin kout kfit ⊢
  obtain ⟨F1, hF1⟩ : ∃ F1, firstL n top K = F1 := ⟨_, rfl⟩
  simp only [hF1] at hfit iF sF lF fin fout ⊢
  have hll : xs.length = F1.length := by omega
  have lS : (subZ xs F1).length = n := by rw [subZ_len hll]; exact hlen
  have bS : ∀ x ∈ subZ xs F1, 0 ≤ x ∧ x ≤ 1000000 := fun y hy => by
    obtain ⟨k, hk, rfl⟩ := subZ_mem hll hy
    have := hfit k (by omega)
    omega
  have sS : sumL (subZ xs F1) = sumL xs - K := by rw [subZ_sum hll, sF]
  have hfit1 : Hid (∀ k, k < n → 0 ≤ F1.getD k 0 ∧ F1.getD k 0 ≤ 1000000 ∧ 0 ≤ xs.getD k 0 ∧ xs.getD k 0 ≤ 1000000) := Lib.hid (fun k hk => by have := hfit k hk; omega)
  obtain ⟨r, hrr⟩ : ∃ r, q - K = r := ⟨_, rfl⟩
  have rdef : r = q - K := hrr.symm
  have r0 : 0 ≤ r := by omega
  have r1 : r ≤ 250000000 := by omega
  have rS : r ≤ sumL (subZ xs F1) := by omega
  have lE := plainB_len (subZ xs F1) least r
  have bE := plainB_mem (least := least) bS r0 rS
  have iE : ∀ x ∈ plainB (subZ xs F1) least r, I64 x := fun x hx => by have := bE x hx; exact ⟨by omega, by omega⟩
  have iS : ∀ x ∈ subZ xs F1, I64 x := fun x hx => by have := bS x hx; exact ⟨by omega, by omega⟩
  rw [hrr]
  obtain ⟨S, hS⟩ : ∃ S, subZ xs F1 = S := ⟨_, rfl⟩
  simp only [hS] at lS bS sS rS lE bE iE iS ⊢
  obtain ⟨E, hE⟩ : ∃ E, plainB S least r = E := ⟨_, rfl⟩
  simp only [hE] at lE bE iE ⊢
  rw [lS] at lE
  have hfit2 : Hid (∀ k, k < n → 0 ≤ E.getD k 0 ∧ E.getD k 0 ≤ 1000000 ∧ 0 ≤ F1.getD k 0 ∧ F1.getD k 0 ≤ 1000000) := Lib.hid (fun k hk => by
    have a := hfit1.out k hk
    have b := bE _ (getD_mem (show k < E.length by omega))
    omega)
  obtain ⟨Z, hZ⟩ : ∃ Z, addZ F1 E = Z := ⟨_, rfl⟩
  rw [hZ]
  replace iF := Lib.hid iF
  replace iS := Lib.hid iS
  replace iE := Lib.hid iE
  replace bS := Lib.hid bS
  replace hS := Lib.hid hS
  replace hE := Lib.hid hE
  replace hZ := Lib.hid hZ
  replace rS := Lib.hid rS
  replace hrr := Lib.hid hrr
  replace hF1 := Lib.hid hF1
  replace hx0 := Lib.hid hx0
  have hl2 : n ≤ 250 := by omega
  clear hr hx h0 hbd hK hfit sF hll sS bE hqs
  obtain ⟨i0, hi0, hz0, hz1, hz2⟩ := info_parts info_num
  obtain ⟨k1, k2⟩ := kfit
  by_cases hin : 0 ≤ top ∧ top < (n : Int)
  · obtain ⟨t, rfl⟩ := Int.eq_ofNat_of_zero_le hin.1
    have ht : t < n := by omega
    have hset := Lib.hid (fin t rfl ht)
    have hmin := kin t rfl ht
    clear fin fout kin kout
    have dt1 : decide (0 ≤ (t : Int)) = true := decide_eq_true (by omega)
    have dt2 : decide ((t : Int) < (n : Int)) = true := decide_eq_true (by omega)
    have dt3 : decide (t < n) = true := decide_eq_true (by omega)
    have ltA := Lib.hid (fun ad (h0 : 0 < n) (e : A = some ad) => h.out.lt h0 e)
    obtain ⟨b, off, hA, hc⟩ := h.out.2.2 (by omega)
    clear hc
    replace hA := Lib.hid hA
    have xb := hx0.out _ (getD_mem (show t < xs.length by omega))
    have xcell : Hid (∀ w', Below w.heap.size w w' → ∃ b off, A = some ⟨b, off, none⟩ ∧ w'.cell? ⟨b, off + t, none⟩ = some (.int .i64 (xs.getD t 0))) := Lib.hid (fun w' hb => by
      obtain ⟨b, off, e, hc⟩ := (h.out.below hb).2.2 (by omega)
      exact ⟨b, off, e, hc t ht⟩)
    generalize xs.getD t 0 = x at *
    rcases (show (most ≤ q ∧ most ≤ x ∧ K = most) ∨ (most ≤ q ∧ x < most ∧ K = x) ∨ (q < most ∧ q ≤ x ∧ K = q) ∨ (q < most ∧ x < q ∧ K = x) by omega) with ⟨ca, cb, e⟩ | ⟨ca, cb, e⟩ | ⟨ca, cb, e⟩ | ⟨ca, cb, e⟩
    · obtain rfl := e
      have d3 : decide (q < K) = false := decide_eq_false (by omega)
      have d4 : decide (x < K) = false := decide_eq_false (by omega)
      have wq : wrap64 (q - K) = q - K := IntWalk.wrap64_in _ ⟨by omega, by omega⟩
      replace hmin := Lib.hid hmin
      clear rdef hin
      go_enter Try.func22, Try.ntmps22
      go_wp2_with fail
      refine HR.out.mono ?_
      rintro e w1 ⟨rfl, rfl⟩
      go_wp2_with (at_make; refine wpList_make_full _ (by rfl) (.tmp 26) (.tmp 26) 26 (by rfl) w1.heap.size 2 i0 (.int .i64 0) 1 Try.underlying26 hi0 hz0 hz1 .i64 .i64 _ _ n (by rfl) (by rfl) rfl rfl (by rw [hz2]; omega) (by unfold maxLen; omega) (Nat.le_refl _) ?_)
      intro w2 r2 g2
      have R2 := Lib.hid (row_made r2)
      have B2 : Hid (Below w1.heap.size w1 w2) := Lib.hid ((Below.refl _ w1).grown g2 (Nat.le_refl _) (fun k e => by cases e))
      obtain ⟨g, hg⟩ : ∃ g, w1.heap.size = g := ⟨_, rfl⟩
      obtain ⟨b', off', hA', hck⟩ := xcell.out w2 B2.out
      rw [hA.out] at hA'
      injection hA' with hA'
      injection hA' with hb' ho'
      subst hb'; subst ho'
      rw [hg] at R2 B2 ltA
      have R2' : Hid (Row w2 g (.slice (some ⟨g, 0, none⟩) n n) (List.replicate n 0)) := R2
      obtain ⟨g', cap', e', -, hgw, hcc, hcm, hfz, hcl2⟩ := R2'.out.open' (by simp; omega)
      rw [List.length_replicate] at e' hcl2
      injection e' with e1 e2 e3
      injection e1 with e1
      injection e1 with e1
      subst e1; subst e3
      have hfk := hfz t
      have hck0 := hcl2 t ht
      have Rs := R2'.out.set (k := t) (by simp; omega) K
      rw [hset.out] at Rs
      replace Rs := Lib.hid Rs
      have Bs : Hid (Below g w1 (w2.setCell ⟨g, t, none⟩ (.int .i64 K))) := Lib.hid (B2.out.trans ((set_only w2 g t (.int .i64 K)).below (B := g) (by omega) (fun j hj e => by omega)))
      clear r2 g2 hfz hcl2 R2 R2' B2 xcell
      obtain rfl := hA.out
      go_wp2_with fail
      replace hg := Lib.hid hg
      (try rw [hg.out])
      have hA1 := Lib.hid (h.out.below (show Below w1.heap.size w1 _ by rw [hg.out]; exact Bs.out))
      obtain ⟨S1, S1c, eS, h1, -, -, -, at1⟩ := Rs.out.slice iF.out
      rw [lF] at eS h1
      injection eS with eS _ eS2
      subst eS; subst eS2
      replace h1 := Lib.hid h1
      have HL := Lib.hid (RRest_any _ n cap xs (some ⟨g, 0, none⟩) n F1 _ hl2 hA1 h1 hfit1)
      have Bk := Bs
      go_wp2_with fail
      (try rw [hg.out])
      refine HL.out.mono ?_
      rintro e w3 ⟨v, rfl, r3, b3⟩
      rw [hS.out] at r3
      obtain ⟨A3, c3, rfl, h3, -, l3, m3, at3⟩ := r3.slice iS.out
      rw [lS] at h3 l3 ⊢
      have h13 := Lib.hid (h1.out.below b3)
      have B3 := Lib.hid (Bk.out.trans (b3.mono (by have q := Bk.out.size; rw [hg.out] at q; exact q)))
      replace h3 := Lib.hid h3
      have HF := RBy_any A3 n c3 S least r w3 h3 hl2 bS.out (by omega) rS.out hr2 m2
      rw [hE.out] at HF
      replace HF := Lib.hid HF
      clear HL r3 at3 b3 Bk
      go_wp2_with fail
      (try rw [hrr.out])
      (try rw [hg.out])
      refine HF.out.mono ?_
      rintro e w4 ⟨v, rfl, r4, b4⟩
      obtain ⟨A4, c4, rfl, h4, -, l4, m4, at4⟩ := r4.slice iE.out
      rw [lE] at h4 l4 ⊢
      have h14 := Lib.hid (h13.out.below b4)
      have B4 := Lib.hid (B3.out.trans (b4.mono (by have q := B3.out.size; rw [hg.out] at q; exact q)))
      replace h4 := Lib.hid h4
      have HB := RBoth_any (some ⟨g, 0, none⟩) n n F1 A4 c4 E w4 hl2 h14 h4 hfit2
      rw [hZ.out] at HB
      replace HB := Lib.hid HB
      clear HF r4 at4 b4
      go_wp2_with fail
      (try rw [hg.out])
      refine HB.out.mono ?_
      rintro e w5 ⟨v, rfl, r5, b5⟩
      have B5 := Lib.hid (B4.out.trans (b5.mono (by have q := B4.out.size; rw [hg.out] at q; exact q)))
      have r6 := Lib.hid (r5.base (base' := g) (by have q := B4.out.size; rw [hg.out] at q; exact q))
      clear HB r5 b5
      go_wp2_with fail
      go_ret
      exact ⟨_, rfl, by rw [hg.out]; exact r6.out, by rw [hg.out]; exact B5.out⟩
    · obtain rfl := e
      have d3 : decide (q < most) = false := decide_eq_false (by omega)
      have d4 : decide (K < most) = true := decide_eq_true (by omega)
      have wq : wrap64 (q - K) = q - K := IntWalk.wrap64_in _ ⟨by omega, by omega⟩
      replace hmin := Lib.hid hmin
      clear rdef hin
      go_enter Try.func22, Try.ntmps22
      go_wp2_with fail
      refine HR.out.mono ?_
      rintro e w1 ⟨rfl, rfl⟩
      go_wp2_with (at_make; refine wpList_make_full _ (by rfl) (.tmp 26) (.tmp 26) 26 (by rfl) w1.heap.size 2 i0 (.int .i64 0) 1 Try.underlying26 hi0 hz0 hz1 .i64 .i64 _ _ n (by rfl) (by rfl) rfl rfl (by rw [hz2]; omega) (by unfold maxLen; omega) (Nat.le_refl _) ?_)
      intro w2 r2 g2
      have R2 := Lib.hid (row_made r2)
      have B2 : Hid (Below w1.heap.size w1 w2) := Lib.hid ((Below.refl _ w1).grown g2 (Nat.le_refl _) (fun k e => by cases e))
      obtain ⟨g, hg⟩ : ∃ g, w1.heap.size = g := ⟨_, rfl⟩
      obtain ⟨b', off', hA', hck⟩ := xcell.out w2 B2.out
      rw [hA.out] at hA'
      injection hA' with hA'
      injection hA' with hb' ho'
      subst hb'; subst ho'
      rw [hg] at R2 B2 ltA
      have R2' : Hid (Row w2 g (.slice (some ⟨g, 0, none⟩) n n) (List.replicate n 0)) := R2
      obtain ⟨g', cap', e', -, hgw, hcc, hcm, hfz, hcl2⟩ := R2'.out.open' (by simp; omega)
      rw [List.length_replicate] at e' hcl2
      injection e' with e1 e2 e3
      injection e1 with e1
      injection e1 with e1
      subst e1; subst e3
      have hfk := hfz t
      have hck0 := hcl2 t ht
      have Rs := R2'.out.set (k := t) (by simp; omega) K
      rw [hset.out] at Rs
      replace Rs := Lib.hid Rs
      have Bs : Hid (Below g w1 (w2.setCell ⟨g, t, none⟩ (.int .i64 K))) := Lib.hid (B2.out.trans ((set_only w2 g t (.int .i64 K)).below (B := g) (by omega) (fun j hj e => by omega)))
      clear r2 g2 hfz hcl2 R2 R2' B2 xcell
      obtain rfl := hA.out
      go_wp2_with fail
      replace hg := Lib.hid hg
      (try rw [hg.out])
      have hA1 := Lib.hid (h.out.below (show Below w1.heap.size w1 _ by rw [hg.out]; exact Bs.out))
      obtain ⟨S1, S1c, eS, h1, -, -, -, at1⟩ := Rs.out.slice iF.out
      rw [lF] at eS h1
      injection eS with eS _ eS2
      subst eS; subst eS2
      replace h1 := Lib.hid h1
      have HL := Lib.hid (RRest_any _ n cap xs (some ⟨g, 0, none⟩) n F1 _ hl2 hA1 h1 hfit1)
      have Bk := Bs
      go_wp2_with fail
      (try rw [hg.out])
      refine HL.out.mono ?_
      rintro e w3 ⟨v, rfl, r3, b3⟩
      rw [hS.out] at r3
      obtain ⟨A3, c3, rfl, h3, -, l3, m3, at3⟩ := r3.slice iS.out
      rw [lS] at h3 l3 ⊢
      have h13 := Lib.hid (h1.out.below b3)
      have B3 := Lib.hid (Bk.out.trans (b3.mono (by have q := Bk.out.size; rw [hg.out] at q; exact q)))
      replace h3 := Lib.hid h3
      have HF := RBy_any A3 n c3 S least r w3 h3 hl2 bS.out (by omega) rS.out hr2 m2
      rw [hE.out] at HF
      replace HF := Lib.hid HF
      clear HL r3 at3 b3 Bk
      go_wp2_with fail
      (try rw [hrr.out])
      (try rw [hg.out])
      refine HF.out.mono ?_
      rintro e w4 ⟨v, rfl, r4, b4⟩
      obtain ⟨A4, c4, rfl, h4, -, l4, m4, at4⟩ := r4.slice iE.out
      rw [lE] at h4 l4 ⊢
      have h14 := Lib.hid (h13.out.below b4)
      have B4 := Lib.hid (B3.out.trans (b4.mono (by have q := B3.out.size; rw [hg.out] at q; exact q)))
      replace h4 := Lib.hid h4
      have HB := RBoth_any (some ⟨g, 0, none⟩) n n F1 A4 c4 E w4 hl2 h14 h4 hfit2
      rw [hZ.out] at HB
      replace HB := Lib.hid HB
      clear HF r4 at4 b4
      go_wp2_with fail
      (try rw [hg.out])
      refine HB.out.mono ?_
      rintro e w5 ⟨v, rfl, r5, b5⟩
      have B5 := Lib.hid (B4.out.trans (b5.mono (by have q := B4.out.size; rw [hg.out] at q; exact q)))
      have r6 := Lib.hid (r5.base (base' := g) (by have q := B4.out.size; rw [hg.out] at q; exact q))
      clear HB r5 b5
      go_wp2_with fail
      go_ret
      exact ⟨_, rfl, by rw [hg.out]; exact r6.out, by rw [hg.out]; exact B5.out⟩
    · obtain rfl := e
      have d3 : decide (K < most) = true := decide_eq_true (by omega)
      have d4 : decide (x < K) = false := decide_eq_false (by omega)
      obtain rfl : r = 0 := by omega
      replace hmin := Lib.hid hmin
      clear rdef hin
      go_enter Try.func22, Try.ntmps22
      go_wp2_with fail
      refine HR.out.mono ?_
      rintro e w1 ⟨rfl, rfl⟩
      go_wp2_with (at_make; refine wpList_make_full _ (by rfl) (.tmp 26) (.tmp 26) 26 (by rfl) w1.heap.size 2 i0 (.int .i64 0) 1 Try.underlying26 hi0 hz0 hz1 .i64 .i64 _ _ n (by rfl) (by rfl) rfl rfl (by rw [hz2]; omega) (by unfold maxLen; omega) (Nat.le_refl _) ?_)
      intro w2 r2 g2
      have R2 := Lib.hid (row_made r2)
      have B2 : Hid (Below w1.heap.size w1 w2) := Lib.hid ((Below.refl _ w1).grown g2 (Nat.le_refl _) (fun k e => by cases e))
      obtain ⟨g, hg⟩ : ∃ g, w1.heap.size = g := ⟨_, rfl⟩
      obtain ⟨b', off', hA', hck⟩ := xcell.out w2 B2.out
      rw [hA.out] at hA'
      injection hA' with hA'
      injection hA' with hb' ho'
      subst hb'; subst ho'
      rw [hg] at R2 B2 ltA
      have R2' : Hid (Row w2 g (.slice (some ⟨g, 0, none⟩) n n) (List.replicate n 0)) := R2
      obtain ⟨g', cap', e', -, hgw, hcc, hcm, hfz, hcl2⟩ := R2'.out.open' (by simp; omega)
      rw [List.length_replicate] at e' hcl2
      injection e' with e1 e2 e3
      injection e1 with e1
      injection e1 with e1
      subst e1; subst e3
      have hfk := hfz t
      have hck0 := hcl2 t ht
      have Rs := R2'.out.set (k := t) (by simp; omega) K
      rw [hset.out] at Rs
      replace Rs := Lib.hid Rs
      have Bs : Hid (Below g w1 (w2.setCell ⟨g, t, none⟩ (.int .i64 K))) := Lib.hid (B2.out.trans ((set_only w2 g t (.int .i64 K)).below (B := g) (by omega) (fun j hj e => by omega)))
      clear r2 g2 hfz hcl2 R2 R2' B2 xcell
      obtain rfl := hA.out
      go_wp2_with fail
      replace hg := Lib.hid hg
      (try rw [hg.out])
      have hA1 := Lib.hid (h.out.below (show Below w1.heap.size w1 _ by rw [hg.out]; exact Bs.out))
      obtain ⟨S1, S1c, eS, h1, -, -, -, at1⟩ := Rs.out.slice iF.out
      rw [lF] at eS h1
      injection eS with eS _ eS2
      subst eS; subst eS2
      replace h1 := Lib.hid h1
      have HL := Lib.hid (RRest_any _ n cap xs (some ⟨g, 0, none⟩) n F1 _ hl2 hA1 h1 hfit1)
      have Bk := Bs
      go_wp2_with fail
      (try rw [hg.out])
      refine HL.out.mono ?_
      rintro e w3 ⟨v, rfl, r3, b3⟩
      rw [hS.out] at r3
      obtain ⟨A3, c3, rfl, h3, -, l3, m3, at3⟩ := r3.slice iS.out
      rw [lS] at h3 l3 ⊢
      have h13 := Lib.hid (h1.out.below b3)
      have B3 := Lib.hid (Bk.out.trans (b3.mono (by have q := Bk.out.size; rw [hg.out] at q; exact q)))
      replace h3 := Lib.hid h3
      have HF := RBy_any A3 n c3 S least 0 w3 h3 hl2 bS.out (by omega) rS.out hr2 m2
      rw [hE.out] at HF
      replace HF := Lib.hid HF
      clear HL r3 at3 b3 Bk
      go_wp2_with fail
      (try rw [hrr.out])
      (try rw [hg.out])
      refine HF.out.mono ?_
      rintro e w4 ⟨v, rfl, r4, b4⟩
      obtain ⟨A4, c4, rfl, h4, -, l4, m4, at4⟩ := r4.slice iE.out
      rw [lE] at h4 l4 ⊢
      have h14 := Lib.hid (h13.out.below b4)
      have B4 := Lib.hid (B3.out.trans (b4.mono (by have q := B3.out.size; rw [hg.out] at q; exact q)))
      replace h4 := Lib.hid h4
      have HB := RBoth_any (some ⟨g, 0, none⟩) n n F1 A4 c4 E w4 hl2 h14 h4 hfit2
      rw [hZ.out] at HB
      replace HB := Lib.hid HB
      clear HF r4 at4 b4
      go_wp2_with fail
      (try rw [hg.out])
      refine HB.out.mono ?_
      rintro e w5 ⟨v, rfl, r5, b5⟩
      have B5 := Lib.hid (B4.out.trans (b5.mono (by have q := B4.out.size; rw [hg.out] at q; exact q)))
      have r6 := Lib.hid (r5.base (base' := g) (by have q := B4.out.size; rw [hg.out] at q; exact q))
      clear HB r5 b5
      go_wp2_with fail
      go_ret
      exact ⟨_, rfl, by rw [hg.out]; exact r6.out, by rw [hg.out]; exact B5.out⟩
    · obtain rfl := e
      have d3 : decide (q < most) = true := decide_eq_true (by omega)
      have d4 : decide (K < q) = true := decide_eq_true (by omega)
      have wq : wrap64 (q - K) = q - K := IntWalk.wrap64_in _ ⟨by omega, by omega⟩
      replace hmin := Lib.hid hmin
      clear rdef hin
      go_enter Try.func22, Try.ntmps22
      go_wp2_with fail
      refine HR.out.mono ?_
      rintro e w1 ⟨rfl, rfl⟩
      go_wp2_with (at_make; refine wpList_make_full _ (by rfl) (.tmp 26) (.tmp 26) 26 (by rfl) w1.heap.size 2 i0 (.int .i64 0) 1 Try.underlying26 hi0 hz0 hz1 .i64 .i64 _ _ n (by rfl) (by rfl) rfl rfl (by rw [hz2]; omega) (by unfold maxLen; omega) (Nat.le_refl _) ?_)
      intro w2 r2 g2
      have R2 := Lib.hid (row_made r2)
      have B2 : Hid (Below w1.heap.size w1 w2) := Lib.hid ((Below.refl _ w1).grown g2 (Nat.le_refl _) (fun k e => by cases e))
      obtain ⟨g, hg⟩ : ∃ g, w1.heap.size = g := ⟨_, rfl⟩
      obtain ⟨b', off', hA', hck⟩ := xcell.out w2 B2.out
      rw [hA.out] at hA'
      injection hA' with hA'
      injection hA' with hb' ho'
      subst hb'; subst ho'
      rw [hg] at R2 B2 ltA
      have R2' : Hid (Row w2 g (.slice (some ⟨g, 0, none⟩) n n) (List.replicate n 0)) := R2
      obtain ⟨g', cap', e', -, hgw, hcc, hcm, hfz, hcl2⟩ := R2'.out.open' (by simp; omega)
      rw [List.length_replicate] at e' hcl2
      injection e' with e1 e2 e3
      injection e1 with e1
      injection e1 with e1
      subst e1; subst e3
      have hfk := hfz t
      have hck0 := hcl2 t ht
      have Rs := R2'.out.set (k := t) (by simp; omega) K
      rw [hset.out] at Rs
      replace Rs := Lib.hid Rs
      have Bs : Hid (Below g w1 (w2.setCell ⟨g, t, none⟩ (.int .i64 K))) := Lib.hid (B2.out.trans ((set_only w2 g t (.int .i64 K)).below (B := g) (by omega) (fun j hj e => by omega)))
      clear r2 g2 hfz hcl2 R2 R2' B2 xcell
      obtain rfl := hA.out
      go_wp2_with fail
      replace hg := Lib.hid hg
      (try rw [hg.out])
      have hA1 := Lib.hid (h.out.below (show Below w1.heap.size w1 _ by rw [hg.out]; exact Bs.out))
      obtain ⟨S1, S1c, eS, h1, -, -, -, at1⟩ := Rs.out.slice iF.out
      rw [lF] at eS h1
      injection eS with eS _ eS2
      subst eS; subst eS2
      replace h1 := Lib.hid h1
      have HL := Lib.hid (RRest_any _ n cap xs (some ⟨g, 0, none⟩) n F1 _ hl2 hA1 h1 hfit1)
      have Bk := Bs
      go_wp2_with fail
      (try rw [hg.out])
      refine HL.out.mono ?_
      rintro e w3 ⟨v, rfl, r3, b3⟩
      rw [hS.out] at r3
      obtain ⟨A3, c3, rfl, h3, -, l3, m3, at3⟩ := r3.slice iS.out
      rw [lS] at h3 l3 ⊢
      have h13 := Lib.hid (h1.out.below b3)
      have B3 := Lib.hid (Bk.out.trans (b3.mono (by have q := Bk.out.size; rw [hg.out] at q; exact q)))
      replace h3 := Lib.hid h3
      have HF := RBy_any A3 n c3 S least r w3 h3 hl2 bS.out (by omega) rS.out hr2 m2
      rw [hE.out] at HF
      replace HF := Lib.hid HF
      clear HL r3 at3 b3 Bk
      go_wp2_with fail
      (try rw [hrr.out])
      (try rw [hg.out])
      refine HF.out.mono ?_
      rintro e w4 ⟨v, rfl, r4, b4⟩
      obtain ⟨A4, c4, rfl, h4, -, l4, m4, at4⟩ := r4.slice iE.out
      rw [lE] at h4 l4 ⊢
      have h14 := Lib.hid (h13.out.below b4)
      have B4 := Lib.hid (B3.out.trans (b4.mono (by have q := B3.out.size; rw [hg.out] at q; exact q)))
      replace h4 := Lib.hid h4
      have HB := RBoth_any (some ⟨g, 0, none⟩) n n F1 A4 c4 E w4 hl2 h14 h4 hfit2
      rw [hZ.out] at HB
      replace HB := Lib.hid HB
      clear HF r4 at4 b4
      go_wp2_with fail
      (try rw [hg.out])
      refine HB.out.mono ?_
      rintro e w5 ⟨v, rfl, r5, b5⟩
      have B5 := Lib.hid (B4.out.trans (b5.mono (by have q := B4.out.size; rw [hg.out] at q; exact q)))
      have r6 := Lib.hid (r5.base (base' := g) (by have q := B4.out.size; rw [hg.out] at q; exact q))
      clear HB r5 b5
      go_wp2_with fail
      go_ret
      exact ⟨_, rfl, by rw [hg.out]; exact r6.out, by rw [hg.out]; exact B5.out⟩
  · have e0 := kout hin
    have eF := fout hin
    subst e0
    replace eF := Lib.hid eF
    obtain rfl : r = q := by omega
    clear fin fout kin kout rdef
    have ltA := Lib.hid (fun ad (h0 : 0 < n) (e : A = some ad) => h.out.lt h0 e)
    by_cases hneg : 0 ≤ top
    · have dt1 : decide (0 ≤ top) = true := decide_eq_true hneg
      have dt2 : decide (top < (n : Int)) = false := decide_eq_false (by omega)
      clear hin
      go_enter Try.func22, Try.ntmps22
      go_wp2_with fail
      refine HR.out.mono ?_
      rintro e w1 ⟨rfl, rfl⟩
      go_wp2_with (at_make; refine wpList_make_full _ (by rfl) (.tmp 26) (.tmp 26) 26 (by rfl) w1.heap.size 2 i0 (.int .i64 0) 1 Try.underlying26 hi0 hz0 hz1 .i64 .i64 _ _ n (by rfl) (by rfl) rfl rfl (by rw [hz2]; omega) (by unfold maxLen; omega) (Nat.le_refl _) ?_)
      intro w2 r2 g2
      have R2 := Lib.hid (row_made r2)
      have B2 : Hid (Below w1.heap.size w1 w2) := Lib.hid ((Below.refl _ w1).grown g2 (Nat.le_refl _) (fun k e => by cases e))
      obtain ⟨g, hg⟩ : ∃ g, w1.heap.size = g := ⟨_, rfl⟩
      have R2' : Hid (Row w2 g (.slice (some ⟨g, 0, none⟩) n n) F1) := Lib.hid (by have := R2.out; rw [hg] at this; rw [← eF.out] at this; exact this)
      rw [hg] at B2 ltA
      clear r2 g2 R2
      go_wp2_with fail
      replace hg := Lib.hid hg
      (try rw [hg.out])
      have hA1 := Lib.hid (h.out.below (show Below w1.heap.size w1 _ by rw [hg.out]; exact B2.out))
      obtain ⟨S1, S1c, eS, h1, -, -, -, at1⟩ := R2'.out.slice iF.out
      rw [lF] at eS h1
      injection eS with eS _ eS2
      subst eS; subst eS2
      replace h1 := Lib.hid h1
      have HL := Lib.hid (RRest_any _ n cap xs (some ⟨g, 0, none⟩) n F1 _ hl2 hA1 h1 hfit1)
      have Bk := B2
      go_wp2_with fail
      (try rw [hg.out])
      refine HL.out.mono ?_
      rintro e w3 ⟨v, rfl, r3, b3⟩
      rw [hS.out] at r3
      obtain ⟨A3, c3, rfl, h3, -, l3, m3, at3⟩ := r3.slice iS.out
      rw [lS] at h3 l3 ⊢
      have h13 := Lib.hid (h1.out.below b3)
      have B3 := Lib.hid (Bk.out.trans (b3.mono (by have q := Bk.out.size; rw [hg.out] at q; exact q)))
      replace h3 := Lib.hid h3
      have HF := RBy_any A3 n c3 S least r w3 h3 hl2 bS.out (by omega) rS.out hr2 m2
      rw [hE.out] at HF
      replace HF := Lib.hid HF
      clear HL r3 at3 b3 Bk
      go_wp2_with fail
      (try rw [hrr.out])
      (try rw [hg.out])
      refine HF.out.mono ?_
      rintro e w4 ⟨v, rfl, r4, b4⟩
      obtain ⟨A4, c4, rfl, h4, -, l4, m4, at4⟩ := r4.slice iE.out
      rw [lE] at h4 l4 ⊢
      have h14 := Lib.hid (h13.out.below b4)
      have B4 := Lib.hid (B3.out.trans (b4.mono (by have q := B3.out.size; rw [hg.out] at q; exact q)))
      replace h4 := Lib.hid h4
      have HB := RBoth_any (some ⟨g, 0, none⟩) n n F1 A4 c4 E w4 hl2 h14 h4 hfit2
      rw [hZ.out] at HB
      replace HB := Lib.hid HB
      clear HF r4 at4 b4
      go_wp2_with fail
      (try rw [hg.out])
      refine HB.out.mono ?_
      rintro e w5 ⟨v, rfl, r5, b5⟩
      have B5 := Lib.hid (B4.out.trans (b5.mono (by have q := B4.out.size; rw [hg.out] at q; exact q)))
      have r6 := Lib.hid (r5.base (base' := g) (by have q := B4.out.size; rw [hg.out] at q; exact q))
      clear HB r5 b5
      go_wp2_with fail
      go_ret
      exact ⟨_, rfl, by rw [hg.out]; exact r6.out, by rw [hg.out]; exact B5.out⟩
    · have dt1 : decide (0 ≤ top) = false := decide_eq_false hneg
      clear hin
      go_enter Try.func22, Try.ntmps22
      go_wp2_with fail
      refine HR.out.mono ?_
      rintro e w1 ⟨rfl, rfl⟩
      go_wp2_with (at_make; refine wpList_make_full _ (by rfl) (.tmp 26) (.tmp 26) 26 (by rfl) w1.heap.size 2 i0 (.int .i64 0) 1 Try.underlying26 hi0 hz0 hz1 .i64 .i64 _ _ n (by rfl) (by rfl) rfl rfl (by rw [hz2]; omega) (by unfold maxLen; omega) (Nat.le_refl _) ?_)
      intro w2 r2 g2
      have R2 := Lib.hid (row_made r2)
      have B2 : Hid (Below w1.heap.size w1 w2) := Lib.hid ((Below.refl _ w1).grown g2 (Nat.le_refl _) (fun k e => by cases e))
      obtain ⟨g, hg⟩ : ∃ g, w1.heap.size = g := ⟨_, rfl⟩
      have R2' : Hid (Row w2 g (.slice (some ⟨g, 0, none⟩) n n) F1) := Lib.hid (by have := R2.out; rw [hg] at this; rw [← eF.out] at this; exact this)
      rw [hg] at B2 ltA
      clear r2 g2 R2
      go_wp2_with fail
      replace hg := Lib.hid hg
      (try rw [hg.out])
      have hA1 := Lib.hid (h.out.below (show Below w1.heap.size w1 _ by rw [hg.out]; exact B2.out))
      obtain ⟨S1, S1c, eS, h1, -, -, -, at1⟩ := R2'.out.slice iF.out
      rw [lF] at eS h1
      injection eS with eS _ eS2
      subst eS; subst eS2
      replace h1 := Lib.hid h1
      have HL := Lib.hid (RRest_any _ n cap xs (some ⟨g, 0, none⟩) n F1 _ hl2 hA1 h1 hfit1)
      have Bk := B2
      go_wp2_with fail
      (try rw [hg.out])
      refine HL.out.mono ?_
      rintro e w3 ⟨v, rfl, r3, b3⟩
      rw [hS.out] at r3
      obtain ⟨A3, c3, rfl, h3, -, l3, m3, at3⟩ := r3.slice iS.out
      rw [lS] at h3 l3 ⊢
      have h13 := Lib.hid (h1.out.below b3)
      have B3 := Lib.hid (Bk.out.trans (b3.mono (by have q := Bk.out.size; rw [hg.out] at q; exact q)))
      replace h3 := Lib.hid h3
      have HF := RBy_any A3 n c3 S least r w3 h3 hl2 bS.out (by omega) rS.out hr2 m2
      rw [hE.out] at HF
      replace HF := Lib.hid HF
      clear HL r3 at3 b3 Bk
      go_wp2_with fail
      (try rw [hrr.out])
      (try rw [hg.out])
      refine HF.out.mono ?_
      rintro e w4 ⟨v, rfl, r4, b4⟩
      obtain ⟨A4, c4, rfl, h4, -, l4, m4, at4⟩ := r4.slice iE.out
      rw [lE] at h4 l4 ⊢
      have h14 := Lib.hid (h13.out.below b4)
      have B4 := Lib.hid (B3.out.trans (b4.mono (by have q := B3.out.size; rw [hg.out] at q; exact q)))
      replace h4 := Lib.hid h4
      have HB := RBoth_any (some ⟨g, 0, none⟩) n n F1 A4 c4 E w4 hl2 h14 h4 hfit2
      rw [hZ.out] at HB
      replace HB := Lib.hid HB
      clear HF r4 at4 b4
      go_wp2_with fail
      (try rw [hg.out])
      refine HB.out.mono ?_
      rintro e w5 ⟨v, rfl, r5, b5⟩
      have B5 := Lib.hid (B4.out.trans (b5.mono (by have q := B4.out.size; rw [hg.out] at q; exact q)))
      have r6 := Lib.hid (r5.base (base' := g) (by have q := B4.out.size; rw [hg.out] at q; exact q))
      clear HB r5 b5
      go_wp2_with fail
      go_ret
      exact ⟨_, rfl, by rw [hg.out]; exact r6.out, by rw [hg.out]; exact B5.out⟩
end Go.Proofs.Ytabogoonbapjiaa
