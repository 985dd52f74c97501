/-
  The program's shares by size, the top first: Share.
-/
import Derived.Test.YtabogoonbapjiaaPrBy
namespace Go.Proofs.Ytabogoonbapjiaa
open Go.RowKit
set_option linter.unusedVariables false
set_option linter.unusedSimpArgs false

theorem top_yes {l : List Int} {top most least q : Int} (h : rightL l q = true) (hm : 1 ≤ least) (hm2 : 0 ≤ most) : topL l top most least q = topB l top most least q := by
  have : topL l top most least q = bif rightL l q && decide (1 ≤ least) && decide (0 ≤ most) then topB l top most least q else [] := by with_unfolding_all rfl
  rw [this, h, decide_eq_true hm, decide_eq_true hm2]; rfl
theorem top_no {l : List Int} {top most least q : Int} (h : (rightL l q && decide (1 ≤ least) && decide (0 ≤ most)) = false) : topL l top most least q = [] := by
  have : topL l top most least q = bif rightL l q && decide (1 ≤ least) && decide (0 ≤ most) then topB l top most least q else [] := by with_unfolding_all rfl
  rw [this, h]; rfl
theorem topB_eq (l : List Int) (top most least q : Int) : topB l top most least q = addZ (firstL l.length top (topK l top most q)) (plainB (subZ l (firstL l.length top (topK l top most q))) least (q - topK l top most q)) := by with_unfolding_all rfl
/-- All that the tail of Share needs, of what the first have. -/
theorem top_facts {l : List Int} {F : List Int} {least q K : Int} (hR : rightL l q = true) (hm : 1 ≤ least) (lF : F.length = l.length) (hF : ∀ k, k < l.length → 0 ≤ F.getD k 0 ∧ F.getD k 0 ≤ l.getD k 0) (sF : sumL F = K) (hK : K ≤ q) :
    (∀ k, k < l.length → 0 ≤ F.getD k 0 ∧ F.getD k 0 ≤ l.getD k 0 ∧ l.getD k 0 ≤ 1000000) ∧ (∀ x ∈ F, I64 x) ∧ (posL (subZ l F)).length ≤ 250 ∧ (∀ x ∈ posL (subZ l F), I64 x) ∧
    plainL (posL (subZ l F)) least (q - K) = plainB (posL (subZ l F)) least (q - K) ∧ (∀ y ∈ plainB (posL (subZ l F)) least (q - K), 0 ≤ y ∧ y ≤ 1000000) ∧ (∀ y ∈ plainB (posL (subZ l F)) least (q - K), I64 y) ∧
    addZ F (spreadL (subZ l F) (plainB (posL (subZ l F)) least (q - K))) = addZ F (plainB (subZ l F) least (q - K)) := by
  obtain ⟨a1, a2, a3, a4⟩ := (right_iff _ _).1 hR
  have hx : ∀ k, k < l.length → 0 ≤ F.getD k 0 ∧ F.getD k 0 ≤ l.getD k 0 ∧ l.getD k 0 ≤ 1000000 := fun k hk => by
    have := hF k hk; have := a2 _ (getD_mem hk); omega
  have hR2 := right_pos hR lF.symm hF (r := q - K) (by omega) (by omega)
  obtain ⟨b1, b2, b3, b4⟩ := (right_iff _ _).1 hR2
  have nn : ∀ x ∈ subZ l F, 0 ≤ x := fun x hx => by
    obtain ⟨k, hk, rfl⟩ := subZ_mem lF.symm hx
    have := hF k hk; omega
  have mem := plainB_mem (least := least) (fun x hx => by have := b2 x hx; omega) b3 b4
  refine ⟨hx, fun y hy => ?_, b1, fun y hy => by have := b2 y hy; exact ⟨by omega, by omega⟩, plain_yes hR2 hm, mem, fun y hy => by have := mem y hy; exact ⟨by omega, by omega⟩, ?_⟩
  · obtain ⟨k, hk, rfl⟩ := mem_getD hy
    have := hx k (by omega)
    exact ⟨by omega, by omega⟩
  · rw [spread_plain nn (by omega) (by rw [subZ_sum lF.symm]; omega)]

set_option maxRecDepth 100000 in
set_option maxHeartbeats 3200000 in
theorem PShare_any (A : Option Addr) (n cap : Nat) (xs : List Int) (top most least q : Int) (w : World) (hn : n ≤ 9223372036854775807) (t1 : -9223372036854775808 ≤ top) (t2 : top ≤ 9223372036854775807) (o1 : -9223372036854775808 ≤ most) (o2 : most ≤ 9223372036854775807) (m1 : -9223372036854775808 ≤ least) (m2 : least ≤ 9223372036854775807) (q1 : -9223372036854775808 ≤ q) (q2 : q ≤ 9223372036854775807) (h : Hid (Holds w A n xs)) :
    Calls Try.prog 17 #[.slice A n cap, .int .i64 top, .int .i64 most, .int .i64 least, .int .i64 q] w (Gave w (topL xs top most least q)) := by
  have HR := PRight_any A n cap xs least q w hn q1 q2 m1 m2 h
  cases hr : rightL xs q && decide (1 ≤ least) with
  | false =>
    rw [top_no (by rw [hr]; rfl)]
    rw [hr] at HR
    replace HR := Lib.hid HR
    clear hr
    go_enter Try.func17, Try.ntmps17
    go_wp2_with fail
    refine HR.out.mono ?_
    rintro e w1 ⟨rfl, rfl⟩
    go_wp2_with fail
    go_ret
    exact ⟨_, rfl, row_nil _ _, Below.refl _ _⟩
  | true =>
  rw [hr] at HR
  replace HR := Lib.hid HR
  by_cases hmo : most < 0
  · have dm : decide (most < 0) = true := decide_eq_true hmo
    rw [top_no (by rw [hr, decide_eq_false (by omega)]; rfl)]
    clear hr
    go_enter Try.func17, Try.ntmps17
    go_wp2_with fail
    refine HR.out.mono ?_
    rintro e w1 ⟨rfl, rfl⟩
    go_wp2_with fail
    go_ret
    exact ⟨_, rfl, row_nil _ _, Below.refl _ _⟩
  have dm : decide (most < 0) = false := decide_eq_false hmo
  obtain ⟨hr1, hr2⟩ : rightL xs q = true ∧ 1 ≤ least := by
    rw [Bool.and_eq_true] at hr; exact ⟨hr.1, of_decide_eq_true hr.2⟩
  rw [top_yes hr1 hr2 (by omega), topB_eq]
  obtain ⟨hl, hx, hq, hqs⟩ := (right_iff xs q).1 hr1
  have hx0 : ∀ x ∈ xs, 0 ≤ x ∧ x ≤ 1000000 := fun x hh => by have := hx x hh; omega
  have h0 : ∀ x ∈ xs, 0 ≤ x := fun x hh => (hx0 x hh).1
  have hlen := h.out.1
  have hbd := (sumL_bound xs 1000000 hx0).2
  have hq3 : q ≤ 250000000 := by omega
  have kfit := topK_fit (top := top) (most := most) (q := q) h0 hq (by omega)
  obtain ⟨hfit, iF, hL1, iL, hsh, hE, iE, hfin⟩ := top_facts (F := firstL xs.length top (topK xs top most q)) (K := topK xs top most q) hr1 hr2 (first_len _ _ _) (fun k hk => first_fit h0 hq (by omega) hk) (first_sum xs top most q) kfit.2
  rw [← hfin]
  have lF := first_len n top (topK xs top most q)
  rw [hlen] at hfit iF hL1 iL hsh hE iE hfin ⊢
  have fin : ∀ t : Nat, top = t → t < n → (List.replicate n (0 : Int)).set t (topK xs top most q) = firstL n top (topK xs top most q) := fun t e ht => by
    have e2 := first_in (n := n) (t := t) (k := topK xs top most q) ht
    rw [← e] at e2
    exact e2.symm
  have fout : ¬ (0 ≤ top ∧ top < (n : Int)) → firstL n top (topK xs top most q) = List.replicate n 0 := fun hh => first_out hh
  have kin : ∀ t : Nat, top = t → t < n → topK xs top most q = min (min (xs.getD t 0) most) q := fun t e ht => by
    have e2 := topK_in (l := xs) (t := t) (most := most) (q := q) (by omega)
    rw [← e] at e2
    exact e2
  have kout : ¬ (0 ≤ top ∧ top < (n : Int)) → topK xs top most q = 0 := fun hh => topK_out (by rw [hlen]; exact hh)
  obtain ⟨K, hK⟩ : ∃ K, topK xs top most q = K := ⟨_, rfl⟩
  simp only [hK] at hfit iF hL1 iL hsh hE iE hfin lF fin fout kin kout kfit ⊢
  obtain ⟨F1, hF1⟩ : ∃ F1, firstL n top K = F1 := ⟨_, rfl⟩
  simp only [hF1] at hfit iF hL1 iL hsh hE iE hfin lF fin fout ⊢
  obtain ⟨L, hL⟩ : ∃ L, posL (subZ xs F1) = L := ⟨_, rfl⟩
  rw [hL] at hL1 iL hsh hE iE hfin ⊢
  have lE := plainB_len L least (q - K)
  obtain ⟨nl, hnl⟩ : ∃ nl, L.length = nl := ⟨_, rfl⟩
  have hLl : (posL (subZ xs F1)).length = nl := by rw [hL]; exact hnl
  rw [hnl] at lE hL1
  obtain ⟨r, hrr⟩ : ∃ r, q - K = r := ⟨_, rfl⟩
  rw [hrr] at hsh hE iE hfin lE ⊢
  have r0 : 0 ≤ r := by omega
  have r1 : r ≤ 250000000 := by omega
  have rdef : r = q - K := hrr.symm
  obtain ⟨E, hEe⟩ : ∃ E, plainB L least r = E := ⟨_, rfl⟩
  rw [hEe] at hsh hE iE hfin lE ⊢
  rw [hfin]
  obtain ⟨Z, hZ⟩ : ∃ Z, addZ F1 (plainB (subZ xs F1) least r) = Z := ⟨_, rfl⟩
  rw [hZ] at hfin ⊢
  replace hfit := Lib.hid hfit
  replace iF := Lib.hid iF
  replace iL := Lib.hid iL
  replace iE := Lib.hid iE
  replace hE := Lib.hid hE
  replace hsh := Lib.hid hsh
  replace hL := Lib.hid hL
  replace hLl := Lib.hid hLl
  replace hrr := Lib.hid hrr
  replace hF1 := Lib.hid hF1
  replace hEe := Lib.hid hEe
  replace hfin := Lib.hid hfin
  replace hZ := Lib.hid hZ
  replace hx0 := Lib.hid hx0
  clear hr hr1 hx h0 hbd hK
  obtain ⟨i0, hi0, hz0, hz1, hz2⟩ := info_parts info_num
  obtain ⟨k1, k2⟩ := kfit
  by_cases hin : 0 ≤ top ∧ top < (n : Int)
  · obtain ⟨t, rfl⟩ := Int.eq_ofNat_of_zero_le hin.1
    have ht : t < n := by omega
    have hset := Lib.hid (fin t rfl ht)
    have hmin := kin t rfl ht
    clear fin fout kin kout
    have dt1 : decide (0 ≤ (t : Int)) = true := decide_eq_true (by omega)
    have dt2 : decide ((t : Int) < (n : Int)) = true := decide_eq_true (by omega)
    have dt3 : decide (t < n) = true := decide_eq_true (by omega)
    have ltA := Lib.hid (fun ad (h0 : 0 < n) (e : A = some ad) => h.out.lt h0 e)
    obtain ⟨b, off, hA, hc⟩ := h.out.2.2 (by omega)
    clear hc
    replace hA := Lib.hid hA
    have xb := hx0.out _ (getD_mem (show t < xs.length by omega))
    have xcell : Hid (∀ w', Below w.heap.size w w' → ∃ b off, A = some ⟨b, off, none⟩ ∧ w'.cell? ⟨b, off + t, none⟩ = some (.int .i64 (xs.getD t 0))) := Lib.hid (fun w' hb => by
      obtain ⟨b, off, e, hc⟩ := (h.out.below hb).2.2 (by omega)
      exact ⟨b, off, e, hc t ht⟩)
    generalize xs.getD t 0 = x at *
    rcases (show (x ≤ most ∧ x ≤ q ∧ K = x) ∨ (most < x ∧ most ≤ q ∧ K = most) ∨ (x ≤ most ∧ q < x ∧ K = q) ∨ (most < x ∧ q < most ∧ K = q) by omega) with ⟨ca, cb, e⟩ | ⟨ca, cb, e⟩ | ⟨ca, cb, e⟩ | ⟨ca, cb, e⟩
    · obtain rfl := e
      have d3 : decide (most < K) = false := decide_eq_false (by omega)
      have d4 : decide (q < K) = false := decide_eq_false (by omega)
      have wq : wrap64 (q - K) = q - K := IntWalk.wrap64_in _ ⟨by omega, by omega⟩
      replace hmin := Lib.hid hmin
      clear rdef hin
      go_enter Try.func17, Try.ntmps17
      go_wp2_with fail
      refine HR.out.mono ?_
      rintro e w1 ⟨rfl, rfl⟩
      go_wp2_with (at_make; refine wpList_make_full _ (by rfl) (.tmp 22) (.tmp 22) 26 (by rfl) w1.heap.size 2 i0 (.int .i64 0) 1 Try.underlying26 hi0 hz0 hz1 .i64 .i64 _ _ n (by rfl) (by rfl) rfl rfl (by rw [hz2]; omega) (by unfold maxLen; omega) (Nat.le_refl _) ?_)
      intro w2 r2 g2
      have R2 := Lib.hid (row_made r2)
      have B2 : Hid (Below w1.heap.size w1 w2) := Lib.hid ((Below.refl _ w1).grown g2 (Nat.le_refl _) (fun k e => by cases e))
      obtain ⟨g, hg⟩ : ∃ g, w1.heap.size = g := ⟨_, rfl⟩
      obtain ⟨b', off', hA', hck⟩ := xcell.out w2 B2.out
      rw [hA.out] at hA'
      injection hA' with hA'
      injection hA' with hb' ho'
      subst hb'; subst ho'
      rw [hg] at R2 B2 ltA
      have R2' : Hid (Row w2 g (.slice (some ⟨g, 0, none⟩) n n) (List.replicate n 0)) := R2
      obtain ⟨g', cap', e', -, hgw, hcc, hcm, hfz, hcl2⟩ := R2'.out.open' (by simp; omega)
      rw [List.length_replicate] at e' hcl2
      injection e' with e1 e2 e3
      injection e1 with e1
      injection e1 with e1
      subst e1; subst e3
      have hfk := hfz t
      have hck0 := hcl2 t ht
      have Rs := R2'.out.set (k := t) (by simp; omega) K
      rw [hset.out] at Rs
      replace Rs := Lib.hid Rs
      have Bs : Hid (Below g w1 (w2.setCell ⟨g, t, none⟩ (.int .i64 K))) := Lib.hid (B2.out.trans ((set_only w2 g t (.int .i64 K)).below (B := g) (by omega) (fun j hj e => by omega)))
      clear r2 g2 hfz hcl2 R2 R2' B2 xcell
      obtain rfl := hA.out
      go_wp2_with fail
      replace hg := Lib.hid hg
      (try rw [hg.out])
      have hA1 := Lib.hid (h.out.below (show Below w1.heap.size w1 _ by rw [hg.out]; exact Bs.out))
      obtain ⟨S1, S1c, eS, h1, -, -, -, at1⟩ := Rs.out.slice iF.out
      rw [lF] at eS h1
      injection eS with eS _ eS2
      subst eS; subst eS2
      replace h1 := Lib.hid h1
      have HL := Left_any _ n cap xs (some ⟨g, 0, none⟩) n F1 _ (by omega) hA1 h1 hfit
      rw [hL.out] at HL
      replace HL := Lib.hid HL
      have Rk := Rs
      have Bk := Bs
      go_wp2_with fail
      refine HL.out.mono ?_
      rintro e w3 ⟨v, rfl, r3, b3⟩
      obtain ⟨A3, c3, rfl, h3, -, l3, m3, at3⟩ := r3.slice iL.out
      rw [hnl] at h3 l3 ⊢
      have hA3 := Lib.hid (hA1.out.below b3)
      have r23 := Lib.hid (Rk.out.below b3)
      have B3 := Lib.hid (Bk.out.trans (b3.mono (by have q := Bk.out.size; rw [hg.out] at q; exact q)))
      have own2 := Lib.hid (fun q hq => Rk.out.lt (k := q) hq)
      replace h3 := Lib.hid h3
      have sz3 := b3.size
      have HF := PPlain_any A3 nl c3 L least r w3 (by omega) (by omega) (by omega) (by omega) (by omega) h3
      rw [hsh.out] at HF
      replace HF := Lib.hid HF
      clear HL r3 at3 b3 Rk Bk
      go_wp2_with fail
      (try rw [hrr.out])
      refine HF.out.mono ?_
      rintro e w4 ⟨v, rfl, r4, b4⟩
      obtain ⟨A4, c4, rfl, h4, -, l4, m4, at4⟩ := r4.slice iE.out
      rw [lE] at h4 l4 ⊢
      have hA4 := Lib.hid (hA3.out.below b4)
      have r24 := Lib.hid (r23.out.below b4)
      have B4 := Lib.hid (B3.out.trans (b4.mono (by have q := B3.out.size; rw [hg.out] at q; exact q)))
      replace h4 := Lib.hid h4
      have HA := PAdd_any _ n cap xs (some ⟨g, 0, none⟩) n F1 A4 nl c4 E g w4 (by omega) hA4 r24 lF h4 hLl.out hfit hE
        (Lib.hid (fun ad h0 e e2 => by have a := (own2.out _ e2).1; have b := h.out.lt h0 e; have c := hg.out; omega))
        (Lib.hid (fun ad h0 e e2 => by have a := (own2.out _ e2).2; have b := at4 ad e; omega))
      replace HA := Lib.hid HA
      clear HF r4 at4 b4
      go_wp2_with fail
      (try rw [hg.out])
      refine HA.out.mono ?_
      rintro e w5 ⟨rfl, r5, o5⟩
      have B5 := Lib.hid (B4.out.trans (o5.below (by have q := B4.out.size; rw [hg.out] at q; exact q) (fun k hk e => by have := (own2.out k e).1; omega)))
      rw [hfin.out] at r5
      replace r5 := Lib.hid r5
      clear o5 HA
      go_wp2_with fail
      go_ret
      exact ⟨_, rfl, by rw [hg.out]; exact r5.out, by rw [hg.out]; exact B5.out⟩
    · obtain rfl := e
      have d3 : decide (K < x) = true := decide_eq_true (by omega)
      have d4 : decide (q < K) = false := decide_eq_false (by omega)
      have wq : wrap64 (q - K) = q - K := IntWalk.wrap64_in _ ⟨by omega, by omega⟩
      replace hmin := Lib.hid hmin
      clear rdef hin
      go_enter Try.func17, Try.ntmps17
      go_wp2_with fail
      refine HR.out.mono ?_
      rintro e w1 ⟨rfl, rfl⟩
      go_wp2_with (at_make; refine wpList_make_full _ (by rfl) (.tmp 22) (.tmp 22) 26 (by rfl) w1.heap.size 2 i0 (.int .i64 0) 1 Try.underlying26 hi0 hz0 hz1 .i64 .i64 _ _ n (by rfl) (by rfl) rfl rfl (by rw [hz2]; omega) (by unfold maxLen; omega) (Nat.le_refl _) ?_)
      intro w2 r2 g2
      have R2 := Lib.hid (row_made r2)
      have B2 : Hid (Below w1.heap.size w1 w2) := Lib.hid ((Below.refl _ w1).grown g2 (Nat.le_refl _) (fun k e => by cases e))
      obtain ⟨g, hg⟩ : ∃ g, w1.heap.size = g := ⟨_, rfl⟩
      obtain ⟨b', off', hA', hck⟩ := xcell.out w2 B2.out
      rw [hA.out] at hA'
      injection hA' with hA'
      injection hA' with hb' ho'
      subst hb'; subst ho'
      rw [hg] at R2 B2 ltA
      have R2' : Hid (Row w2 g (.slice (some ⟨g, 0, none⟩) n n) (List.replicate n 0)) := R2
      obtain ⟨g', cap', e', -, hgw, hcc, hcm, hfz, hcl2⟩ := R2'.out.open' (by simp; omega)
      rw [List.length_replicate] at e' hcl2
      injection e' with e1 e2 e3
      injection e1 with e1
      injection e1 with e1
      subst e1; subst e3
      have hfk := hfz t
      have hck0 := hcl2 t ht
      have Rs := R2'.out.set (k := t) (by simp; omega) K
      rw [hset.out] at Rs
      replace Rs := Lib.hid Rs
      have Bs : Hid (Below g w1 (w2.setCell ⟨g, t, none⟩ (.int .i64 K))) := Lib.hid (B2.out.trans ((set_only w2 g t (.int .i64 K)).below (B := g) (by omega) (fun j hj e => by omega)))
      clear r2 g2 hfz hcl2 R2 R2' B2 xcell
      obtain rfl := hA.out
      go_wp2_with fail
      replace hg := Lib.hid hg
      (try rw [hg.out])
      have hA1 := Lib.hid (h.out.below (show Below w1.heap.size w1 _ by rw [hg.out]; exact Bs.out))
      obtain ⟨S1, S1c, eS, h1, -, -, -, at1⟩ := Rs.out.slice iF.out
      rw [lF] at eS h1
      injection eS with eS _ eS2
      subst eS; subst eS2
      replace h1 := Lib.hid h1
      have HL := Left_any _ n cap xs (some ⟨g, 0, none⟩) n F1 _ (by omega) hA1 h1 hfit
      rw [hL.out] at HL
      replace HL := Lib.hid HL
      have Rk := Rs
      have Bk := Bs
      go_wp2_with fail
      refine HL.out.mono ?_
      rintro e w3 ⟨v, rfl, r3, b3⟩
      obtain ⟨A3, c3, rfl, h3, -, l3, m3, at3⟩ := r3.slice iL.out
      rw [hnl] at h3 l3 ⊢
      have hA3 := Lib.hid (hA1.out.below b3)
      have r23 := Lib.hid (Rk.out.below b3)
      have B3 := Lib.hid (Bk.out.trans (b3.mono (by have q := Bk.out.size; rw [hg.out] at q; exact q)))
      have own2 := Lib.hid (fun q hq => Rk.out.lt (k := q) hq)
      replace h3 := Lib.hid h3
      have sz3 := b3.size
      have HF := PPlain_any A3 nl c3 L least r w3 (by omega) (by omega) (by omega) (by omega) (by omega) h3
      rw [hsh.out] at HF
      replace HF := Lib.hid HF
      clear HL r3 at3 b3 Rk Bk
      go_wp2_with fail
      (try rw [hrr.out])
      refine HF.out.mono ?_
      rintro e w4 ⟨v, rfl, r4, b4⟩
      obtain ⟨A4, c4, rfl, h4, -, l4, m4, at4⟩ := r4.slice iE.out
      rw [lE] at h4 l4 ⊢
      have hA4 := Lib.hid (hA3.out.below b4)
      have r24 := Lib.hid (r23.out.below b4)
      have B4 := Lib.hid (B3.out.trans (b4.mono (by have q := B3.out.size; rw [hg.out] at q; exact q)))
      replace h4 := Lib.hid h4
      have HA := PAdd_any _ n cap xs (some ⟨g, 0, none⟩) n F1 A4 nl c4 E g w4 (by omega) hA4 r24 lF h4 hLl.out hfit hE
        (Lib.hid (fun ad h0 e e2 => by have a := (own2.out _ e2).1; have b := h.out.lt h0 e; have c := hg.out; omega))
        (Lib.hid (fun ad h0 e e2 => by have a := (own2.out _ e2).2; have b := at4 ad e; omega))
      replace HA := Lib.hid HA
      clear HF r4 at4 b4
      go_wp2_with fail
      (try rw [hg.out])
      refine HA.out.mono ?_
      rintro e w5 ⟨rfl, r5, o5⟩
      have B5 := Lib.hid (B4.out.trans (o5.below (by have q := B4.out.size; rw [hg.out] at q; exact q) (fun k hk e => by have := (own2.out k e).1; omega)))
      rw [hfin.out] at r5
      replace r5 := Lib.hid r5
      clear o5 HA
      go_wp2_with fail
      go_ret
      exact ⟨_, rfl, by rw [hg.out]; exact r5.out, by rw [hg.out]; exact B5.out⟩
    · obtain rfl := e
      have d3 : decide (most < x) = false := decide_eq_false (by omega)
      have d4 : decide (K < x) = true := decide_eq_true (by omega)
      obtain rfl : r = 0 := by omega
      replace hmin := Lib.hid hmin
      clear rdef hin
      go_enter Try.func17, Try.ntmps17
      go_wp2_with fail
      refine HR.out.mono ?_
      rintro e w1 ⟨rfl, rfl⟩
      go_wp2_with (at_make; refine wpList_make_full _ (by rfl) (.tmp 22) (.tmp 22) 26 (by rfl) w1.heap.size 2 i0 (.int .i64 0) 1 Try.underlying26 hi0 hz0 hz1 .i64 .i64 _ _ n (by rfl) (by rfl) rfl rfl (by rw [hz2]; omega) (by unfold maxLen; omega) (Nat.le_refl _) ?_)
      intro w2 r2 g2
      have R2 := Lib.hid (row_made r2)
      have B2 : Hid (Below w1.heap.size w1 w2) := Lib.hid ((Below.refl _ w1).grown g2 (Nat.le_refl _) (fun k e => by cases e))
      obtain ⟨g, hg⟩ : ∃ g, w1.heap.size = g := ⟨_, rfl⟩
      obtain ⟨b', off', hA', hck⟩ := xcell.out w2 B2.out
      rw [hA.out] at hA'
      injection hA' with hA'
      injection hA' with hb' ho'
      subst hb'; subst ho'
      rw [hg] at R2 B2 ltA
      have R2' : Hid (Row w2 g (.slice (some ⟨g, 0, none⟩) n n) (List.replicate n 0)) := R2
      obtain ⟨g', cap', e', -, hgw, hcc, hcm, hfz, hcl2⟩ := R2'.out.open' (by simp; omega)
      rw [List.length_replicate] at e' hcl2
      injection e' with e1 e2 e3
      injection e1 with e1
      injection e1 with e1
      subst e1; subst e3
      have hfk := hfz t
      have hck0 := hcl2 t ht
      have Rs := R2'.out.set (k := t) (by simp; omega) K
      rw [hset.out] at Rs
      replace Rs := Lib.hid Rs
      have Bs : Hid (Below g w1 (w2.setCell ⟨g, t, none⟩ (.int .i64 K))) := Lib.hid (B2.out.trans ((set_only w2 g t (.int .i64 K)).below (B := g) (by omega) (fun j hj e => by omega)))
      clear r2 g2 hfz hcl2 R2 R2' B2 xcell
      obtain rfl := hA.out
      go_wp2_with fail
      replace hg := Lib.hid hg
      (try rw [hg.out])
      have hA1 := Lib.hid (h.out.below (show Below w1.heap.size w1 _ by rw [hg.out]; exact Bs.out))
      obtain ⟨S1, S1c, eS, h1, -, -, -, at1⟩ := Rs.out.slice iF.out
      rw [lF] at eS h1
      injection eS with eS _ eS2
      subst eS; subst eS2
      replace h1 := Lib.hid h1
      have HL := Left_any _ n cap xs (some ⟨g, 0, none⟩) n F1 _ (by omega) hA1 h1 hfit
      rw [hL.out] at HL
      replace HL := Lib.hid HL
      have Rk := Rs
      have Bk := Bs
      go_wp2_with fail
      refine HL.out.mono ?_
      rintro e w3 ⟨v, rfl, r3, b3⟩
      obtain ⟨A3, c3, rfl, h3, -, l3, m3, at3⟩ := r3.slice iL.out
      rw [hnl] at h3 l3 ⊢
      have hA3 := Lib.hid (hA1.out.below b3)
      have r23 := Lib.hid (Rk.out.below b3)
      have B3 := Lib.hid (Bk.out.trans (b3.mono (by have q := Bk.out.size; rw [hg.out] at q; exact q)))
      have own2 := Lib.hid (fun q hq => Rk.out.lt (k := q) hq)
      replace h3 := Lib.hid h3
      have sz3 := b3.size
      have HF := PPlain_any A3 nl c3 L least 0 w3 (by omega) (by omega) (by omega) (by omega) (by omega) h3
      rw [hsh.out] at HF
      replace HF := Lib.hid HF
      clear HL r3 at3 b3 Rk Bk
      go_wp2_with fail
      (try rw [hrr.out])
      refine HF.out.mono ?_
      rintro e w4 ⟨v, rfl, r4, b4⟩
      obtain ⟨A4, c4, rfl, h4, -, l4, m4, at4⟩ := r4.slice iE.out
      rw [lE] at h4 l4 ⊢
      have hA4 := Lib.hid (hA3.out.below b4)
      have r24 := Lib.hid (r23.out.below b4)
      have B4 := Lib.hid (B3.out.trans (b4.mono (by have q := B3.out.size; rw [hg.out] at q; exact q)))
      replace h4 := Lib.hid h4
      have HA := PAdd_any _ n cap xs (some ⟨g, 0, none⟩) n F1 A4 nl c4 E g w4 (by omega) hA4 r24 lF h4 hLl.out hfit hE
        (Lib.hid (fun ad h0 e e2 => by have a := (own2.out _ e2).1; have b := h.out.lt h0 e; have c := hg.out; omega))
        (Lib.hid (fun ad h0 e e2 => by have a := (own2.out _ e2).2; have b := at4 ad e; omega))
      replace HA := Lib.hid HA
      clear HF r4 at4 b4
      go_wp2_with fail
      (try rw [hg.out])
      refine HA.out.mono ?_
      rintro e w5 ⟨rfl, r5, o5⟩
      have B5 := Lib.hid (B4.out.trans (o5.below (by have q := B4.out.size; rw [hg.out] at q; exact q) (fun k hk e => by have := (own2.out k e).1; omega)))
      rw [hfin.out] at r5
      replace r5 := Lib.hid r5
      clear o5 HA
      go_wp2_with fail
      go_ret
      exact ⟨_, rfl, by rw [hg.out]; exact r5.out, by rw [hg.out]; exact B5.out⟩
    · obtain rfl := e
      have d3 : decide (most < x) = true := decide_eq_true (by omega)
      have d4 : decide (K < most) = true := decide_eq_true (by omega)
      obtain rfl : r = 0 := by omega
      replace hmin := Lib.hid hmin
      clear rdef hin
      go_enter Try.func17, Try.ntmps17
      go_wp2_with fail
      refine HR.out.mono ?_
      rintro e w1 ⟨rfl, rfl⟩
      go_wp2_with (at_make; refine wpList_make_full _ (by rfl) (.tmp 22) (.tmp 22) 26 (by rfl) w1.heap.size 2 i0 (.int .i64 0) 1 Try.underlying26 hi0 hz0 hz1 .i64 .i64 _ _ n (by rfl) (by rfl) rfl rfl (by rw [hz2]; omega) (by unfold maxLen; omega) (Nat.le_refl _) ?_)
      intro w2 r2 g2
      have R2 := Lib.hid (row_made r2)
      have B2 : Hid (Below w1.heap.size w1 w2) := Lib.hid ((Below.refl _ w1).grown g2 (Nat.le_refl _) (fun k e => by cases e))
      obtain ⟨g, hg⟩ : ∃ g, w1.heap.size = g := ⟨_, rfl⟩
      obtain ⟨b', off', hA', hck⟩ := xcell.out w2 B2.out
      rw [hA.out] at hA'
      injection hA' with hA'
      injection hA' with hb' ho'
      subst hb'; subst ho'
      rw [hg] at R2 B2 ltA
      have R2' : Hid (Row w2 g (.slice (some ⟨g, 0, none⟩) n n) (List.replicate n 0)) := R2
      obtain ⟨g', cap', e', -, hgw, hcc, hcm, hfz, hcl2⟩ := R2'.out.open' (by simp; omega)
      rw [List.length_replicate] at e' hcl2
      injection e' with e1 e2 e3
      injection e1 with e1
      injection e1 with e1
      subst e1; subst e3
      have hfk := hfz t
      have hck0 := hcl2 t ht
      have Rs := R2'.out.set (k := t) (by simp; omega) K
      rw [hset.out] at Rs
      replace Rs := Lib.hid Rs
      have Bs : Hid (Below g w1 (w2.setCell ⟨g, t, none⟩ (.int .i64 K))) := Lib.hid (B2.out.trans ((set_only w2 g t (.int .i64 K)).below (B := g) (by omega) (fun j hj e => by omega)))
      clear r2 g2 hfz hcl2 R2 R2' B2 xcell
      obtain rfl := hA.out
      go_wp2_with fail
      replace hg := Lib.hid hg
      (try rw [hg.out])
      have hA1 := Lib.hid (h.out.below (show Below w1.heap.size w1 _ by rw [hg.out]; exact Bs.out))
      obtain ⟨S1, S1c, eS, h1, -, -, -, at1⟩ := Rs.out.slice iF.out
      rw [lF] at eS h1
      injection eS with eS _ eS2
      subst eS; subst eS2
      replace h1 := Lib.hid h1
      have HL := Left_any _ n cap xs (some ⟨g, 0, none⟩) n F1 _ (by omega) hA1 h1 hfit
      rw [hL.out] at HL
      replace HL := Lib.hid HL
      have Rk := Rs
      have Bk := Bs
      go_wp2_with fail
      refine HL.out.mono ?_
      rintro e w3 ⟨v, rfl, r3, b3⟩
      obtain ⟨A3, c3, rfl, h3, -, l3, m3, at3⟩ := r3.slice iL.out
      rw [hnl] at h3 l3 ⊢
      have hA3 := Lib.hid (hA1.out.below b3)
      have r23 := Lib.hid (Rk.out.below b3)
      have B3 := Lib.hid (Bk.out.trans (b3.mono (by have q := Bk.out.size; rw [hg.out] at q; exact q)))
      have own2 := Lib.hid (fun q hq => Rk.out.lt (k := q) hq)
      replace h3 := Lib.hid h3
      have sz3 := b3.size
      have HF := PPlain_any A3 nl c3 L least 0 w3 (by omega) (by omega) (by omega) (by omega) (by omega) h3
      rw [hsh.out] at HF
      replace HF := Lib.hid HF
      clear HL r3 at3 b3 Rk Bk
      go_wp2_with fail
      (try rw [hrr.out])
      refine HF.out.mono ?_
      rintro e w4 ⟨v, rfl, r4, b4⟩
      obtain ⟨A4, c4, rfl, h4, -, l4, m4, at4⟩ := r4.slice iE.out
      rw [lE] at h4 l4 ⊢
      have hA4 := Lib.hid (hA3.out.below b4)
      have r24 := Lib.hid (r23.out.below b4)
      have B4 := Lib.hid (B3.out.trans (b4.mono (by have q := B3.out.size; rw [hg.out] at q; exact q)))
      replace h4 := Lib.hid h4
      have HA := PAdd_any _ n cap xs (some ⟨g, 0, none⟩) n F1 A4 nl c4 E g w4 (by omega) hA4 r24 lF h4 hLl.out hfit hE
        (Lib.hid (fun ad h0 e e2 => by have a := (own2.out _ e2).1; have b := h.out.lt h0 e; have c := hg.out; omega))
        (Lib.hid (fun ad h0 e e2 => by have a := (own2.out _ e2).2; have b := at4 ad e; omega))
      replace HA := Lib.hid HA
      clear HF r4 at4 b4
      go_wp2_with fail
      (try rw [hg.out])
      refine HA.out.mono ?_
      rintro e w5 ⟨rfl, r5, o5⟩
      have B5 := Lib.hid (B4.out.trans (o5.below (by have q := B4.out.size; rw [hg.out] at q; exact q) (fun k hk e => by have := (own2.out k e).1; omega)))
      rw [hfin.out] at r5
      replace r5 := Lib.hid r5
      clear o5 HA
      go_wp2_with fail
      go_ret
      exact ⟨_, rfl, by rw [hg.out]; exact r5.out, by rw [hg.out]; exact B5.out⟩
  · have e0 := kout hin
    have eF := fout hin
    subst e0
    replace eF := Lib.hid eF
    obtain rfl : r = q := by omega
    clear fin fout kin kout rdef
    have ltA := Lib.hid (fun ad (h0 : 0 < n) (e : A = some ad) => h.out.lt h0 e)
    by_cases hneg : 0 ≤ top
    · have dt1 : decide (0 ≤ top) = true := decide_eq_true hneg
      have dt2 : decide (top < (n : Int)) = false := decide_eq_false (by omega)
      clear hin
      go_enter Try.func17, Try.ntmps17
      go_wp2_with fail
      refine HR.out.mono ?_
      rintro e w1 ⟨rfl, rfl⟩
      go_wp2_with (at_make; refine wpList_make_full _ (by rfl) (.tmp 22) (.tmp 22) 26 (by rfl) w1.heap.size 2 i0 (.int .i64 0) 1 Try.underlying26 hi0 hz0 hz1 .i64 .i64 _ _ n (by rfl) (by rfl) rfl rfl (by rw [hz2]; omega) (by unfold maxLen; omega) (Nat.le_refl _) ?_)
      intro w2 r2 g2
      have R2 := Lib.hid (row_made r2)
      have B2 : Hid (Below w1.heap.size w1 w2) := Lib.hid ((Below.refl _ w1).grown g2 (Nat.le_refl _) (fun k e => by cases e))
      obtain ⟨g, hg⟩ : ∃ g, w1.heap.size = g := ⟨_, rfl⟩
      have R2' : Hid (Row w2 g (.slice (some ⟨g, 0, none⟩) n n) F1) := Lib.hid (by have := R2.out; rw [hg] at this; rw [← eF.out] at this; exact this)
      rw [hg] at B2 ltA
      clear r2 g2 R2
      go_wp2_with fail
      replace hg := Lib.hid hg
      (try rw [hg.out])
      have hA1 := Lib.hid (h.out.below (show Below w1.heap.size w1 _ by rw [hg.out]; exact B2.out))
      obtain ⟨S1, S1c, eS, h1, -, -, -, at1⟩ := R2'.out.slice iF.out
      rw [lF] at eS h1
      injection eS with eS _ eS2
      subst eS; subst eS2
      replace h1 := Lib.hid h1
      have HL := Left_any _ n cap xs (some ⟨g, 0, none⟩) n F1 _ (by omega) hA1 h1 hfit
      rw [hL.out] at HL
      replace HL := Lib.hid HL
      have Rk := R2'
      have Bk := B2
      go_wp2_with fail
      refine HL.out.mono ?_
      rintro e w3 ⟨v, rfl, r3, b3⟩
      obtain ⟨A3, c3, rfl, h3, -, l3, m3, at3⟩ := r3.slice iL.out
      rw [hnl] at h3 l3 ⊢
      have hA3 := Lib.hid (hA1.out.below b3)
      have r23 := Lib.hid (Rk.out.below b3)
      have B3 := Lib.hid (Bk.out.trans (b3.mono (by have q := Bk.out.size; rw [hg.out] at q; exact q)))
      have own2 := Lib.hid (fun q hq => Rk.out.lt (k := q) hq)
      replace h3 := Lib.hid h3
      have sz3 := b3.size
      have HF := PPlain_any A3 nl c3 L least r w3 (by omega) (by omega) (by omega) (by omega) (by omega) h3
      rw [hsh.out] at HF
      replace HF := Lib.hid HF
      clear HL r3 at3 b3 Rk Bk
      go_wp2_with fail
      (try rw [hrr.out])
      refine HF.out.mono ?_
      rintro e w4 ⟨v, rfl, r4, b4⟩
      obtain ⟨A4, c4, rfl, h4, -, l4, m4, at4⟩ := r4.slice iE.out
      rw [lE] at h4 l4 ⊢
      have hA4 := Lib.hid (hA3.out.below b4)
      have r24 := Lib.hid (r23.out.below b4)
      have B4 := Lib.hid (B3.out.trans (b4.mono (by have q := B3.out.size; rw [hg.out] at q; exact q)))
      replace h4 := Lib.hid h4
      have HA := PAdd_any _ n cap xs (some ⟨g, 0, none⟩) n F1 A4 nl c4 E g w4 (by omega) hA4 r24 lF h4 hLl.out hfit hE
        (Lib.hid (fun ad h0 e e2 => by have a := (own2.out _ e2).1; have b := h.out.lt h0 e; have c := hg.out; omega))
        (Lib.hid (fun ad h0 e e2 => by have a := (own2.out _ e2).2; have b := at4 ad e; omega))
      replace HA := Lib.hid HA
      clear HF r4 at4 b4
      go_wp2_with fail
      (try rw [hg.out])
      refine HA.out.mono ?_
      rintro e w5 ⟨rfl, r5, o5⟩
      have B5 := Lib.hid (B4.out.trans (o5.below (by have q := B4.out.size; rw [hg.out] at q; exact q) (fun k hk e => by have := (own2.out k e).1; omega)))
      rw [hfin.out] at r5
      replace r5 := Lib.hid r5
      clear o5 HA
      go_wp2_with fail
      go_ret
      exact ⟨_, rfl, by rw [hg.out]; exact r5.out, by rw [hg.out]; exact B5.out⟩
    · have dt1 : decide (0 ≤ top) = false := decide_eq_false hneg
      clear hin
      go_enter Try.func17, Try.ntmps17
      go_wp2_with fail
      refine HR.out.mono ?_
      rintro e w1 ⟨rfl, rfl⟩
      go_wp2_with (at_make; refine wpList_make_full _ (by rfl) (.tmp 22) (.tmp 22) 26 (by rfl) w1.heap.size 2 i0 (.int .i64 0) 1 Try.underlying26 hi0 hz0 hz1 .i64 .i64 _ _ n (by rfl) (by rfl) rfl rfl (by rw [hz2]; omega) (by unfold maxLen; omega) (Nat.le_refl _) ?_)
      intro w2 r2 g2
      have R2 := Lib.hid (row_made r2)
      have B2 : Hid (Below w1.heap.size w1 w2) := Lib.hid ((Below.refl _ w1).grown g2 (Nat.le_refl _) (fun k e => by cases e))
      obtain ⟨g, hg⟩ : ∃ g, w1.heap.size = g := ⟨_, rfl⟩
      have R2' : Hid (Row w2 g (.slice (some ⟨g, 0, none⟩) n n) F1) := Lib.hid (by have := R2.out; rw [hg] at this; rw [← eF.out] at this; exact this)
      rw [hg] at B2 ltA
      clear r2 g2 R2
      go_wp2_with fail
      replace hg := Lib.hid hg
      (try rw [hg.out])
      have hA1 := Lib.hid (h.out.below (show Below w1.heap.size w1 _ by rw [hg.out]; exact B2.out))
      obtain ⟨S1, S1c, eS, h1, -, -, -, at1⟩ := R2'.out.slice iF.out
      rw [lF] at eS h1
      injection eS with eS _ eS2
      subst eS; subst eS2
      replace h1 := Lib.hid h1
      have HL := Left_any _ n cap xs (some ⟨g, 0, none⟩) n F1 _ (by omega) hA1 h1 hfit
      rw [hL.out] at HL
      replace HL := Lib.hid HL
      have Rk := R2'
      have Bk := B2
      go_wp2_with fail
      refine HL.out.mono ?_
      rintro e w3 ⟨v, rfl, r3, b3⟩
      obtain ⟨A3, c3, rfl, h3, -, l3, m3, at3⟩ := r3.slice iL.out
      rw [hnl] at h3 l3 ⊢
      have hA3 := Lib.hid (hA1.out.below b3)
      have r23 := Lib.hid (Rk.out.below b3)
      have B3 := Lib.hid (Bk.out.trans (b3.mono (by have q := Bk.out.size; rw [hg.out] at q; exact q)))
      have own2 := Lib.hid (fun q hq => Rk.out.lt (k := q) hq)
      replace h3 := Lib.hid h3
      have sz3 := b3.size
      have HF := PPlain_any A3 nl c3 L least r w3 (by omega) (by omega) (by omega) (by omega) (by omega) h3
      rw [hsh.out] at HF
      replace HF := Lib.hid HF
      clear HL r3 at3 b3 Rk Bk
      go_wp2_with fail
      (try rw [hrr.out])
      refine HF.out.mono ?_
      rintro e w4 ⟨v, rfl, r4, b4⟩
      obtain ⟨A4, c4, rfl, h4, -, l4, m4, at4⟩ := r4.slice iE.out
      rw [lE] at h4 l4 ⊢
      have hA4 := Lib.hid (hA3.out.below b4)
      have r24 := Lib.hid (r23.out.below b4)
      have B4 := Lib.hid (B3.out.trans (b4.mono (by have q := B3.out.size; rw [hg.out] at q; exact q)))
      replace h4 := Lib.hid h4
      have HA := PAdd_any _ n cap xs (some ⟨g, 0, none⟩) n F1 A4 nl c4 E g w4 (by omega) hA4 r24 lF h4 hLl.out hfit hE
        (Lib.hid (fun ad h0 e e2 => by have a := (own2.out _ e2).1; have b := h.out.lt h0 e; have c := hg.out; omega))
        (Lib.hid (fun ad h0 e e2 => by have a := (own2.out _ e2).2; have b := at4 ad e; omega))
      replace HA := Lib.hid HA
      clear HF r4 at4 b4
      go_wp2_with fail
      (try rw [hg.out])
      refine HA.out.mono ?_
      rintro e w5 ⟨rfl, r5, o5⟩
      have B5 := Lib.hid (B4.out.trans (o5.below (by have q := B4.out.size; rw [hg.out] at q; exact q) (fun k hk e => by have := (own2.out k e).1; omega)))
      rw [hfin.out] at r5
      replace r5 := Lib.hid r5
      clear o5 HA
      go_wp2_with fail
      go_ret
      exact ⟨_, rfl, by rw [hg.out]; exact r5.out, by rw [hg.out]; exact B5.out⟩
end Go.Proofs.Ytabogoonbapjiaa
