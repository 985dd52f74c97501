/-
  The program's shares by size: bySize, Plain.
-/
import Derived.Test.YtabogoonbapjiaaPrLeaf
import Derived.Test.YtabogoonbapjiaaShare
import Derived.Test.YtabogoonbapjiaaSum
namespace Go.Proofs.Ytabogoonbapjiaa
open Go.RowKit
set_option linter.unusedVariables false
set_option linter.unusedSimpArgs false

theorem Holds.lt {w : World} {A : Option Addr} {n : Nat} {xs : List Int} (h : Holds w A n xs) (h0 : 0 < n) {ad : Addr} (e : A = some ad) : ad.block < w.heap.size := by
  obtain ⟨b, off, e2, hc⟩ := h.2.2 h0
  rw [e] at e2
  injection e2 with e2
  subst e2
  exact World.block_lt_of_cell? w _ (hc 0 h0)
theorem sum_ge {l : List Int} (h : ∀ x ∈ l, 0 ≤ x) {k : Nat} (hk : k < l.length) : l.getD k 0 ≤ sumL l := by
  have a := sum_take_le h (k + 1)
  have b := sum_nonneg (l := l.take k) (fun x hx => h x (List.mem_of_mem_take hx))
  rw [sumL_take l k hk] at a
  omega
/-- What a call leaves that answers a list and a number. -/
def Gave2 (w : World) (l : List Int) (r : Int) (e : Ending) (w' : World) : Prop := ∃ v, e = .returned (.tuple #[v, .int .i64 r]) ∧ Row w' w.heap.size v l ∧ Below w.heap.size w w'
/-- What the loop is told of the shares by size. -/
theorem by_facts {l : List Int} {least q : Int} (h : ∀ x ∈ l, 0 ≤ x ∧ x ≤ 1000000) (hl : l.length ≤ 250) (hq : 0 ≤ q) (hs : q ≤ sumL l) :
    (∀ k, k < l.length → 0 ≤ l.getD k 0 * q / sumL l ∧ l.getD k 0 * q / sumL l ≤ 1000000) ∧
    (∀ k, k < l.length → least ≤ l.getD k 0 * q / sumL l → (byL l least q).getD k 0 = l.getD k 0 * q / sumL l) ∧
    (∀ k, k < l.length → ¬ least ≤ l.getD k 0 * q / sumL l → (byL l least q).getD k 0 = 0) ∧
    (∀ k, 0 ≤ q - sumL ((byL l least q).take k) ∧ q - sumL ((byL l least q).take k) ≤ 250000000) ∧ 0 ≤ sumL l ∧ sumL l ≤ 250000000 ∧ q ≤ 250000000 := by
  have h0 : ∀ x ∈ l, 0 ≤ x := fun x hx => (h x hx).1
  have bd := sumL_bound l 1000000 h
  refine ⟨fun k hk => ?_, fun k hk hle => ?_, fun k hk hle => ?_, fun k => ?_, bd.1, by omega, by omega⟩
  · have := quo_fit (nonneg_get h0 hk) hq hs
    have := h _ (getD_mem hk)
    omega
  · rw [by_get l least q hk]; with_unfolding_all
    show (bif decide (least ≤ _) then _ else _) = _
    rw [decide_eq_true hle]; rfl
  · rw [by_get l least q hk]; with_unfolding_all
    show (bif decide (least ≤ _) then _ else _) = _
    rw [decide_eq_false hle]; rfl
  · have nn := by_nonneg (least := least) h0 hq hs
    have a := sum_take_le nn k
    have b := sum_nonneg (l := (byL l least q).take k) (fun x hx => nn x (List.mem_of_mem_take hx))
    have c := by_sum (least := least) h0 hq hs
    omega

set_option maxRecDepth 100000 in
set_option maxHeartbeats 1600000 in
theorem BySize_any (A : Option Addr) (n cap : Nat) (xs : List Int) (least q : Int) (w : World) (h : Hid (Holds w A n xs)) (hr : rightL xs q = true) (m1 : 1 ≤ least) (m2 : least ≤ 9223372036854775807) :
    Calls Try.prog 38 #[.slice A n cap, .int .i64 least, .int .i64 q] w (Gave2 w (byL xs least q) (q - sumL (byL xs least q))) := by
  obtain ⟨hl, hx, hq, hqs⟩ := (right_iff xs q).1 hr
  have hlen := h.out.1
  have hx0 : ∀ x ∈ xs, 0 ≤ x ∧ x ≤ 1000000 := fun x hh => by have := hx x hh; omega
  obtain ⟨f1, f2, f3, f4, f5, f6, f7⟩ := by_facts (least := least) hx0 hl hq hqs
  have big : ∀ k, k < n → 1 ≤ sumL xs := fun k hk => by have := sum_ge (fun x hh => (hx0 x hh).1) (show k < xs.length by omega); have := hx _ (getD_mem (show k < xs.length by omega)); omega
  have hbl := by_len xs least q
  have HS := Sum_any A n cap xs w (by omega) h
  rw [hlen] at hbl f1 f2 f3
  obtain ⟨M, hM⟩ : ∃ M, sumL xs = M := ⟨_, rfl⟩
  rw [hM] at f1 f2 f3 f5 f6 big HS hqs
  obtain ⟨B, hB⟩ : ∃ B, byL xs least q = B := ⟨_, rfl⟩
  rw [hB] at f2 f3 f4 hbl ⊢
  rw [pick_yes (fitB_yes (x := M) (by omega) (by omega)), fitB_yes (x := M) (by omega) (by omega)] at HS
  have hT : sumL B = sumL (B.take n) := by rw [List.take_of_length_le (by omega)]
  rw [hT]
  replace HS := Lib.hid HS
  replace f1 := Lib.hid f1
  replace f2 := Lib.hid f2
  replace f3 := Lib.hid f3
  replace f4 := Lib.hid f4
  replace big := Lib.hid big
  replace hx := Lib.hid hx
  replace hM := Lib.hid hM
  replace hB := Lib.hid hB
  clear hr hx0 hT
  obtain ⟨i0, hi0, hz0, hz1, hz2⟩ := info_parts info_num
  go_enter Try.func38, Try.ntmps38
  go_wp2_with fail
  refine HS.out.mono ?_
  rintro e w1 ⟨rfl, rfl⟩
  go_wp2_with (at_make; refine wpList_make_full _ (by rfl) (.tmp 22) (.tmp 22) 26 (by rfl) w.heap.size 2 i0 (.int .i64 0) 1 Try.underlying26 hi0 hz0 hz1 .i64 .i64 _ _ n (by rfl) (by rfl) rfl rfl (by rw [hz2]; omega) (by unfold maxLen; omega) (Nat.le_refl _) ?_)
  intro w2 r2 g2
  have R2 := Lib.hid (row_made r2)
  have B2 : Hid (Below w.heap.size w w2) := Lib.hid ((Below.refl _ w).grown g2 (Nat.le_refl _) (fun k e => by cases e))
  obtain ⟨g, hg⟩ : ∃ g, w.heap.size = g := ⟨_, rfl⟩
  have hAg : Hid (∀ ad, A = some ad → 0 < n → ad.block < g) := Lib.hid (fun ad e h0 => by rw [← hg]; exact h.out.lt h0 e)
  rw [hg] at R2 B2
  replace hg := Lib.hid hg
  clear r2 g2
  go_wp2_with fail
  rw [hg.out]
  go_loopw [11, 27] (fun s i wr => ∃ (k : Nat) (m : Int), s = .int .i64 m ∧ i = .int .i64 k ∧ k ≤ n ∧ Hid (m = q - sumL (B.take k)) ∧ Hid (Row wr g (.slice (some ⟨g, 0, none⟩) n n) (curL B n k)) ∧ Hid (Below g w wr)) (fun _ i _ => n - (intOf i).toNat)
  case atStart => exact ⟨0, q, rfl, rfl, by omega, Lib.hid (by simp [sumL]), by rw [cur_zero]; exact R2, B2⟩
  case round =>
    obtain ⟨k, m, rfl, rfl, hk, hm, hR, hBl⟩ := hrel
    obtain ⟨mm1, mm2⟩ := f4.out k
    rw [← hm.out] at mm1 mm2
    by_cases hlt : k < n
    · have HW := h.out.below (hg.out ▸ hBl.out)
      obtain ⟨b, off, rfl, hc⟩ := HW.2.2 (by omega)
      have hcell := hc k hlt
      have hxk := hx.out _ (getD_mem (show k < xs.length by omega))
      have hM1 := big.out k hlt
      obtain ⟨s1, s2⟩ := f1.out k hlt
      have by1 := f2.out k hlt
      have by0 := f3.out k hlt
      have hst := sumL_take B k (by omega)
      have nx0 := cur_set hbl hlt
      have nx1 := cur_skip hbl hlt
      have bd1 := f4.out (k + 1)
      have hcl := cur_len hbl hk
      clear hc HW
      generalize xs.getD k 0 = x at *
      have HSh := Share_any x q M wr (by omega) (by omega) (by omega) (by omega) (by omega) (by omega)
      obtain ⟨s, hs⟩ : ∃ s, x * q / M = s := ⟨_, rfl⟩
      rw [hs] at HSh s1 s2 by1 by0
      rw [pick_yes (fitB_yes (x := s) (by omega) (by omega)), fitB_yes (x := s) (by omega) (by omega)] at HSh
      replace HSh := Lib.hid HSh
      replace hs := Lib.hid hs
      have d1 : decide ((k : Int) < (n : Int)) = true := decide_eq_true (by omega)
      have d1' : (k : Int) < (n : Int) := by omega
      by_cases hle : least ≤ s
      · have d2 : decide (least ≤ s) = true := decide_eq_true hle
        rw [by1 hle] at hst nx0
        rw [hst] at bd1
        have hnew : m - s = q - (sumL (B.take k) + s) := by rw [hm.out]; omega
        rw [← hst] at hnew
        rw [← hst, ← hnew] at bd1
        obtain ⟨bd2, bd3⟩ := bd1
        replace hnew := Lib.hid hnew
        replace hst := Lib.hid hst
        replace nx0 := Lib.hid nx0
        clear by1 by0 nx1
        go_wp2_with fail
        refine HSh.out.mono ?_
        rintro e wx ⟨rfl, d, rfl⟩
        have R3 := Lib.hid (hR.out.drewN d)
        have B3 := Lib.hid (below_drewN hBl.out d)
        obtain ⟨wd, hwd⟩ : ∃ wd, wr.drewN d = wd := ⟨_, rfl⟩
        rw [hwd] at R3 B3 ⊢
        clear hwd hR hBl HSh
        obtain ⟨g', cap', e', -, hgw, hcc, hcm, hfz, hcl2⟩ := R3.out.open' (by omega)
        rw [hcl] at e' hcl2
        injection e' with e1 e2 e3
        injection e1 with e1
        injection e1 with e1
        subst e1; subst e3
        have hfk := hfz k
        have hck := hcl2 k hlt
        have Rs := R3.out.set (k := k) (by omega) s
        rw [nx0.out] at Rs
        replace Rs := Lib.hid Rs
        have Bs : Hid (Below g w (wd.setCell ⟨g, k, none⟩ (.int .i64 s))) := Lib.hid (B3.out.trans ((set_only wd g k (.int .i64 s)).below (by omega) (fun j hj e => by omega)))
        have w1' : wrap64 (m - s) = m - s := IntWalk.wrap64_in _ ⟨by omega, by omega⟩
        clear hfz hcl2
        go_wp2_with fail
        go_roundw
        case rel => exact ⟨k + 1, m - s, by go_num, by go_num, by omega, hnew, Rs, Bs⟩
        case measure => simp [intOf]; omega
      · have d2 : decide (least ≤ s) = false := decide_eq_false hle
        have b0 := by0 (by omega)
        rw [b0] at hst
        have nx := Lib.hid (nx1 b0)
        have hnew : Hid (m = q - sumL (B.take (k + 1))) := Lib.hid (by rw [hst, hm.out]; omega)
        clear by1 by0 nx0 nx1 b0 hst bd1
        go_wp2_with fail
        refine HSh.out.mono ?_
        rintro e wx ⟨rfl, d, rfl⟩
        have R3 := Lib.hid (hR.out.drewN d)
        have B3 := Lib.hid (below_drewN hBl.out d)
        obtain ⟨wd, hwd⟩ : ∃ wd, wr.drewN d = wd := ⟨_, rfl⟩
        rw [hwd] at R3 B3 ⊢
        clear hwd hR hBl HSh
        go_wp2_with fail
        go_roundw
        case rel => exact ⟨k + 1, m, by go_num, by go_num, by omega, hnew, by rw [nx.out]; exact R3, B3⟩
        case measure => simp [intOf]; omega
    · obtain rfl : k = n := by omega
      have d1 : decide ((k : Int) < (k : Int)) = false := by simp
      rw [cur_full hbl] at hR
      go_wp2_with fail
      go_ret2
      exact ⟨.slice (some ⟨g, 0, none⟩) k k, by rw [← hm.out]; rfl, by rw [hg.out]; exact hR.out, by rw [hg.out]; exact hBl.out⟩

theorem plainB_fill {l : List Int} {least q : Int} (h : ∀ x ∈ l, 0 ≤ x) (hq : 0 ≤ q) (hs : q ≤ sumL l) : addZ (byL l least q) (spreadL (subZ l (byL l least q)) (fillL (posL (subZ l (byL l least q))) (q - sumL (byL l least q)))) = plainB l least q := by
  have b := by_sum (least := least) h hq hs
  rw [spread_fill (restB_nonneg h hq hs) (by omega)]
  with_unfolding_all rfl
theorem by_right {l : List Int} {least q : Int} (hR : rightL l q = true) : rightL (posL (subZ l (byL l least q))) (q - sumL (byL l least q)) = true := by
  obtain ⟨a1, a2, a3, a4⟩ := (right_iff _ _).1 hR
  have h0 : ∀ x ∈ l, 0 ≤ x := fun x hx => by have := a2 x hx; omega
  have b := by_sum (least := least) h0 a3 a4
  exact right_pos hR (by_len l least q).symm (fun k hk => by_fit h0 a3 a4 hk) (by omega) (by omega)
theorem plain_yes {l : List Int} {least q : Int} (h : rightL l q = true) (hm : 1 ≤ least) : plainL l least q = plainB l least q := by
  have : plainL l least q = bif rightL l q && decide (1 ≤ least) then plainB l least q else [] := by with_unfolding_all rfl
  rw [this, h, decide_eq_true hm]; rfl
theorem plain_no {l : List Int} {least q : Int} (h : (rightL l q && decide (1 ≤ least)) = false) : plainL l least q = [] := by
  have : plainL l least q = bif rightL l q && decide (1 ≤ least) then plainB l least q else [] := by with_unfolding_all rfl
  rw [this, h]; rfl
theorem plainB_mem {l : List Int} {least q : Int} (h : ∀ x ∈ l, 0 ≤ x ∧ x ≤ 1000000) (hq : 0 ≤ q) (hs : q ≤ sumL l) : ∀ y ∈ plainB l least q, 0 ≤ y ∧ y ≤ 1000000 := fun y hy => by
  have h0 : ∀ x ∈ l, 0 ≤ x := fun x hx => (h x hx).1
  obtain ⟨k, hk, rfl⟩ := mem_getD hy
  rw [plainB_len] at hk
  have a := by_fit (least := least) h0 hq hs hk
  have b := plainB_fit (least := least) h0 hq hs hk
  have c := h _ (getD_mem hk)
  omega

set_option maxRecDepth 100000 in
set_option maxHeartbeats 1600000 in
theorem PPlain_any (A : Option Addr) (n cap : Nat) (xs : List Int) (least q : Int) (w : World) (hn : n ≤ 9223372036854775807) (q1 : -9223372036854775808 ≤ q) (q2 : q ≤ 9223372036854775807) (m1 : -9223372036854775808 ≤ least) (m2 : least ≤ 9223372036854775807) (h : Hid (Holds w A n xs)) :
    Calls Try.prog 27 #[.slice A n cap, .int .i64 least, .int .i64 q] w (Gave w (plainL xs least q)) := by
  have HR := PRight_any A n cap xs least q w hn q1 q2 m1 m2 h
  cases hr : rightL xs q && decide (1 ≤ least) with
  | false =>
    rw [plain_no hr]
    rw [hr] at HR
    replace HR := Lib.hid HR
    clear hr
    go_enter Try.func27, Try.ntmps27
    go_wp2_with fail
    refine HR.out.mono ?_
    rintro e w1 ⟨rfl, rfl⟩
    go_wp2_with fail
    go_ret
    exact ⟨_, rfl, row_nil _ _, Below.refl _ _⟩
  | true =>
    rw [hr] at HR
    replace HR := Lib.hid HR
    obtain ⟨hr1, hr2⟩ : rightL xs q = true ∧ 1 ≤ least := by
      rw [Bool.and_eq_true] at hr; exact ⟨hr.1, of_decide_eq_true hr.2⟩
    rw [plain_yes hr1 hr2]
    have HB := Lib.hid (BySize_any A n cap xs least q w h hr1 hr2 m2)
    obtain ⟨hl, hx, hq, hqs⟩ := (right_iff xs q).1 hr1
    have hx0 : ∀ x ∈ xs, 0 ≤ x ∧ x ≤ 1000000 := fun x hh => by have := hx x hh; omega
    have h0 : ∀ x ∈ xs, 0 ≤ x := fun x hh => (hx0 x hh).1
    have hlen := h.out.1
    have hbd := (sumL_bound xs 1000000 hx0).2
    have hbl := by_len xs least q
    have hfit : ∀ k, k < n → 0 ≤ (byL xs least q).getD k 0 ∧ (byL xs least q).getD k 0 ≤ xs.getD k 0 ∧ xs.getD k 0 ≤ 1000000 := fun k hk => by
      have a := by_fit (least := least) h0 hq hqs (show k < xs.length by omega)
      have b := hx0 _ (getD_mem (show k < xs.length by omega))
      omega
    have hsm := by_sum (least := least) h0 hq hqs
    have hri := by_right (least := least) hr1
    have hfin := plainB_fill (least := least) h0 hq hqs
    have iB : ∀ x ∈ byL xs least q, I64 x := fun y hy => by
      obtain ⟨k, hk, rfl⟩ := mem_getD hy
      have := hfit k (by omega)
      exact ⟨by omega, by omega⟩
    obtain ⟨B, hB⟩ : ∃ B, byL xs least q = B := ⟨_, rfl⟩
    rw [hB] at HB hbl hsm hri hfin iB
    simp only [hB] at hfit
    obtain ⟨r, hrr⟩ : ∃ r, q - sumL B = r := ⟨_, rfl⟩
    have r0 : 0 ≤ r := by omega
    have r1 : r ≤ 250000000 := by omega
    rw [hrr] at HB hri hfin
    obtain ⟨L, hL⟩ : ∃ L, posL (subZ xs B) = L := ⟨_, rfl⟩
    rw [hL] at hri hfin
    have hsh := share_yes hri
    obtain ⟨hL1, hL2, -, -⟩ := (right_iff _ _).1 hri
    have iL : ∀ x ∈ L, I64 x := fun y hy => by have := hL2 y hy; exact ⟨by omega, by omega⟩
    have hE := fill_mem L r (fun x hx => by have := hL2 x hx; omega) r0
    have iE : ∀ x ∈ fillL L r, I64 x := fun y hy => by have := hE y hy; exact ⟨by omega, by omega⟩
    have lE := fill_len L r
    obtain ⟨E, hEe⟩ : ∃ E, fillL L r = E := ⟨_, rfl⟩
    rw [hEe] at hfin hsh hE iE lE
    obtain ⟨nl, hnl⟩ : ∃ nl, L.length = nl := ⟨_, rfl⟩
    rw [hnl] at lE hL1
    rw [← hfin]
    have hLl : (posL (subZ xs B)).length = nl := by rw [hL]; exact hnl
    replace hfit := Lib.hid hfit
    replace iB := Lib.hid iB
    replace iL := Lib.hid iL
    replace iE := Lib.hid iE
    replace hE := Lib.hid hE
    replace hsh := Lib.hid hsh
    replace hL := Lib.hid hL
    replace hLl := Lib.hid hLl
    replace hrr := Lib.hid hrr
    replace hB := Lib.hid hB
    replace hEe := Lib.hid hEe
    clear hr hr1 hx hx0 h0 hbd hsm hri hL2 hfin
    rw [hlen] at hbl
    go_enter Try.func27, Try.ntmps27
    go_wp2_with fail
    refine HR.out.mono ?_
    rintro e w1 ⟨rfl, rfl⟩
    go_wp2_with fail
    refine HB.out.mono ?_
    rintro e w2 ⟨v, rfl, r2, b2⟩
    obtain ⟨S, cs, rfl, h2, z2, l2, c2, at2⟩ := r2.slice iB.out
    rw [hbl] at h2 r2 l2 ⊢
    have hA2 := Lib.hid (h.out.below b2)
    have ltA := Lib.hid (fun ad (h0 : 0 < n) (e : A = some ad) => h.out.lt h0 e)
    replace r2 := Lib.hid r2
    replace b2 := Lib.hid b2
    replace h2 := Lib.hid h2
    replace at2 := Lib.hid at2
    have HL := Left_any A n cap xs S cs B w2 (by omega) hA2 h2 hfit
    rw [hL.out] at HL
    replace HL := Lib.hid HL
    clear HB HR
    go_wp2_with fail
    refine HL.out.mono ?_
    rintro e w3 ⟨v, rfl, r3, b3⟩
    obtain ⟨A3, c3, rfl, h3, -, l3, m3, at3⟩ := r3.slice iL.out
    rw [hnl] at h3 l3 ⊢
    have hA3 := Lib.hid (hA2.out.below b3)
    have r23 := Lib.hid (r2.out.below b3)
    have B3 := Lib.hid (below_up b2.out b3)
    replace h3 := Lib.hid h3
    have sz3 := b3.size
    have HF := FShare_any A3 nl c3 L r w3 (by omega) (by omega) (by omega) h3
    rw [hsh.out] at HF
    replace HF := Lib.hid HF
    clear HL r3 at3 b3
    go_wp2_with fail
    refine HF.out.mono ?_
    rintro e w4 ⟨v, rfl, r4, b4⟩
    obtain ⟨A4, c4, rfl, h4, -, l4, m4, at4⟩ := r4.slice iE.out
    rw [lE] at h4 l4 ⊢
    have hA4 := Lib.hid (hA3.out.below b4)
    have r24 := Lib.hid (r23.out.below b4)
    have B4 := Lib.hid (below_up B3.out b4)
    replace h4 := Lib.hid h4
    have hown : ∀ q, (Value.slice S n cs).ownBlock = some q → w1.heap.size ≤ q ∧ q < w2.heap.size := fun q hq => r2.out.lt hq
    have HA := PAdd_any A n cap xs S cs B A4 nl c4 E w1.heap.size w4 (by omega) hA4 r24 hbl h4 hLl.out hfit hE
      (Lib.hid (fun ad h0 e e2 => by have a := hown _ e2; have b := ltA.out ad h0 e; omega))
      (Lib.hid (fun ad h0 e e2 => by have a := hown _ e2; have b := at4 ad e; omega))
    replace HA := Lib.hid HA
    replace hown := Lib.hid hown
    clear HF r4 at4 b4
    go_wp2_with fail
    refine HA.out.mono ?_
    rintro e w5 ⟨rfl, r5, o5⟩
    have B5 := Lib.hid (B4.out.trans (o5.below B4.out.size (fun k hk e => by have := (hown.out k e).1; omega)))
    replace r5 := Lib.hid r5
    clear o5 HA
    go_wp2_with fail
    go_ret
    exact ⟨_, rfl, r5.out, B5.out⟩
end Go.Proofs.Ytabogoonbapjiaa
