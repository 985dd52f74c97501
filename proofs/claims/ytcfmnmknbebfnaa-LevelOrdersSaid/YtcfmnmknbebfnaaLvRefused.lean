/-
  The walk of LevelRefused.
-/
import Derived.Test.YtcfmnmknbebfnaaLvSame
import Derived.Test.YtcfmnmknbebfnaaOpenAsk
import Derived.Test.YtcfmnmknbebfnaaLvKnown
import Derived.Test.YtcfmnmknbebfnaaLvPlays
import Derived.Deep.CutBlock
namespace Go.Proofs.Ytcfmnmknbebfnaa
open Go.RowKit
set_option linter.unusedVariables false
set_option linter.unusedSimpArgs false

theorem pushO_same (st : St) (q i n : Int) (t : Bool) : (pushO st q i n t).2.1 ≠ 0 → (pushO st q i n t).2.2 = st := by
  unfold pushO
  split
  · exact fun _ => rfl
  · split
    · exact fun _ => rfl
    · split
      · exact fun _ => rfl
      · intro h; exact absurd rfl h
theorem takeO_same (st : St) (s n : Int) : (takeO st s n).1 ≠ 0 → (takeO st s n).2 = st := by
  unfold takeO
  split
  · exact fun _ => rfl
  · split
    · exact fun _ => rfl
    · split
      · intro h; exact absurd rfl h
      · intro h; exact absurd rfl h
theorem topO_same (st : St) (s : Int) (t : Bool) : (topO st s t).1 ≠ 0 → (topO st s t).2 = st := by
  unfold topO
  split
  · exact fun _ => rfl
  · intro h; exact absurd rfl h
theorem RE.slice0 {T : TypeId} {w : World} {base : Nat} {v : Value} {l : List En} (h : RE T w base v l) : ∃ A cap, v = .slice A l.length cap ∧ HE w A l.length l ∧ l.length ≤ cap ∧ cap ≤ 9223372036854775807 ∧ (A = none → cap = 0) := by
  obtain ⟨A, cap, e, h1, h2, h3, h4⟩ := h.slice
  refine ⟨A, cap, e, h1, h2, h3, fun hA => ?_⟩
  subst hA
  rcases h.2 with ⟨e0, _⟩ | ⟨g, cap', cur, e0, _⟩
  · rw [e0] at e; injection e with _ _ e; exact e.symm
  · rw [e0] at e; cases e
/-- In the middle of a round: the arena behind its call, and what its queues were. -/
structure Mid (B c : Nat) (F : Nat → Prop) (st st' : St) (f : Int) (ab : Nat) (x0 x1 : Value) (w wx : World) : Prop where
  ar : AR B c F st' wx
  same : f ≠ 0 → st' = st
  two : st'.Q.length = 2
  blk : wx.heap[ab]? = some (.cells #[x0, x1] 49 (0, 0))
  r0 : RE 40 wx (ab + 1) x0 (listO st 0)
  r1 : RE 40 wx (ab + 1) x1 (listO st 1)
  bel : Below B w wx
  bsz : B ≤ wx.heap.size
theorem Mid.below {B c : Nat} {F : Nat → Prop} {st st' : St} {f : Int} {ab : Nat} {x0 x1 : Value} {w wx wy : World} (h : Mid B c F st st' f ab x0 x1 w wx) (hb : Below wx.heap.size wx wy) : Mid B c F st st' f ab x0 x1 w wy :=
  ⟨h.ar.below hb, h.same, h.two, (hb.block ab (Array.getElem?_eq_some_iff.1 h.blk).1).trans h.blk, h.r0.keep hb, h.r1.keep hb, h.bel.trans (hb.mono h.bsz), Nat.le_trans h.bsz hb.size⟩
theorem Mid.askBelow {B c : Nat} {F : Nat → Prop} {st st' : St} {f : Int} {ab : Nat} {x0 x1 : Value} {w wx wy : World} (h : Mid B c F st st' f ab x0 x1 w wx) (o : Only F wx wy) : Below B wx wy := o.below h.bsz (fun k hk e => by have := (h.ar.lt e).1; omega)
theorem Mid.step {B c : Nat} {F : Nat → Prop} {st st' : St} {f f' : Int} {ab : Nat} {x0 x1 : Value} {w wx wy : World} (h : Mid B c F st st f ab x0 x1 w wx) (a : AR B c F st' wy) (o : Only F wx wy) (hs : f' ≠ 0 → st' = st) (hq : st'.Q.length = st.Q.length) (hF : ∀ k, F k → k < ab) : Mid B c F st st' f' ab x0 x1 w wy :=
  ⟨a, hs, hq.trans h.two, (o.block ab (Array.getElem?_eq_some_iff.1 h.blk).1 (fun e => by have := hF ab e; omega)).trans h.blk,
   h.r0.only o (fun k hk e => by have := hF k e; have := (World.ownsRow.lt h.r0 k hk).1; omega), h.r1.only o (fun k hk e => by have := hF k e; have := (World.ownsRow.lt h.r1 k hk).1; omega), h.bel.trans (h.askBelow o), Nat.le_trans h.bsz o.size⟩
theorem HK.belowB {B : Nat} {w w' : World} {A : Option Addr} {n : Nat} {L : List Ask} (h : HK w A n L) (hA : ∀ ad, A = some ad → ad.block < B) (hb : Below B w w') : HK w' A n L := by
  refine ⟨h.1, fun j x hx => ?_⟩
  obtain ⟨b, off, e, c0, c1, c2, c3, c4, c5⟩ := h.2 j x hx
  have keep : ∀ {o : Nat} {v : Value}, w.cell? ⟨b, o, none⟩ = some v → w'.cell? ⟨b, o, none⟩ = some v := fun {o v} hc => (hb.cell (p := ⟨b, o, none⟩) (show b < B from hA _ e)).trans hc
  exact ⟨b, off, e, keep c0, keep c1, keep c2, keep c3, keep c4, keep c5⟩
def SwitchTo (B c : Nat) (F : Nat → Prop) (st : St) (ab : Nat) (x0 x1 : Value) (w : World) (cv : Value) (wx : World) : Prop := ∃ (f : Int) (st' : St), cv = .int .i64 f ∧ Hid (Mid B c F st st' f ab x0 x1 w wx)
set_option maxRecDepth 100000 in
set_option maxHeartbeats 8000000 in
theorem Refused_walk (room : Int) (A : Option Addr) (n cap : Nat) (L : List Ask) (w : World) (hr : I64 room) (hA : Hid (HK w A n L)) (hAt : Hid (∀ ad, A = some ad → ad.block < w.heap.size)) (hO : Hid (OkK L)) (p1 : n ≤ cap) (p2 : cap ≤ 9223372036854775807) :
    Calls Try.prog 7 #[.int .i64 room, .slice A n cap] w fun e w' => e = .returned (.bool true) ∧ Below w.heap.size w w' := by
  obtain ⟨i0, hi0, hz0, hz1, hz2⟩ := info_parts info_entry
  have HW := Within_any room 12 w (by omega) hr.1 hr.2
  have hk := withinN_le room 12
  obtain ⟨k, ek⟩ : ∃ k, withinN room 12 = k := ⟨_, rfl⟩
  rw [ek] at HW hk
  replace HW := Lib.hid HW
  have HO1 := fun (B c : Nat) (F : Nat → Prop) (W : World) (h : AR B c F (newS (1 + k)) W) => Open_any B c F (newS (1 + k)) W (Lib.hid h) (by show 0 ≤ 1000000; omega)
  rw [show (((newS (1 + k)).Q.length : Nat) : Int) = 0 from rfl] at HO1
  have HO2 := fun (B c : Nat) (F : Nat → Prop) (W : World) (h : AR B c F (newS (1 + k)).opened W) => Open_any B c F (newS (1 + k)).opened W (Lib.hid h) (by show 1 ≤ 1000000; omega)
  rw [show (((newS (1 + k)).opened.Q.length : Nat) : Int) = 1 from rfl] at HO2
  have hq0 : Hid ((newS (1 + k)).opened.opened.Q.length = 2) := Lib.hid rfl
  obtain ⟨B, eB⟩ : ∃ B, w.heap.size = B := ⟨_, rfl⟩
  replace HO1 := Lib.hid HO1
  replace HO2 := Lib.hid HO2
  clear ek hr
  go_enter Try.func7, Try.ntmps7
  go_wp2_with fail
  refine HW.out.mono ?_
  rintro e w ⟨rfl, rfl⟩
  replace eB := Lib.hid eB
  go_wp2_with fail
  refine (New_at k w (by omega)).mono ?_
  rintro e w1 ⟨c, F0, rfl, a1, b1⟩
  rw [eB.out] at a1 b1
  have s1 : B ≤ w1.heap.size := by rw [← eB.out]; exact b1.size
  replace b1 := Lib.hid b1
  replace a1 := Lib.hid a1
  go_wp2_with fail
  refine (HO1.out B c F0 w1 a1.out).mono ?_
  rintro e w2 ⟨F1, rfl, a2, o2, n2⟩
  have b2 := Lib.hid (b1.out.trans (o2.below s1 (fun k hk e => by have := (a1.out.lt e).1; omega)))
  have s2 : B ≤ w2.heap.size := by have := o2.size; omega
  replace a2 := Lib.hid a2
  clear o2 n2 a1 b1 s1 HO1
  go_wp2_with fail
  refine (HO2.out B c F1 w2 a2.out).mono ?_
  rintro e w3 ⟨F, rfl, a3, o3, n3⟩
  have b3 := Lib.hid (b2.out.trans (o3.below s2 (fun k hk e => by have := (a2.out.lt e).1; omega)))
  have s3 : B ≤ w3.heap.size := by have := o3.size; omega
  obtain ⟨H0, eH0⟩ : ∃ h, w3.heap.size = h := ⟨_, rfl⟩
  have hFh : Hid (∀ k, F k → k < H0) := Lib.hid (fun k hk => by have := (a3.lt hk).2; omega)
  have s0 : Hid (H0 ≤ w3.heap.size) := Lib.hid (by omega)
  have sB : Hid (B ≤ H0) := Lib.hid (by omega)
  replace a3 := Lib.hid a3
  obtain ⟨st, est⟩ : ∃ st, (newS (1 + k)).opened.opened = st := ⟨_, rfl⟩
  rw [est] at a3 hq0
  clear est o3 n3 a2 b2 s2 s3 eH0 HO2 HW
  go_wp2_with fail
  go_loopw [7] (fun iv wr => ∃ (i : Nat) (st : St), iv = .int .i64 i ∧ i ≤ n ∧ i ≤ 50 ∧ Hid (AR B c F st wr) ∧ Hid (st.Q.length = 2) ∧ Hid (Below B w wr) ∧ Hid (H0 ≤ wr.heap.size)) (fun iv _ => (50 - intOf iv).toNat)
  case atStart => exact ⟨0, st, rfl, by omega, by omega, a3, hq0, b3, s0⟩
  case round =>
    clear a3 hq0 b3 s0
    rename World => wo
    obtain ⟨i, st, rfl, hi1, hi2, hAR, hq, hW, hS⟩ := hrel
    by_cases hc : i < n ∧ i < 50
    · obtain ⟨c1, c2⟩ := hc
      have d1 : decide ((i : Int) < (n : Int)) = true := decide_eq_true (by omega)
      have d1' : decide (i < n) = true := decide_eq_true c1
      have d2 : decide ((i : Int) < 50) = true := decide_eq_true (by omega)
      have hq2 : st.Q.length ≤ 1000000 := by have := hq.out; omega
      go_upto_region 9 with (fail)
      obtain ⟨W0, eW0⟩ : ∃ X, wo.alloc (.cells #[.slice none 0 0, .slice none 0 0] 49) = X := ⟨_, rfl⟩
      obtain ⟨ab, eab⟩ : ∃ g, wo.heap.size = g := ⟨_, rfl⟩
      rw [eW0, eab]
      have C0 : Hid (W0.heap[ab]? = some (.cells #[.slice none 0 0, .slice none 0 0] 49 (0, 0))) := Lib.hid (by rw [← eW0, ← eab]; exact heap_alloc_new wo _)
      have D0 : Hid (Below ab wo W0) := Lib.hid (by rw [← eW0, ← eab]; exact (Below.refl _ _).alloc (Nat.le_refl _) _)
      have s0 : Hid (ab + 1 ≤ W0.heap.size) := Lib.hid (by rw [← eW0, World.size_alloc]; omega)
      have hFl : Hid (∀ k, F k → k < ab) := Lib.hid (fun k hk => by have := hFh.out k hk; have := hS.out; omega)
      have hBab : Hid (B ≤ ab) := Lib.hid (by have := sB.out; have := hS.out; omega)
      have r0 : Hid ((0 : Nat) < 0 → RE 40 W0 (ab + 1) (.slice none 0 0) (listO st 0)) := Lib.hid (fun h => by omega)
      have r1 : Hid ((1 : Nat) < 0 → RE 40 W0 (ab + 1) (.slice none 0 0) (listO st 1)) := Lib.hid (fun h => by omega)
      have eab' := Lib.hid eab
      clear eW0 eab
      go_wp2_with fail
      go_loopw [9] (fun kv wx => ∃ (k : Nat) (x0 x1 : Value), kv = .int .i64 k ∧ k ≤ 2 ∧ Hid (wx.heap[ab]? = some (.cells #[x0, x1] 49 (0, 0))) ∧ Hid (0 < k → RE 40 wx (ab + 1) x0 (listO st 0)) ∧ Hid (1 < k → RE 40 wx (ab + 1) x1 (listO st 1)) ∧ Hid (Below ab wo wx) ∧ Hid (ab + 1 ≤ wx.heap.size)) (fun kv _ => (2 - intOf kv).toNat)
      case atStart => exact ⟨0, _, _, rfl, by omega, C0, r0, r1, D0, s0⟩
      case round =>
        clear C0 r0 r1 D0 s0
        rename World => wx
        obtain ⟨k, x0, x1, rfl, hk2, hC, hr0, hr1, hD, hs⟩ := hrel
        by_cases hlt : k < 2
        · have hlo := listO_short hAR.out.ok (k : Int)
          have hrm := hAR.out.room
          have hARx := Lib.hid (hAR.out.only (p := fun k => ab ≤ k) ⟨hD.out.os, hD.out.tape, hD.out.output, hD.out.size, fun k _ hn => hD.out.block k (by omega)⟩ (fun k hk e => by have := hFl.out k hk; omega))
          have R0 : Hid (RE 40 (wx.alloc (.cells #[] 40)) (ab + 1) (.slice (some ⟨wx.heap.size, 0, none⟩) 0 0) []) := Lib.hid (re_empty _ wx _ hs.out)
          have bal : Below wx.heap.size wx (wx.alloc (.cells #[] 40)) := (Below.refl _ _).alloc (Nat.le_refl _) _
          have HL := List_any B c F st (k : Int) (wx.alloc (.cells #[] 40)) (Lib.hid (hARx.out.below bal)) hq2
          have C1 := Lib.hid ((bal.block ab (Array.getElem?_eq_some_iff.1 hC.out).1).trans hC.out)
          have D1 := Lib.hid (hD.out.alloc (by have := hs.out; omega) (.cells #[] 40))
          have r01 := Lib.hid (fun h => (hr0.out h).keep bal)
          have r11 := Lib.hid (fun h => (hr1.out h).keep bal)
          have hsz : Hid (ab + 1 ≤ (wx.alloc (.cells #[] 40)).heap.size) := Lib.hid (by rw [World.size_alloc]; have := hs.out; omega)
          obtain ⟨lk, elk⟩ : ∃ l, listO st (k : Int) = l := ⟨_, rfl⟩
          rw [elk] at HL hlo
          have hlk : lk.length ≤ 4096 := by omega
          replace elk := Lib.hid elk
          replace HL := Lib.hid HL
          clear hlo hrm bal hARx hC hD
          have hk01 : k = 0 ∨ k = 1 := by omega
          rcases hk01 with rfl | rfl
          · have dk : decide ((0 : Int) < 2) = true := by decide
            go_wp2_with fail
            refine HL.out.mono ?_
            rintro e w3 ⟨v3, rfl, q3, b3⟩
            obtain ⟨A3, cap3, ev3, hE3, y1, y2, y3⟩ := q3.slice0
            subst ev3
            obtain ⟨n3, en3⟩ : ∃ n, lk.length = n := ⟨_, rfl⟩
            rw [en3] at hE3 y1 hlk ⊢
            have R3 := Lib.hid (R0.out.keep b3)
            have C3 := Lib.hid ((b3.block ab (Array.getElem?_eq_some_iff.1 C1.out).1).trans C1.out)
            have D3 := Lib.hid (D1.out.trans (b3.mono (by have := hsz.out; omega)))
            have r03 := Lib.hid (fun h => (r01.out h).keep b3)
            have r13 := Lib.hid (fun h => (r11.out h).keep b3)
            have hs3 : Hid (ab + 1 ≤ w3.heap.size) := Lib.hid (Nat.le_trans hsz.out b3.size)
            replace hE3 := Lib.hid hE3
            replace y3 := Lib.hid y3
            clear q3 b3 R0 C1 D1 r01 r11 HL
            go_wp2_with (at_builtin; refine wpList_onto_e (T := 40) (by rfl) (.tmp 54) (.tmp 57) 37 (by rfl) (ab + 1) i0 Try.underlying37 hi0 hz0 hz1 hz2 _ [] (by rfl) R3.out A3 n3 cap3 lk (by rfl) hE3.out y3.out (by simp; omega) hs3.out ?_)
            intro v5 w5 r5 g5 o5
            have r5 : RE 40 w5 (ab + 1) v5 lk := r5
            obtain ⟨A5, cap5, ev5, -, -, -, -⟩ := r5.slice0
            subst ev5
            have hgb : ab + 1 ≤ wx.heap.size := hs.out
            have far : ∀ q, (Value.slice (some ⟨wx.heap.size, 0, none⟩) 0 0).ownBlock = some q → ab + 1 ≤ q := fun q hq => Nat.le_trans hgb (Nat.le_of_eq (by injection hq))
            have o5' := only_grown g5
            have kb : ab < w3.heap.size := by have := hs3.out; omega
            have C5 := (o5'.block ab kb (fun e => by have := far ab e.symm; omega)).trans C3.out
            have D5 := Lib.hid (D3.out.grown g5 (by have := hs3.out; omega) (fun q hq => by have := far q hq; omega))
            have z5 := Lib.frozen_of_heap C5 0
            have m5 : w5.cell? ⟨ab, 0, none⟩ = some x0 := by rw [Lib.cell_of_heap C5]; rfl
            obtain ⟨n5, en5⟩ : ∃ n, lk.length = n := ⟨_, rfl⟩
            rw [en5] at r5 ⊢
            have C6 := Lib.hid (heap_setCell_same w5 ab 0 _ _ (.slice A5 n5 cap5) C5)
            have D6 := Lib.hid (D5.out.setCell (p := ⟨ab, 0, none⟩) (Nat.le_refl _) (.slice A5 n5 cap5))
            have r6 : Hid (RE 40 (w5.setCell ⟨ab, 0, none⟩ (.slice A5 n5 cap5)) (ab + 1) (.slice A5 n5 cap5) lk) := Lib.hid (r5.only (set_only w5 ab 0 _) (fun q hq e => by have := (World.ownsRow.lt r5 q hq).1; omega))
            have s6 : Hid (ab + 1 ≤ (w5.setCell ⟨ab, 0, none⟩ (.slice A5 n5 cap5)).heap.size) := Lib.hid (by rw [show (w5.setCell ⟨ab, 0, none⟩ (.slice A5 n5 cap5)).heap.size = w5.heap.size by simp]; have := g5.size; have := hs3.out; omega)
            have n0 : Hid (0 < 1 → RE 40 (w5.setCell ⟨ab, 0, none⟩ (.slice A5 n5 cap5)) (ab + 1) (.slice A5 n5 cap5) (listO st 0)) := Lib.hid (fun _ => by have h := r6.out; rw [← elk.out] at h; exact h)
            have n1 : Hid (1 < 1 → RE 40 (w5.setCell ⟨ab, 0, none⟩ (.slice A5 n5 cap5)) (ab + 1) x1 (listO st 1)) := Lib.hid (fun h => by omega)
            clear r5 g5 o5 o5' C5 D5 R3 C3 D3 r03 r13 hs3 hE3 y3 far kb hgb
            go_wp2_with fail
            go_roundw
            case rel => exact ⟨1, _, x1, by go_num, by omega, C6, n0, n1, D6, s6⟩
            case measure => simp [intOf]
          · have dk : decide ((1 : Int) < 2) = true := by decide
            go_wp2_with fail
            refine HL.out.mono ?_
            rintro e w3 ⟨v3, rfl, q3, b3⟩
            obtain ⟨A3, cap3, ev3, hE3, y1, y2, y3⟩ := q3.slice0
            subst ev3
            obtain ⟨n3, en3⟩ : ∃ n, lk.length = n := ⟨_, rfl⟩
            rw [en3] at hE3 y1 hlk ⊢
            have R3 := Lib.hid (R0.out.keep b3)
            have C3 := Lib.hid ((b3.block ab (Array.getElem?_eq_some_iff.1 C1.out).1).trans C1.out)
            have D3 := Lib.hid (D1.out.trans (b3.mono (by have := hsz.out; omega)))
            have r03 := Lib.hid (fun h => (r01.out h).keep b3)
            have r13 := Lib.hid (fun h => (r11.out h).keep b3)
            have hs3 : Hid (ab + 1 ≤ w3.heap.size) := Lib.hid (Nat.le_trans hsz.out b3.size)
            replace hE3 := Lib.hid hE3
            replace y3 := Lib.hid y3
            clear q3 b3 R0 C1 D1 r01 r11 HL
            go_wp2_with (at_builtin; refine wpList_onto_e (T := 40) (by rfl) (.tmp 54) (.tmp 57) 37 (by rfl) (ab + 1) i0 Try.underlying37 hi0 hz0 hz1 hz2 _ [] (by rfl) R3.out A3 n3 cap3 lk (by rfl) hE3.out y3.out (by simp; omega) hs3.out ?_)
            intro v5 w5 r5 g5 o5
            have r5 : RE 40 w5 (ab + 1) v5 lk := r5
            obtain ⟨A5, cap5, ev5, -, -, -, -⟩ := r5.slice0
            subst ev5
            have hgb : ab + 1 ≤ wx.heap.size := hs.out
            have far : ∀ q, (Value.slice (some ⟨wx.heap.size, 0, none⟩) 0 0).ownBlock = some q → ab + 1 ≤ q := fun q hq => Nat.le_trans hgb (Nat.le_of_eq (by injection hq))
            have o5' := only_grown g5
            have kb : ab < w3.heap.size := by have := hs3.out; omega
            have C5 := (o5'.block ab kb (fun e => by have := far ab e.symm; omega)).trans C3.out
            have D5 := Lib.hid (D3.out.grown g5 (by have := hs3.out; omega) (fun q hq => by have := far q hq; omega))
            have z5 := Lib.frozen_of_heap C5 1
            have m5 : w5.cell? ⟨ab, 1, none⟩ = some x1 := by rw [Lib.cell_of_heap C5]; rfl
            obtain ⟨n5, en5⟩ : ∃ n, lk.length = n := ⟨_, rfl⟩
            rw [en5] at r5 ⊢
            have C6 := Lib.hid (heap_setCell_same w5 ab 1 _ _ (.slice A5 n5 cap5) C5)
            have D6 := Lib.hid (D5.out.setCell (p := ⟨ab, 1, none⟩) (Nat.le_refl _) (.slice A5 n5 cap5))
            have r6 : Hid (RE 40 (w5.setCell ⟨ab, 1, none⟩ (.slice A5 n5 cap5)) (ab + 1) (.slice A5 n5 cap5) lk) := Lib.hid (r5.only (set_only w5 ab 1 _) (fun q hq e => by have := (World.ownsRow.lt r5 q hq).1; omega))
            have s6 : Hid (ab + 1 ≤ (w5.setCell ⟨ab, 1, none⟩ (.slice A5 n5 cap5)).heap.size) := Lib.hid (by rw [show (w5.setCell ⟨ab, 1, none⟩ (.slice A5 n5 cap5)).heap.size = w5.heap.size by simp]; have := g5.size; have := hs3.out; omega)
            have n0 : Hid (0 < 2 → RE 40 (w5.setCell ⟨ab, 1, none⟩ (.slice A5 n5 cap5)) (ab + 1) x0 (listO st 0)) := Lib.hid (fun _ => by
              have h := r03.out (by omega)
              have h2 := h.only o5' (fun q hq e => by
                have e1 : wx.heap.size = q := by have := e.symm; injection this
                have := (World.ownsRow.lt (hr0.out (by omega)) q hq).2
                omega)
              exact h2.only (set_only w5 ab 1 _) (fun q hq e => by have := (World.ownsRow.lt h2 q hq).1; omega))
            have n1 : Hid (1 < 2 → RE 40 (w5.setCell ⟨ab, 1, none⟩ (.slice A5 n5 cap5)) (ab + 1) (.slice A5 n5 cap5) (listO st 1)) := Lib.hid (fun _ => by have h := r6.out; rw [← elk.out] at h; exact h)
            clear r5 g5 o5 o5' C5 D5 R3 C3 D3 r03 r13 hs3 hE3 y3 far kb hgb
            go_wp2_with fail
            go_roundw
            case rel => exact ⟨2, x0, _, by go_num, by omega, C6, n0, n1, D6, s6⟩
            case measure => simp [intOf]
        · have hkk : ¬ (k : Int) < 2 := by omega
          have dk9 : decide ((k : Int) < 2) = false := decide_eq_false hkk
          have hM : Hid (Mid B c F st st 0 ab x0 x1 w wx) := Lib.hid ⟨hAR.out.only (p := fun k => ab ≤ k) ⟨hD.out.os, hD.out.tape, hD.out.output, hD.out.size, fun k _ hn => hD.out.block k (by omega)⟩ (fun k hk e => by have := hFl.out k hk; omega), fun h => absurd rfl h, hq.out, hC.out, hr0.out (by omega), hr1.out (by omega), hW.out.trans (hD.out.mono hBab.out), by have := hs.out; have := hBab.out; omega⟩
          clear hC hr0 hr1 hlt hAR hq
          have hKX := Lib.hid (hA.out.belowB (fun ad e => by rw [← eB.out]; exact hAt.out ad e) hM.out.bel)
          obtain ⟨x, hx⟩ : ∃ x, L[i]? = some x := ⟨_, List.getElem?_eq_getElem (by rw [hA.out.1]; exact c1)⟩
          obtain ⟨xk, xq, xs, xi, xn⟩ := hO.out x (List.mem_of_getElem? hx)
          obtain ⟨b, off, rfl, e0, e1, e2, e3, e4, e5⟩ := hKX.out.2 i x hx
          obtain ⟨kk, q, s, ii, nn, tt⟩ := x
          simp only at xk xq xs xi xn e0 e1 e2 e3 e4 e5
          replace xi := Lib.hid xi
          replace hx := Lib.hid hx
          go_upto_block 4 with (fail)
          go_cut [10] from 65 to 119 (fun cv wy => SwitchTo B c F st ab x0 x1 w cv wy)
          case first =>
            have hAd : Hid (AR B c F st wx.drew) := Lib.hid (hM.out.ar.only (p := fun _ => False) ⟨rfl, rfl, rfl, Nat.le_refl _, fun _ _ _ => rfl⟩ (fun _ _ e => e))
            by_cases k2 : kk = 2
            · subst k2
              have HP := Push_any B c F st q ii nn tt wx.drew hAd (by omega) xi xn
              have hs1 := pushO_same st q ii nn tt
              have hs2 := (pushO_q st q ii nn tt).1
              obtain ⟨⟨p1, p2, p3⟩, ep⟩ : ∃ p, pushO st q ii nn tt = p := ⟨_, rfl⟩
              rw [ep] at HP hs1 hs2
              simp only at HP hs1 hs2
              replace HP := Lib.hid HP
              have z0 : (fun W : World => W.cell? ⟨b, off + i * 6 + 1, none⟩ = some (.int .i64 q) ∧ W.cell? ⟨b, off + i * 6 + 3, none⟩ = some (.int .i64 ii) ∧ W.cell? ⟨b, off + i * 6 + 4, none⟩ = some (.int .i64 nn) ∧ W.cell? ⟨b, off + i * 6 + 5, none⟩ = some (.bool tt)) wx.drew := ⟨e1, e3, e4, e5⟩
              simp only at z0
              have LL : Hid (∀ w1 : World, AR B c F p3 w1 → Only F wx.drew w1 → (fun W : World => W.cell? ⟨b, off + i * 6 + 1, none⟩ = some (.int .i64 q) ∧ W.cell? ⟨b, off + i * 6 + 3, none⟩ = some (.int .i64 ii) ∧ W.cell? ⟨b, off + i * 6 + 4, none⟩ = some (.int .i64 nn) ∧ W.cell? ⟨b, off + i * 6 + 5, none⟩ = some (.bool tt)) w1 ∧ Mid B c F st p3 p2 ab x0 x1 w w1) := Lib.hid (fun w1 a1 o1 => by
                have o : Only F wx w1 := ⟨o1.os, o1.tape, o1.output, o1.size, o1.block⟩
                obtain ⟨b', off', eb, e0, e1, e2, e3, e4, e5⟩ := (hKX.out.belowB (fun ad e => by rw [← eB.out]; exact hAt.out ad e) (hM.out.askBelow o)).2 i _ hx.out
                injection eb with eb
                injection eb with eb1 eb2
                subst eb1
                subst eb2
                exact ⟨⟨e1, e3, e4, e5⟩, hM.out.step a1 o hs1 hs2 hFl.out⟩)
              clear e0 e1 e2 e3 e4 e5 ep hs1 hs2
              go_upto_region 16 with (fail)
              go_region_held3 (fun W : World => W.cell? ⟨b, off + i * 6 + 1, none⟩ = some (.int .i64 q) ∧ W.cell? ⟨b, off + i * 6 + 3, none⟩ = some (.int .i64 ii) ∧ W.cell? ⟨b, off + i * 6 + 4, none⟩ = some (.int .i64 nn) ∧ W.cell? ⟨b, off + i * 6 + 5, none⟩ = some (.bool tt)) (first | with_reducible assumption | with_reducible exact z0 | with_reducible exact z1) ((go_at_call 16; refine HP.out.mono ?_; rintro e w1 ⟨rfl, a1, o1⟩; obtain ⟨z1, m1⟩ := LL.out w1 a1 o1; replace m1 := Lib.hid m1))
              go_wp2_with fail
              go_meet
              exact ⟨_, _, rfl, m1⟩
            · have dk2 : (kk == 2) = false := by simpa using k2
              by_cases k3 : kk = 3
              · subst k3
                have HP := Take_any B c F st s nn wx.drew hAd (by omega) xn
                have hs1 := takeO_same st s nn
                have hs2 := (takeO_q st s nn).1
                obtain ⟨⟨p1, p3⟩, ep⟩ : ∃ p, takeO st s nn = p := ⟨_, rfl⟩
                rw [ep] at HP hs1 hs2
                simp only at HP hs1 hs2
                replace HP := Lib.hid HP
                have z0 : (fun W : World => W.cell? ⟨b, off + i * 6 + 2, none⟩ = some (.int .i64 s) ∧ W.cell? ⟨b, off + i * 6 + 4, none⟩ = some (.int .i64 nn)) wx.drew := ⟨e2, e4⟩
                simp only at z0
                have LL : Hid (∀ w1 : World, AR B c F p3 w1 → Only F wx.drew w1 → (fun W : World => W.cell? ⟨b, off + i * 6 + 2, none⟩ = some (.int .i64 s) ∧ W.cell? ⟨b, off + i * 6 + 4, none⟩ = some (.int .i64 nn)) w1 ∧ Mid B c F st p3 p1 ab x0 x1 w w1) := Lib.hid (fun w1 a1 o1 => by
                  have o : Only F wx w1 := ⟨o1.os, o1.tape, o1.output, o1.size, o1.block⟩
                  obtain ⟨b', off', eb, e0, e1, e2, e3, e4, e5⟩ := (hKX.out.belowB (fun ad e => by rw [← eB.out]; exact hAt.out ad e) (hM.out.askBelow o)).2 i _ hx.out
                  injection eb with eb
                  injection eb with eb1 eb2
                  subst eb1
                  subst eb2
                  exact ⟨⟨e2, e4⟩, hM.out.step a1 o hs1 hs2 hFl.out⟩)
                clear e0 e1 e2 e3 e4 e5 ep hs1 hs2
                go_upto_region 18 with (fail)
                go_region_held3 (fun W : World => W.cell? ⟨b, off + i * 6 + 2, none⟩ = some (.int .i64 s) ∧ W.cell? ⟨b, off + i * 6 + 4, none⟩ = some (.int .i64 nn)) (first | with_reducible assumption | with_reducible exact z0 | with_reducible exact z1) ((go_at_call 17; refine HP.out.mono ?_; rintro e w1 ⟨rfl, a1, o1⟩; obtain ⟨z1, m1⟩ := LL.out w1 a1 o1; replace m1 := Lib.hid m1))
                go_wp2_with fail
                go_meet
                exact ⟨_, _, rfl, m1⟩
              · have dk3 : (kk == 3) = false := by simpa using k3
                by_cases k4 : kk = 4
                · subst k4
                  have HP := Top_any B c F st s tt wx.drew hAd (by omega)
                  have hs1 := topO_same st s tt
                  have hs2 := (topO_q st s tt).1
                  obtain ⟨⟨p1, p3⟩, ep⟩ : ∃ p, topO st s tt = p := ⟨_, rfl⟩
                  rw [ep] at HP hs1 hs2
                  simp only at HP hs1 hs2
                  replace HP := Lib.hid HP
                  have z0 : (fun W : World => W.cell? ⟨b, off + i * 6 + 2, none⟩ = some (.int .i64 s) ∧ W.cell? ⟨b, off + i * 6 + 5, none⟩ = some (.bool tt)) wx.drew := ⟨e2, e5⟩
                  simp only at z0
                  have LL : Hid (∀ w1 : World, AR B c F p3 w1 → Only F wx.drew w1 → (fun W : World => W.cell? ⟨b, off + i * 6 + 2, none⟩ = some (.int .i64 s) ∧ W.cell? ⟨b, off + i * 6 + 5, none⟩ = some (.bool tt)) w1 ∧ Mid B c F st p3 p1 ab x0 x1 w w1) := Lib.hid (fun w1 a1 o1 => by
                    have o : Only F wx w1 := ⟨o1.os, o1.tape, o1.output, o1.size, o1.block⟩
                    obtain ⟨b', off', eb, e0, e1, e2, e3, e4, e5⟩ := (hKX.out.belowB (fun ad e => by rw [← eB.out]; exact hAt.out ad e) (hM.out.askBelow o)).2 i _ hx.out
                    injection eb with eb
                    injection eb with eb1 eb2
                    subst eb1
                    subst eb2
                    exact ⟨⟨e2, e5⟩, hM.out.step a1 o hs1 hs2 hFl.out⟩)
                  clear e0 e1 e2 e3 e4 e5 ep hs1 hs2
                  go_upto_region 20 with (fail)
                  go_region_held3 (fun W : World => W.cell? ⟨b, off + i * 6 + 2, none⟩ = some (.int .i64 s) ∧ W.cell? ⟨b, off + i * 6 + 5, none⟩ = some (.bool tt)) (first | with_reducible assumption | with_reducible exact z0 | with_reducible exact z1) ((go_at_call 21; refine HP.out.mono ?_; rintro e w1 ⟨rfl, a1, o1⟩; obtain ⟨z1, m1⟩ := LL.out w1 a1 o1; replace m1 := Lib.hid m1))
                  go_wp2_with fail
                  go_meet
                  exact ⟨_, _, rfl, m1⟩
                · have dk4 : (kk == 4) = false := by simpa using k4
                  go_wp2_with fail
                  go_meet
                  exact ⟨0, st, rfl, hM⟩
          case rest =>
            rename World => wy
            obtain ⟨f, st2, rfl, hM2⟩ := hcut
            clear hM hKX hx e0 e1 e2 e3 e4 e5 xk xq xs xi xn
            have hq3 := hM2.out.two
            go_wp2_with fail
            go_loopw [11] (fun kv wz => ∃ k : Nat, kv = .int .i64 k ∧ k ≤ 2 ∧ Hid (Mid B c F st st2 f ab x0 x1 w wz)) (fun kv _ => (2 - intOf kv).toNat)
            case atStart => exact ⟨0, rfl, by omega, hM2⟩
            case round =>
              clear hM2
              rename World => wz
              obtain ⟨k, rfl, hk2, hM⟩ := hrel
              by_cases hlt : k < 2
              · have HL := List_any B c F st2 (k : Int) wz (Lib.hid hM.out.ar) (by omega)
                have HT := Lib.hid (fun (W : World) (h : AR B c F st2 W) => Total_any B c F st2 (k : Int) W (Lib.hid h) (by omega))
                have HC := Lib.hid (fun (W : World) (h : AR B c F st2 W) => Count_any B c F st2 (k : Int) W (Lib.hid h) (by omega))
                have hlo := listO_short hM.out.ar.ok (k : Int)
                have hrm := hM.out.ar.room
                have hft := Lib.hid (listO_fit hM.out.ar.ok (k : Int))
                have hwas : Hid (f ≠ 0 → listO st2 (k : Int) = listO st (k : Int)) := Lib.hid (fun h => by rw [hM.out.same h])
                have hst0 := hM.out.r0
                have hst1 := hM.out.r1
                obtain ⟨l, el⟩ : ∃ l, listO st2 (k : Int) = l := ⟨_, rfl⟩
                rw [el] at HL HT HC hlo hft hwas
                have hll : l.length ≤ 4096 := by omega
                obtain ⟨nl, enl⟩ : ∃ n, l.length = n := ⟨_, rfl⟩
                rw [enl] at HC hll
                have hsb := sumN_bound l (fun e he => ⟨(hft.out e he).1, (hft.out e he).2.1⟩)
                have hX : Hid (sumN l = sumN (l.take nl)) := Lib.hid (by rw [List.take_of_length_le (by omega)])
                obtain ⟨X, eX⟩ : ∃ X, sumN l = X := ⟨_, rfl⟩
                rw [eX] at HT hX hsb
                replace HL := Lib.hid HL
                replace enl := Lib.hid enl
                have rx : Hid (∃ x, (k = 0 ∧ x = x0 ∨ k = 1 ∧ x = x1) ∧ RE 40 wz (ab + 1) x (listO st (k : Int))) := Lib.hid (by
                  rcases (show k = 0 ∨ k = 1 by omega) with rfl | rfl
                  · exact ⟨x0, .inl ⟨rfl, rfl⟩, hst0⟩
                  · exact ⟨x1, .inr ⟨rfl, rfl⟩, hst1⟩)
                clear el eX hlo hrm hst0 hst1
                go_wp2_with fail
                refine HL.out.mono ?_
                rintro e w4 ⟨v4, rfl, r4, b4⟩
                obtain ⟨A4, cap4, ev4, hE4, y1, y2, -⟩ := r4.slice0
                subst ev4
                rw [enl.out] at hE4 y1 ⊢
                have M4 := Lib.hid (hM.out.below b4)
                have rx4 : Hid (∃ x, (k = 0 ∧ x = x0 ∨ k = 1 ∧ x = x1) ∧ RE 40 w4 (ab + 1) x (listO st (k : Int))) := Lib.hid (by
                  obtain ⟨x, h1, h2⟩ := rx.out
                  exact ⟨x, h1, h2.keep b4⟩)
                replace hE4 := Lib.hid hE4
                clear r4 b4 HL rx
                by_cases hf : f = 0
                · have df : (f != 0) = false := by simpa using hf
                  clear hf
                  go_wp2_with fail
                  have E1 : Hid ((0 : Int) = sumN (l.take 0)) := Lib.hid rfl
                  go_loop [13, 14] (fun sv jv => ∃ (j : Nat) (x : Int), jv = .int .i64 j ∧ sv = .int .i64 x ∧ j ≤ nl ∧ 0 ≤ x ∧ x ≤ 1000000 * j ∧ Hid (x = sumN (l.take j))) (fun _ jv => (nl - intOf jv).toNat)
                  case atStart => exact ⟨0, 0, rfl, rfl, by omega, by omega, by omega, E1⟩
                  case round =>
                    clear E1
                    obtain ⟨j, x, rfl, rfl, hj, j1, j2, hx⟩ := hrel
                    by_cases hjl : j < nl
                    · have dj : decide (j < nl) = true := decide_eq_true hjl
                      obtain ⟨e, he⟩ : ∃ e, l[j]? = some e := ⟨_, List.getElem?_eq_getElem (by rw [enl.out]; exact hjl)⟩
                      obtain ⟨b', off', rfl, -, -, p2, -⟩ := hE4.out.2 j e he
                      obtain ⟨n1, n2, -⟩ := hft.out e (List.mem_of_getElem? he)
                      have hs2 : Hid (x + e.n = sumN (l.take (j + 1))) := Lib.hid (by rw [take_snoc' he, sumN_snoc, hx.out])
                      obtain ⟨y, ey⟩ : ∃ y, e.n = y := ⟨_, rfl⟩
                      rw [ey] at p2 n1 n2 hs2
                      have dy : decide (y < 1) = false := decide_eq_false (by omega)
                      clear he hx ey
                      go_wp2_with fail
                      go_round
                      case rel => exact ⟨j + 1, x + y, by go_num, rfl, by omega, by omega, by omega, hs2⟩
                      case measure => simp [intOf]; omega
                    · obtain rfl : j = nl := by omega
                      have dj : decide (j < j) = false := by simp
                      have ex : Hid (X = x) := Lib.hid (by rw [hX.out, hx.out])
                      rw [ex.out] at HT
                      clear hx hX hjl
                      go_wp2_with fail
                      refine (HT.out _ M4.out.ar).mono ?_
                      rintro e w6 ⟨rfl, rfl⟩
                      go_wp2_with fail
                      refine (HC.out _ M4.out.ar).mono ?_
                      rintro e w6 ⟨rfl, rfl⟩
                      go_wp2_with fail
                      go_roundw
                      case rel => exact ⟨k + 1, by go_num, by omega, M4⟩
                      case measure => simp [intOf]; omega
                · have df : (f != 0) = true := by simpa using hf
                  have hw := hwas.out hf
                  clear hf
                  obtain ⟨xx, hxx, rxx⟩ := rx4.out
                  rw [← hw] at rxx
                  obtain ⟨A5, cap5, ev5, hE5, u1, u2, -⟩ := rxx.slice0
                  rw [enl.out] at ev5 hE5 u1
                  have hblk := M4.out.blk
                  have mk : w4.cell? ⟨ab, k, none⟩ = some (.slice A5 nl cap5) := by
                    rw [← ev5, Lib.cell_of_heap hblk]
                    rcases hxx with ⟨rfl, rfl⟩ | ⟨rfl, rfl⟩ <;> rfl
                  replace hE5 := Lib.hid hE5
                  clear hxx rxx ev5 hblk hw rx4 hwas
                  go_wp2_with fail
                  refine (Same_yes A5 A4 nl cap5 cap4 l w4 (by omega) u1 y1 hE5 hE4).mono ?_
                  rintro e w5 ⟨rfl, q5, rfl⟩
                  have b5 : Below w4.heap.size w4 (w4.drewN q5) := ⟨rfl, rfl, rfl, Nat.le_refl _, fun _ _ => rfl⟩
                  replace M4 := Lib.hid (M4.out.below b5)
                  replace hE4 := Lib.hid (hE4.out.below b5)
                  clear mk hE5
                  go_wp2_with fail
                  have E1 : Hid ((0 : Int) = sumN (l.take 0)) := Lib.hid rfl
                  go_loop [13, 14] (fun sv jv => ∃ (j : Nat) (x : Int), jv = .int .i64 j ∧ sv = .int .i64 x ∧ j ≤ nl ∧ 0 ≤ x ∧ x ≤ 1000000 * j ∧ Hid (x = sumN (l.take j))) (fun _ jv => (nl - intOf jv).toNat)
                  case atStart => exact ⟨0, 0, rfl, rfl, by omega, by omega, by omega, E1⟩
                  case round =>
                    clear E1
                    obtain ⟨j, x, rfl, rfl, hj, j1, j2, hx⟩ := hrel
                    by_cases hjl : j < nl
                    · have dj : decide (j < nl) = true := decide_eq_true hjl
                      obtain ⟨e, he⟩ : ∃ e, l[j]? = some e := ⟨_, List.getElem?_eq_getElem (by rw [enl.out]; exact hjl)⟩
                      obtain ⟨b', off', rfl, -, -, p2, -⟩ := hE4.out.2 j e he
                      obtain ⟨n1, n2, -⟩ := hft.out e (List.mem_of_getElem? he)
                      have hs2 : Hid (x + e.n = sumN (l.take (j + 1))) := Lib.hid (by rw [take_snoc' he, sumN_snoc, hx.out])
                      obtain ⟨y, ey⟩ : ∃ y, e.n = y := ⟨_, rfl⟩
                      rw [ey] at p2 n1 n2 hs2
                      have dy : decide (y < 1) = false := decide_eq_false (by omega)
                      clear he hx ey
                      go_wp2_with fail
                      go_round
                      case rel => exact ⟨j + 1, x + y, by go_num, rfl, by omega, by omega, by omega, hs2⟩
                      case measure => simp [intOf]; omega
                    · obtain rfl : j = nl := by omega
                      have dj : decide (j < j) = false := by simp
                      have ex : Hid (X = x) := Lib.hid (by rw [hX.out, hx.out])
                      rw [ex.out] at HT
                      clear hx hX hjl
                      go_wp2_with fail
                      refine (HT.out _ M4.out.ar).mono ?_
                      rintro e w6 ⟨rfl, rfl⟩
                      go_wp2_with fail
                      refine (HC.out _ M4.out.ar).mono ?_
                      rintro e w6 ⟨rfl, rfl⟩
                      go_wp2_with fail
                      go_roundw
                      case rel => exact ⟨k + 1, by go_num, by omega, M4⟩
                      case measure => simp [intOf]; omega
              · have hkk2 : ¬ (k : Int) < 2 := by omega
                have dk : decide ((k : Int) < 2) = false := decide_eq_false hkk2
                have a4 := Lib.hid hM.out.ar
                have b4 := Lib.hid hM.out.bel
                have q4 := Lib.hid hM.out.two
                have s4 : Hid (H0 ≤ wz.heap.size) := Lib.hid (by have := (Array.getElem?_eq_some_iff.1 hM.out.blk).1; have := hS.out; have := eab'.out; omega)
                clear hM hlt
                go_wp2_with fail
                go_roundw
                case rel => exact ⟨i + 1, st2, by go_num, by omega, by omega, a4, q4, b4, s4⟩
                case measure => simp [intOf]; omega
    · have HK := Lib.hid (Known_any wo)
      have fin : Hid (∀ w', Below wo.heap.size wo w' → Below w.heap.size w w') := Lib.hid (fun w' b => by
        rw [eB.out]; have := sB.out; have := hS.out; exact hW.out.trans (b.mono (by omega)))
      by_cases c1 : i < n
      · have e50 : i = 50 := by omega
        subst e50
        have d1 : decide ((50 : Int) < (n : Int)) = true := decide_eq_true (by omega)
        have d1' : decide (50 < n) = true := decide_eq_true c1
        clear hc hi2
        go_wp2_with fail
        refine HK.out.mono ?_
        rintro e w5 ⟨rfl, b5⟩
        go_wp2_with fail
        go_ret
        exact ⟨rfl, fin.out _ b5⟩
      · obtain rfl : i = n := by omega
        have d1 : decide ((i : Int) < (i : Int)) = false := decide_eq_false (by omega)
        have d1' : decide (i < i) = false := decide_eq_false (by omega)
        clear hc
        go_wp2_with fail
        refine HK.out.mono ?_
        rintro e w5 ⟨rfl, b5⟩
        go_wp2_with fail
        go_ret
        exact ⟨rfl, fin.out _ b5⟩
end Go.Proofs.Ytcfmnmknbebfnaa
