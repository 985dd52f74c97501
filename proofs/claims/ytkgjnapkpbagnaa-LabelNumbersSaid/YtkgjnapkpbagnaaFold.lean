/-
  Contract: Fold, of package label.
-/
import Derived.Test.YtkgjnapkpbagnaaFoldPlain
import Derived.Test.YtkgjnapkpbagnaaPad
namespace Go.Proofs.Ytkgjnapkpbagnaa
open Go.RowKit
set_option linter.unusedVariables false
set_option linter.unusedSimpArgs false

theorem Wrote.iter {B b : Nat} {l : List UInt8} {w w' : World} (h : Wrote B b l w w') {k : Nat} {s : ByteArray} {pos : Nat} (hk : w.heap[k]? = some (.stringIter s pos)) (hne : k ≠ b) : w'.heap[k]? = some (.stringIter s pos) :=
  h.2.2.iter hk hne
theorem Bld.iter {B b : Nat} {l : List UInt8} {w : World} (h : Bld B b l w) {k : Nat} {s : ByteArray} {pos : Nat} (hk : w.heap[k]? = some (.stringIter s pos)) (pos' : Nat) : Bld B b l (w.iterAt k s pos') :=
  Lib.IsBuilderF.iterAt h hk pos'

set_option maxRecDepth 100000 in
set_option maxHeartbeats 4000000 in
theorem LFold_any (l : List UInt8) (w : World) (hs : l.length ≤ 1000000) :
    Calls Try.prog 13 #[.string (str l)] w fun e w' => e = .returned (.string (str (foldL l))) ∧ Below w.heap.size w w' := by
  obtain ⟨g, eg⟩ : ∃ g, w.heap.size = g := ⟨_, rfl⟩
  have hlz := Lib.hid (str_size l)
  go_enter Try.func13, Try.ntmps13
  go_wp2
  go_loopw [4] (fun s wr => ∃ (k pos p : Nat) (acc : List UInt8), Hid (At l k pos) ∧ p ≤ pos ∧ pos ≤ l.length ∧ s = .int .i64 p ∧ Hid (foldTo l k = acc ++ (l.take pos).drop p) ∧ Hid (Bld g g acc wr) ∧ wr.heap[g + 1]? = some (.stringIter (str l) pos) ∧ Hid (Below g w wr)) (fun _ wr => l.length - wr.iterPos (g + 1))
  case atStart =>
    have f1 := bld_fresh w
    rw [eg] at f1
    refine ⟨0, 0, 0, [], Lib.hid (at_zero l), Nat.le_refl _, Nat.zero_le _, rfl, Lib.hid rfl, Lib.hid (f1.alloc _), ?_, Lib.hid (((Below.refl _ w).alloc (by omega) _).alloc (by simp; omega) _)⟩
    have := World.iter_heap (w.alloc (.cells #[.pointer none, .slice none 0 0] 35)) (str l) 0
    simpa [eg] using this
  case round =>
    obtain ⟨k, pos, p, acc, ha, hpp, hpn, rfl, hacc, hbld, hit, hbel⟩ := hrel
    have hal : acc.length ≤ 1000000 := by
      have h1 := foldTo_len ha.out
      rw [hacc.out, List.length_append] at h1
      omega
    have hsz : g + 1 < wr.heap.size := (Array.getElem?_eq_some_iff.1 hit).1
    by_cases hp : pos < l.length
    · obtain ⟨r, d, _, hnx, hd, hpd, hkl, hg, ha2, hr⟩ := at_step ha.out hp
      have ha3 := Lib.hid ha2
      have hnn := fun ty => hnx wr (g + 1) ty hit
      have hg := Lib.hid hg
      clear hnx ha2
      have hbld2 := Lib.hid (hbld.out.iter hit (pos + d))
      have hit2 := Lib.hid (Lib.iterAt_heap wr (g + 1) (str l) pos (pos + d) hit)
      have hbel2 := Lib.hid (Lib.below_iterAt hbel.out (k := g + 1) (by omega) (str l) (pos + d))
      obtain ⟨W, hW⟩ : ∃ W, wr.iterAt (g + 1) (str l) (pos + d) = W := ⟨_, rfl⟩
      rw [hW] at hbld2 hit2 hbel2 hnn
      clear hW
      have hWz := hbel2.out.size
      rw [eg] at hWz
      cases hf : isFold r
      · have hkeep := Lib.hid (fold_keep hg.out hpd hpp hf hacc.out)
        have hf' := Lib.hid hf
        have heq : ((r : Int) == r) = true := by simp
        clear hf
        go_wp2_with (go_at_call 25; refine (Fold_no r _ hf'.out hr).mono ?_; rintro e w' ⟨rfl, rfl⟩)
        go_roundw
        case rel => exact ⟨k + 1, pos + d, p, acc, ha3, by omega, hpd, rfl, hkeep, hbld2, hit2.out, hbel2⟩
        case measure => simp only [World.iterPos, hit2.out, hit]; omega
      · have hturn := Lib.hid (fold_turn hg.out hf hacc.out)
        have hwide := Lib.hid (fold_wide hg.out hpd hf)
        have h2048 : r - 32 < 2048 := by have := isFold_yes hf; omega
        have h32 : 32 ≤ r := by have := isFold_yes hf; omega
        have hf' := Lib.hid hf
        have heq : (((r - 32 : Nat) : Int) == (r : Int)) = false := by simp; omega
        have hx : Hid ((str l).extract p pos = str ((l.take pos).drop p)) := Lib.hid (ext_from l p pos hpn)
        have hz : pos ≤ (str l).size := by rw [str_size]; exact hpn
        clear hf
        have hxl : ((l.take pos).drop p).length ≤ 1000000 := by rw [List.length_drop, List.length_take]; omega
        obtain ⟨x, ex⟩ : ∃ x, (l.take pos).drop p = x := ⟨_, rfl⟩
        rw [ex] at hx hxl hturn
        clear ex
        go_wp2_with (go_at_call 25; refine (Fold_yes r _ hf'.out).mono ?_; rintro e w' ⟨rfl, rfl⟩)
        rw [hx.out]
        refine (WriteString_any g g acc x _ hbld2.out (by omega) hWz).mono ?_
        rintro e w1 ⟨rfl, g1⟩
        have hit3 := Lib.hid (g1.iter hit2.out (by omega))
        have g1' := Lib.hid g1.1
        have b1 := Lib.hid (hbel2.out.trans g1.2.1)
        have hWz1 := b1.out.size
        rw [eg] at hWz1
        clear g1
        go_wp2_with fail
        refine (WriteRune_any g g (acc ++ x) (r - 32) _ h2048 g1'.out (by rw [List.length_append]; omega) hWz1).mono ?_
        rintro e w2 ⟨⟨q, rfl⟩, g2⟩
        have hit4 := Lib.hid (g2.iter hit3.out (by omega))
        have g2' := Lib.hid g2.1
        have b2 := Lib.hid (b1.out.trans g2.2.1)
        clear g2
        go_wp2_with fail
        refine (RuneLen_any r d _ hwide.out).mono ?_
        rintro e w' ⟨rfl, rfl⟩
        have hnil : Hid (foldTo l (k + 1) = acc ++ x ++ enc (r - 32) ++ (l.take (pos + d)).drop (pos + d)) := Lib.hid (by rw [hturn.out, List.drop_of_length_le (by rw [List.length_take]; omega), List.append_nil])
        have hd3 : d ≤ 1000000 := by omega
        go_wp2_with fail
        go_roundw
        case rel => exact ⟨k + 1, pos + d, pos + d, acc ++ x ++ enc (r - 32), ha3, by omega, hpd, by go_num, hnil, g2', hit4.out, b2⟩
        case measure => simp only [World.iterPos, hit4.out, hit]; omega
    · have hnn := fun ty => (at_stop (l := l) (pos := pos) hp).2 wr (g + 1) ty hit
      have hfin := Lib.hid (fold_stop ha.out hp hacc.out)
      have hz : p ≤ (str l).size := by rw [str_size]; omega
      have hx : Hid ((str l).extract p (str l).size = str (l.drop p)) := Lib.hid (by rw [str_size, ext_from l p l.length (Nat.le_refl _), List.take_length])
      have hxl : (l.drop p).length ≤ 1000000 := by rw [List.length_drop]; omega
      obtain ⟨x, ex⟩ : ∃ x, l.drop p = x := ⟨_, rfl⟩
      rw [ex] at hx hxl hfin
      clear ex
      have hWz := hbel.out.size
      rw [eg] at hWz
      go_wp2_with fail
      rw [hx.out]
      refine (WriteString_any g g acc x _ hbld.out (by omega) hWz).mono ?_
      rintro e w1 ⟨rfl, g1⟩
      have g1' := Lib.hid g1.1
      have b1 := Lib.hid (hbel.out.trans g1.2.1)
      have hWz1 := b1.out.size
      rw [eg] at hWz1
      clear g1
      go_wp2_with fail
      refine (String_any g g (acc ++ x) _ g1'.out hWz1).mono ?_
      rintro e w2 ⟨rfl, b2⟩
      have b3 := Lib.hid (b1.out.trans b2)
      clear b2
      go_wp2_with fail
      go_ret
      exact ⟨by rw [hfin.out]; rfl, by rw [eg]; exact b3.out⟩
end Go.Proofs.Ytkgjnapkpbagnaa
