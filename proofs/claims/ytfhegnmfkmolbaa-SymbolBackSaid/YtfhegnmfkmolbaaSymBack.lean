/-
  The walk of the law SymbolBack.
-/
import Derived.Test.YtfhegnmfkmolbaaSymBacknn
import Derived.Test.YtfhegnmfkmolbaaSymBacknp
import Derived.Test.YtfhegnmfkmolbaaSymBackpn
import Derived.Test.YtfhegnmfkmolbaaSymBackpp
namespace Go.Proofs.Ytfhegnmfkmolbaa
open Go.RowKit
set_option linter.unusedVariables false
set_option linter.unusedSimpArgs false

theorem SBack_walk (P : List UInt8) (near far : Int) (S : List UInt8) (w : World) (n1 : -9223372036854775808 ≤ near) (n2 : near ≤ 9223372036854775807) (f1 : -9223372036854775808 ≤ far) (f2 : far ≤ 9223372036854775807) :
    Calls Try.prog 5 #[.string (str P), .int .i64 near, .int .i64 far, .string (str S)] w fun e w' => e = .returned (.bool true) ∧ Below w.heap.size w w' := by
  by_cases hn : near < 0
  · obtain ⟨n, n3, en⟩ := mod_neg 1200 hn (by omega)
    by_cases hf : far < 0
    · obtain ⟨f, f3, ef⟩ := mod_neg 1200 hf (by omega)
      exact SBack_nn P _ S _ near far n f w n1 n2 f1 f2 hn hf (Lib.hid en) (Lib.hid ef) n3 f3 (Lib.hid rfl) (Lib.hid rfl) (take_len _ _)
    · obtain ⟨f, f3, ef⟩ := mod_pos 1200 (Int.not_lt.1 hf) (by omega)
      exact SBack_np P _ S _ near far n f w n1 n2 f1 f2 hn (Int.not_lt.1 hf) (Lib.hid en) (Lib.hid ef) n3 f3 (Lib.hid rfl) (Lib.hid rfl) (take_len _ _)
  · obtain ⟨n, n3, en⟩ := mod_pos 1200 (Int.not_lt.1 hn) (by omega)
    by_cases hf : far < 0
    · obtain ⟨f, f3, ef⟩ := mod_neg 1200 hf (by omega)
      exact SBack_pn P _ S _ near far n f w n1 n2 f1 f2 (Int.not_lt.1 hn) hf (Lib.hid en) (Lib.hid ef) n3 f3 (Lib.hid rfl) (Lib.hid rfl) (take_len _ _)
    · obtain ⟨f, f3, ef⟩ := mod_pos 1200 (Int.not_lt.1 hf) (by omega)
      exact SBack_pp P _ S _ near far n f w n1 n2 f1 f2 (Int.not_lt.1 hn) (Int.not_lt.1 hf) (Lib.hid en) (Lib.hid ef) n3 f3 (Lib.hid rfl) (Lib.hid rfl) (take_len _ _)
end Go.Proofs.Ytfhegnmfkmolbaa
