/-
  Plain facts on texts, handed on.
-/
import Derived.Test.YtpfgmebajefjaaaTexts
