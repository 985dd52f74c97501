/-
  Nothing of the library is laid for this program.
-/
import Derived.Test.YtpfgmebajefjaaaProg
