import Derived.Test.YteeodjbionjlmaaJa
import Derived.Test.YteeodjbionjlmaaJyc
namespace Go.Proofs.Yteeodjbionjlmaa
set_option linter.unusedVariables false
/-- entries of an index: a word and its numbers -/
structure En where
  word : ByteArray
  nums : List Int
theorem take_getE {es : List En} {k : Nat} {e : En} (h : es[k]? = some e) : es.take (k + 1) = es.take k ++ [e] := by
  rw [List.take_add_one, h]; rfl
/-- lengths that a law lets by -/
def fitE (es : List En) : Prop := es.length ≤ 1048576 ∧ ∀ e ∈ es, e.nums.length ≤ 1048576 ∧ e.word.size ≤ 1048576
end Go.Proofs.Yteeodjbionjlmaa
