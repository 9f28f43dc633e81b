/-
  What is wrong with a list of what is denied: 'CheckDenied' (the document's answer).
-/
import Derived.Test.YtlnmheooicancaaN1
namespace Go.Proofs.Ytlnmheooicancaa
open Go.RowKit

end Go.Proofs.Ytlnmheooicancaa
