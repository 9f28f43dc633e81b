/-
  The document's answers: 'CheckTicket', 'TicketBytes' (package leeboardref).
-/
import Derived.Test.YtlnmheooicancaaT1
namespace Go.Proofs.Ytlnmheooicancaa
open Go.RowKit

end Go.Proofs.Ytlnmheooicancaa
