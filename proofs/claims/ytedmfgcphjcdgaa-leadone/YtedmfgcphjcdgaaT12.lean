/-
  The document's answers: 'CheckTicket', 'TicketBytes' (package leeboardref).
-/
import Derived.Test.YtedmfgcphjcdgaaT1
namespace Go.Proofs.Ytedmfgcphjcdgaa
open Go.RowKit

end Go.Proofs.Ytedmfgcphjcdgaa
