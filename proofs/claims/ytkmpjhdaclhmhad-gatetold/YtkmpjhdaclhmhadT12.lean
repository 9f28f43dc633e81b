/-
  The document's answers: 'CheckTicket', 'TicketBytes' (package leeboardref).
-/
import Derived.Test.YtkmpjhdaclhmhadT1
namespace Go.Proofs.Ytkmpjhdaclhmhad
open Go.RowKit

end Go.Proofs.Ytkmpjhdaclhmhad
