/-
  The document's answers: 'CheckTicket', 'TicketBytes' (package leeboardref).
-/
import Derived.Test.YtcakfmpckbmdeafT1
namespace Go.Proofs.Ytcakfmpckbmdeaf
open Go.RowKit

end Go.Proofs.Ytcakfmpckbmdeaf
