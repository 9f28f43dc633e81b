/-
  The document's answers: 'CheckTicket', 'TicketBytes' (package leeboardref).
-/
import Derived.Test.YtngpjfbpcccpbacT1
namespace Go.Proofs.Ytngpjfbpcccpbac
open Go.RowKit

end Go.Proofs.Ytngpjfbpcccpbac
