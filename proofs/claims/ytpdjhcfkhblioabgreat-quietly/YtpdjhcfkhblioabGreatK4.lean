import Derived.Test.YtpdjhcfkhblioabGreatGA
import Derived.Deep.QuietTactic
import Derived.BigQuiet
namespace Go.Proofs.YtpdjhcfkhblioabGreat
open Go.RowKit

end Go.Proofs.YtpdjhcfkhblioabGreat
