/- lampbearerref.WSub: the difference of two words, byte by byte. -/
import Derived.Test.YtblodmjnhmfjeaaWAdd
namespace Go.Proofs.Ytblodmjnhmfjeaa
open Go.RowKit Go.Shelf
attribute [local go_sem ↓] Go.wp_at_zero Go.wp_at_succ

end Go.Proofs.Ytblodmjnhmfjeaa
