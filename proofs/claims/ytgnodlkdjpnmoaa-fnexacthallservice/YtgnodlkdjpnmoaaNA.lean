import Derived.Test.YtgnodlkdjpnmoaaP1
import Derived.Deep.AppendLies
namespace Go.Proofs.Ytgnodlkdjpnmoaa
open Go.RowKit Go.Deep

abbrev Md.agg (m : Md) : Value := .agg #[.string m.kind, .string m.field, .string m.wh, .string m.is, .string m.put, .string m.fr]

end Go.Proofs.Ytgnodlkdjpnmoaa

namespace Go.Proofs.Ytgnodlkdjpnmoaa
open Go.RowKit Go.Deep

end Go.Proofs.Ytgnodlkdjpnmoaa

namespace Go.Proofs.Ytgnodlkdjpnmoaa
open Go.RowKit Go.Deep

end Go.Proofs.Ytgnodlkdjpnmoaa

namespace Go.Proofs.Ytgnodlkdjpnmoaa
open Go.RowKit Go.Deep

end Go.Proofs.Ytgnodlkdjpnmoaa


