/-
  The canonical form of a place: the program's Canon.
-/
import Derived.Test.YtmlmdbholakioaaCheckRefAll
namespace Go.Proofs.Ytmlmdbholakioaa
open Go.RowKit

abbrev MV (p : Pl) : Value := .agg #[.int .i64 p.bc, .int .i64 p.bn, .int .i64 p.ic, .int .i64 p.ix, .int .i64 p.s, .int .i64 p.d, .int .i64 p.z]
/-- What a place is written as best, where it may be. -/
def canonF (p : Pl) : Pl := if p.s = 1 ∧ noneF p.bc p.bn = true then ⟨p.ic, p.ix, 0, 0, 0, p.d, p.z⟩ else if stackF p.ic p.ix then ⟨p.ic, p.ix, p.bc, p.bn, p.s, p.d, p.z⟩ else p
def outF (p : Pl) : Pl := if checkF p = 0 then canonF p else ⟨0, 0, 0, 0, 0, 0, 0⟩
end Go.Proofs.Ytmlmdbholakioaa
