/- Either way round: the walk, with the life. -/
import Derived.Test.YtjnhaabbnbcaeaaAwF
import Derived.Test.YtjnhaabbnbcaeaaAwG
set_option linter.unusedVariables false
namespace Go.Proofs.Ytjnhaabbnbcaeaa
open Go.RowKit
theorem apart_either_all (s : ByteArray) (fy ty m k wk d sec base save : Int) (t : ByteArray) (s' : ByteArray) (fy' ty' m' k' wk' d' sec' base' save' : Int) (t' : ByteArray) (w : World) (hs : s.size ≤ maxLen) (ht : t.size ≤ maxLen) (hs' : s'.size ≤ maxLen) (ht' : t'.size ≤ maxLen) :
    Calls Try.prog 3 #[.agg #[.string s, .int .i64 fy, .int .i64 ty, .int .i64 m, .int .i64 k, .int .i64 wk, .int .i64 d, .int .i64 sec, .int .i64 base, .int .i64 save, .string t], .agg #[.string s', .int .i64 fy', .int .i64 ty', .int .i64 m', .int .i64 k', .int .i64 wk', .int .i64 d', .int .i64 sec', .int .i64 base', .int .i64 save', .string t']] w fun e w' => e = .returned (.bool true) ∧ Below w.heap.size w w' :=
  apart_either s fy ty m k wk d sec base save t s' fy' ty' m' k' wk' d' sec' base' save' t' w hs ht hs' ht' lives27
end Go.Proofs.Ytjnhaabbnbcaeaa
