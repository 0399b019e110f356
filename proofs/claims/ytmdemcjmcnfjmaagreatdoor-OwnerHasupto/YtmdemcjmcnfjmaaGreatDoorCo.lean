/- Members that are put and taken away, as plain functions. -/
import Derived.Test.YtmdemcjmcnfjmaaGreatDoorCy
set_option linter.unusedSimpArgs false
set_option linter.unusedVariables false
namespace Go.Proofs.YtmdemcjmcnfjmaaGreatDoor
open Go.RowKit

/- Where a key belongs. -/
def insV (key : List UInt8) (keys : List (List UInt8)) : Nat := (keys.takeWhile fun a => Op.bytesLess a key).length
def withV (t : V) (key : List UInt8) (x : V) : V :=
  if pairedV t then
    match idxL key t.keys with
    | some i => { t with l := t.l.take i ++ x :: t.l.drop (i + 1) }
    | none => { t with keys := t.keys.take (insV key t.keys) ++ key :: t.keys.drop (insV key t.keys), l := t.l.take (insV key t.keys) ++ x :: t.l.drop (insV key t.keys) }
  else t

def withoutV (t : V) (key : List UInt8) : V :=
  match findV t key with
  | some i => { t with keys := t.keys.take i ++ t.keys.drop (i + 1), l := t.l.take i ++ t.l.drop (i + 1) }
  | none => t

end Go.Proofs.YtmdemcjmcnfjmaaGreatDoor
