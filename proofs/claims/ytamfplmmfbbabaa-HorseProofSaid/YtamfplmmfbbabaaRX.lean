/- package horse: the most moves of which no one can follow another one. -/
import Derived.Test.YtamfplmmfbbabaaRW
set_option maxRecDepth 100000
namespace Go.Ab
open Go Go.RowKit Go.Proofs
def popI (x : Int) : Int := bits BinOp.and IntKind.i64 (IntKind.i64.wrap (IntKind.u64.wrap (IntKind.u64.wrap (IntKind.u64.wrap (bits BinOp.and IntKind.u64 (IntKind.u64.wrap (IntKind.u64.wrap (bits BinOp.and IntKind.u64 (IntKind.u64.wrap (bits BinOp.and IntKind.u64 (IntKind.u64.wrap x / (2 : Int) ^ (1 : Nat)) (6148914691236517205 : Int) + bits BinOp.and IntKind.u64 (IntKind.u64.wrap x) (6148914691236517205 : Int)) / (2 : Int) ^ (2 : Nat)) (3689348814741910323 : Int) + bits BinOp.and IntKind.u64 (IntKind.u64.wrap (bits BinOp.and IntKind.u64 (IntKind.u64.wrap x / (2 : Int) ^ (1 : Nat)) (6148914691236517205 : Int) + bits BinOp.and IntKind.u64 (IntKind.u64.wrap x) (6148914691236517205 : Int))) (3689348814741910323 : Int)) / (2 : Int) ^ (4 : Nat) + IntKind.u64.wrap (bits BinOp.and IntKind.u64 (IntKind.u64.wrap (bits BinOp.and IntKind.u64 (IntKind.u64.wrap x / (2 : Int) ^ (1 : Nat)) (6148914691236517205 : Int) + bits BinOp.and IntKind.u64 (IntKind.u64.wrap x) (6148914691236517205 : Int)) / (2 : Int) ^ (2 : Nat)) (3689348814741910323 : Int) + bits BinOp.and IntKind.u64 (IntKind.u64.wrap (bits BinOp.and IntKind.u64 (IntKind.u64.wrap x / (2 : Int) ^ (1 : Nat)) (6148914691236517205 : Int) + bits BinOp.and IntKind.u64 (IntKind.u64.wrap x) (6148914691236517205 : Int))) (3689348814741910323 : Int)))) (1085102592571150095 : Int) + bits BinOp.and IntKind.u64 (IntKind.u64.wrap (IntKind.u64.wrap (bits BinOp.and IntKind.u64 (IntKind.u64.wrap (bits BinOp.and IntKind.u64 (IntKind.u64.wrap x / (2 : Int) ^ (1 : Nat)) (6148914691236517205 : Int) + bits BinOp.and IntKind.u64 (IntKind.u64.wrap x) (6148914691236517205 : Int)) / (2 : Int) ^ (2 : Nat)) (3689348814741910323 : Int) + bits BinOp.and IntKind.u64 (IntKind.u64.wrap (bits BinOp.and IntKind.u64 (IntKind.u64.wrap x / (2 : Int) ^ (1 : Nat)) (6148914691236517205 : Int) + bits BinOp.and IntKind.u64 (IntKind.u64.wrap x) (6148914691236517205 : Int))) (3689348814741910323 : Int)) / (2 : Int) ^ (4 : Nat) + IntKind.u64.wrap (bits BinOp.and IntKind.u64 (IntKind.u64.wrap (bits BinOp.and IntKind.u64 (IntKind.u64.wrap x / (2 : Int) ^ (1 : Nat)) (6148914691236517205 : Int) + bits BinOp.and IntKind.u64 (IntKind.u64.wrap x) (6148914691236517205 : Int)) / (2 : Int) ^ (2 : Nat)) (3689348814741910323 : Int) + bits BinOp.and IntKind.u64 (IntKind.u64.wrap (bits BinOp.and IntKind.u64 (IntKind.u64.wrap x / (2 : Int) ^ (1 : Nat)) (6148914691236517205 : Int) + bits BinOp.and IntKind.u64 (IntKind.u64.wrap x) (6148914691236517205 : Int))) (3689348814741910323 : Int)))) (1085102592571150095 : Int) / (2 : Int) ^ (8 : Nat)) + IntKind.u64.wrap (bits BinOp.and IntKind.u64 (IntKind.u64.wrap (IntKind.u64.wrap (bits BinOp.and IntKind.u64 (IntKind.u64.wrap (bits BinOp.and IntKind.u64 (IntKind.u64.wrap x / (2 : Int) ^ (1 : Nat)) (6148914691236517205 : Int) + bits BinOp.and IntKind.u64 (IntKind.u64.wrap x) (6148914691236517205 : Int)) / (2 : Int) ^ (2 : Nat)) (3689348814741910323 : Int) + bits BinOp.and IntKind.u64 (IntKind.u64.wrap (bits BinOp.and IntKind.u64 (IntKind.u64.wrap x / (2 : Int) ^ (1 : Nat)) (6148914691236517205 : Int) + bits BinOp.and IntKind.u64 (IntKind.u64.wrap x) (6148914691236517205 : Int))) (3689348814741910323 : Int)) / (2 : Int) ^ (4 : Nat) + IntKind.u64.wrap (bits BinOp.and IntKind.u64 (IntKind.u64.wrap (bits BinOp.and IntKind.u64 (IntKind.u64.wrap x / (2 : Int) ^ (1 : Nat)) (6148914691236517205 : Int) + bits BinOp.and IntKind.u64 (IntKind.u64.wrap x) (6148914691236517205 : Int)) / (2 : Int) ^ (2 : Nat)) (3689348814741910323 : Int) + bits BinOp.and IntKind.u64 (IntKind.u64.wrap (bits BinOp.and IntKind.u64 (IntKind.u64.wrap x / (2 : Int) ^ (1 : Nat)) (6148914691236517205 : Int) + bits BinOp.and IntKind.u64 (IntKind.u64.wrap x) (6148914691236517205 : Int))) (3689348814741910323 : Int)))) (1085102592571150095 : Int) + bits BinOp.and IntKind.u64 (IntKind.u64.wrap (IntKind.u64.wrap (bits BinOp.and IntKind.u64 (IntKind.u64.wrap (bits BinOp.and IntKind.u64 (IntKind.u64.wrap x / (2 : Int) ^ (1 : Nat)) (6148914691236517205 : Int) + bits BinOp.and IntKind.u64 (IntKind.u64.wrap x) (6148914691236517205 : Int)) / (2 : Int) ^ (2 : Nat)) (3689348814741910323 : Int) + bits BinOp.and IntKind.u64 (IntKind.u64.wrap (bits BinOp.and IntKind.u64 (IntKind.u64.wrap x / (2 : Int) ^ (1 : Nat)) (6148914691236517205 : Int) + bits BinOp.and IntKind.u64 (IntKind.u64.wrap x) (6148914691236517205 : Int))) (3689348814741910323 : Int)) / (2 : Int) ^ (4 : Nat) + IntKind.u64.wrap (bits BinOp.and IntKind.u64 (IntKind.u64.wrap (bits BinOp.and IntKind.u64 (IntKind.u64.wrap x / (2 : Int) ^ (1 : Nat)) (6148914691236517205 : Int) + bits BinOp.and IntKind.u64 (IntKind.u64.wrap x) (6148914691236517205 : Int)) / (2 : Int) ^ (2 : Nat)) (3689348814741910323 : Int) + bits BinOp.and IntKind.u64 (IntKind.u64.wrap (bits BinOp.and IntKind.u64 (IntKind.u64.wrap x / (2 : Int) ^ (1 : Nat)) (6148914691236517205 : Int) + bits BinOp.and IntKind.u64 (IntKind.u64.wrap x) (6148914691236517205 : Int))) (3689348814741910323 : Int)))) (1085102592571150095 : Int) / (2 : Int) ^ (8 : Nat)) / (2 : Int) ^ (16 : Nat)) + IntKind.u64.wrap (IntKind.u64.wrap (bits BinOp.and IntKind.u64 (IntKind.u64.wrap (IntKind.u64.wrap (bits BinOp.and IntKind.u64 (IntKind.u64.wrap (bits BinOp.and IntKind.u64 (IntKind.u64.wrap x / (2 : Int) ^ (1 : Nat)) (6148914691236517205 : Int) + bits BinOp.and IntKind.u64 (IntKind.u64.wrap x) (6148914691236517205 : Int)) / (2 : Int) ^ (2 : Nat)) (3689348814741910323 : Int) + bits BinOp.and IntKind.u64 (IntKind.u64.wrap (bits BinOp.and IntKind.u64 (IntKind.u64.wrap x / (2 : Int) ^ (1 : Nat)) (6148914691236517205 : Int) + bits BinOp.and IntKind.u64 (IntKind.u64.wrap x) (6148914691236517205 : Int))) (3689348814741910323 : Int)) / (2 : Int) ^ (4 : Nat) + IntKind.u64.wrap (bits BinOp.and IntKind.u64 (IntKind.u64.wrap (bits BinOp.and IntKind.u64 (IntKind.u64.wrap x / (2 : Int) ^ (1 : Nat)) (6148914691236517205 : Int) + bits BinOp.and IntKind.u64 (IntKind.u64.wrap x) (6148914691236517205 : Int)) / (2 : Int) ^ (2 : Nat)) (3689348814741910323 : Int) + bits BinOp.and IntKind.u64 (IntKind.u64.wrap (bits BinOp.and IntKind.u64 (IntKind.u64.wrap x / (2 : Int) ^ (1 : Nat)) (6148914691236517205 : Int) + bits BinOp.and IntKind.u64 (IntKind.u64.wrap x) (6148914691236517205 : Int))) (3689348814741910323 : Int)))) (1085102592571150095 : Int) + bits BinOp.and IntKind.u64 (IntKind.u64.wrap (IntKind.u64.wrap (bits BinOp.and IntKind.u64 (IntKind.u64.wrap (bits BinOp.and IntKind.u64 (IntKind.u64.wrap x / (2 : Int) ^ (1 : Nat)) (6148914691236517205 : Int) + bits BinOp.and IntKind.u64 (IntKind.u64.wrap x) (6148914691236517205 : Int)) / (2 : Int) ^ (2 : Nat)) (3689348814741910323 : Int) + bits BinOp.and IntKind.u64 (IntKind.u64.wrap (bits BinOp.and IntKind.u64 (IntKind.u64.wrap x / (2 : Int) ^ (1 : Nat)) (6148914691236517205 : Int) + bits BinOp.and IntKind.u64 (IntKind.u64.wrap x) (6148914691236517205 : Int))) (3689348814741910323 : Int)) / (2 : Int) ^ (4 : Nat) + IntKind.u64.wrap (bits BinOp.and IntKind.u64 (IntKind.u64.wrap (bits BinOp.and IntKind.u64 (IntKind.u64.wrap x / (2 : Int) ^ (1 : Nat)) (6148914691236517205 : Int) + bits BinOp.and IntKind.u64 (IntKind.u64.wrap x) (6148914691236517205 : Int)) / (2 : Int) ^ (2 : Nat)) (3689348814741910323 : Int) + bits BinOp.and IntKind.u64 (IntKind.u64.wrap (bits BinOp.and IntKind.u64 (IntKind.u64.wrap x / (2 : Int) ^ (1 : Nat)) (6148914691236517205 : Int) + bits BinOp.and IntKind.u64 (IntKind.u64.wrap x) (6148914691236517205 : Int))) (3689348814741910323 : Int)))) (1085102592571150095 : Int) / (2 : Int) ^ (8 : Nat)) + IntKind.u64.wrap (bits BinOp.and IntKind.u64 (IntKind.u64.wrap (IntKind.u64.wrap (bits BinOp.and IntKind.u64 (IntKind.u64.wrap (bits BinOp.and IntKind.u64 (IntKind.u64.wrap x / (2 : Int) ^ (1 : Nat)) (6148914691236517205 : Int) + bits BinOp.and IntKind.u64 (IntKind.u64.wrap x) (6148914691236517205 : Int)) / (2 : Int) ^ (2 : Nat)) (3689348814741910323 : Int) + bits BinOp.and IntKind.u64 (IntKind.u64.wrap (bits BinOp.and IntKind.u64 (IntKind.u64.wrap x / (2 : Int) ^ (1 : Nat)) (6148914691236517205 : Int) + bits BinOp.and IntKind.u64 (IntKind.u64.wrap x) (6148914691236517205 : Int))) (3689348814741910323 : Int)) / (2 : Int) ^ (4 : Nat) + IntKind.u64.wrap (bits BinOp.and IntKind.u64 (IntKind.u64.wrap (bits BinOp.and IntKind.u64 (IntKind.u64.wrap x / (2 : Int) ^ (1 : Nat)) (6148914691236517205 : Int) + bits BinOp.and IntKind.u64 (IntKind.u64.wrap x) (6148914691236517205 : Int)) / (2 : Int) ^ (2 : Nat)) (3689348814741910323 : Int) + bits BinOp.and IntKind.u64 (IntKind.u64.wrap (bits BinOp.and IntKind.u64 (IntKind.u64.wrap x / (2 : Int) ^ (1 : Nat)) (6148914691236517205 : Int) + bits BinOp.and IntKind.u64 (IntKind.u64.wrap x) (6148914691236517205 : Int))) (3689348814741910323 : Int)))) (1085102592571150095 : Int) + bits BinOp.and IntKind.u64 (IntKind.u64.wrap (IntKind.u64.wrap (bits BinOp.and IntKind.u64 (IntKind.u64.wrap (bits BinOp.and IntKind.u64 (IntKind.u64.wrap x / (2 : Int) ^ (1 : Nat)) (6148914691236517205 : Int) + bits BinOp.and IntKind.u64 (IntKind.u64.wrap x) (6148914691236517205 : Int)) / (2 : Int) ^ (2 : Nat)) (3689348814741910323 : Int) + bits BinOp.and IntKind.u64 (IntKind.u64.wrap (bits BinOp.and IntKind.u64 (IntKind.u64.wrap x / (2 : Int) ^ (1 : Nat)) (6148914691236517205 : Int) + bits BinOp.and IntKind.u64 (IntKind.u64.wrap x) (6148914691236517205 : Int))) (3689348814741910323 : Int)) / (2 : Int) ^ (4 : Nat) + IntKind.u64.wrap (bits BinOp.and IntKind.u64 (IntKind.u64.wrap (bits BinOp.and IntKind.u64 (IntKind.u64.wrap x / (2 : Int) ^ (1 : Nat)) (6148914691236517205 : Int) + bits BinOp.and IntKind.u64 (IntKind.u64.wrap x) (6148914691236517205 : Int)) / (2 : Int) ^ (2 : Nat)) (3689348814741910323 : Int) + bits BinOp.and IntKind.u64 (IntKind.u64.wrap (bits BinOp.and IntKind.u64 (IntKind.u64.wrap x / (2 : Int) ^ (1 : Nat)) (6148914691236517205 : Int) + bits BinOp.and IntKind.u64 (IntKind.u64.wrap x) (6148914691236517205 : Int))) (3689348814741910323 : Int)))) (1085102592571150095 : Int) / (2 : Int) ^ (8 : Nat)) / (2 : Int) ^ (16 : Nat)) / (2 : Int) ^ (32 : Nat)))) (127 : Int)

theorem f82 (x : Int) (R : ARes → Prop) : (vx.call 82 [I x] (retK R) ⟨.nil, 0⟩ ([])) =
(R (.ret (.int .i64 (bits BinOp.and IntKind.i64 (IntKind.i64.wrap (IntKind.u64.wrap (IntKind.u64.wrap (IntKind.u64.wrap (bits BinOp.and IntKind.u64 (IntKind.u64.wrap (IntKind.u64.wrap (bits BinOp.and IntKind.u64 (IntKind.u64.wrap (bits BinOp.and IntKind.u64 (IntKind.u64.wrap x / (2 : Int) ^ (1 : Nat)) (6148914691236517205 : Int) + bits BinOp.and IntKind.u64 (IntKind.u64.wrap x) (6148914691236517205 : Int)) / (2 : Int) ^ (2 : Nat)) (3689348814741910323 : Int) + bits BinOp.and IntKind.u64 (IntKind.u64.wrap (bits BinOp.and IntKind.u64 (IntKind.u64.wrap x / (2 : Int) ^ (1 : Nat)) (6148914691236517205 : Int) + bits BinOp.and IntKind.u64 (IntKind.u64.wrap x) (6148914691236517205 : Int))) (3689348814741910323 : Int)) / (2 : Int) ^ (4 : Nat) + IntKind.u64.wrap (bits BinOp.and IntKind.u64 (IntKind.u64.wrap (bits BinOp.and IntKind.u64 (IntKind.u64.wrap x / (2 : Int) ^ (1 : Nat)) (6148914691236517205 : Int) + bits BinOp.and IntKind.u64 (IntKind.u64.wrap x) (6148914691236517205 : Int)) / (2 : Int) ^ (2 : Nat)) (3689348814741910323 : Int) + bits BinOp.and IntKind.u64 (IntKind.u64.wrap (bits BinOp.and IntKind.u64 (IntKind.u64.wrap x / (2 : Int) ^ (1 : Nat)) (6148914691236517205 : Int) + bits BinOp.and IntKind.u64 (IntKind.u64.wrap x) (6148914691236517205 : Int))) (3689348814741910323 : Int)))) (1085102592571150095 : Int) + bits BinOp.and IntKind.u64 (IntKind.u64.wrap (IntKind.u64.wrap (bits BinOp.and IntKind.u64 (IntKind.u64.wrap (bits BinOp.and IntKind.u64 (IntKind.u64.wrap x / (2 : Int) ^ (1 : Nat)) (6148914691236517205 : Int) + bits BinOp.and IntKind.u64 (IntKind.u64.wrap x) (6148914691236517205 : Int)) / (2 : Int) ^ (2 : Nat)) (3689348814741910323 : Int) + bits BinOp.and IntKind.u64 (IntKind.u64.wrap (bits BinOp.and IntKind.u64 (IntKind.u64.wrap x / (2 : Int) ^ (1 : Nat)) (6148914691236517205 : Int) + bits BinOp.and IntKind.u64 (IntKind.u64.wrap x) (6148914691236517205 : Int))) (3689348814741910323 : Int)) / (2 : Int) ^ (4 : Nat) + IntKind.u64.wrap (bits BinOp.and IntKind.u64 (IntKind.u64.wrap (bits BinOp.and IntKind.u64 (IntKind.u64.wrap x / (2 : Int) ^ (1 : Nat)) (6148914691236517205 : Int) + bits BinOp.and IntKind.u64 (IntKind.u64.wrap x) (6148914691236517205 : Int)) / (2 : Int) ^ (2 : Nat)) (3689348814741910323 : Int) + bits BinOp.and IntKind.u64 (IntKind.u64.wrap (bits BinOp.and IntKind.u64 (IntKind.u64.wrap x / (2 : Int) ^ (1 : Nat)) (6148914691236517205 : Int) + bits BinOp.and IntKind.u64 (IntKind.u64.wrap x) (6148914691236517205 : Int))) (3689348814741910323 : Int)))) (1085102592571150095 : Int) / (2 : Int) ^ (8 : Nat)) + IntKind.u64.wrap (bits BinOp.and IntKind.u64 (IntKind.u64.wrap (IntKind.u64.wrap (bits BinOp.and IntKind.u64 (IntKind.u64.wrap (bits BinOp.and IntKind.u64 (IntKind.u64.wrap x / (2 : Int) ^ (1 : Nat)) (6148914691236517205 : Int) + bits BinOp.and IntKind.u64 (IntKind.u64.wrap x) (6148914691236517205 : Int)) / (2 : Int) ^ (2 : Nat)) (3689348814741910323 : Int) + bits BinOp.and IntKind.u64 (IntKind.u64.wrap (bits BinOp.and IntKind.u64 (IntKind.u64.wrap x / (2 : Int) ^ (1 : Nat)) (6148914691236517205 : Int) + bits BinOp.and IntKind.u64 (IntKind.u64.wrap x) (6148914691236517205 : Int))) (3689348814741910323 : Int)) / (2 : Int) ^ (4 : Nat) + IntKind.u64.wrap (bits BinOp.and IntKind.u64 (IntKind.u64.wrap (bits BinOp.and IntKind.u64 (IntKind.u64.wrap x / (2 : Int) ^ (1 : Nat)) (6148914691236517205 : Int) + bits BinOp.and IntKind.u64 (IntKind.u64.wrap x) (6148914691236517205 : Int)) / (2 : Int) ^ (2 : Nat)) (3689348814741910323 : Int) + bits BinOp.and IntKind.u64 (IntKind.u64.wrap (bits BinOp.and IntKind.u64 (IntKind.u64.wrap x / (2 : Int) ^ (1 : Nat)) (6148914691236517205 : Int) + bits BinOp.and IntKind.u64 (IntKind.u64.wrap x) (6148914691236517205 : Int))) (3689348814741910323 : Int)))) (1085102592571150095 : Int) + bits BinOp.and IntKind.u64 (IntKind.u64.wrap (IntKind.u64.wrap (bits BinOp.and IntKind.u64 (IntKind.u64.wrap (bits BinOp.and IntKind.u64 (IntKind.u64.wrap x / (2 : Int) ^ (1 : Nat)) (6148914691236517205 : Int) + bits BinOp.and IntKind.u64 (IntKind.u64.wrap x) (6148914691236517205 : Int)) / (2 : Int) ^ (2 : Nat)) (3689348814741910323 : Int) + bits BinOp.and IntKind.u64 (IntKind.u64.wrap (bits BinOp.and IntKind.u64 (IntKind.u64.wrap x / (2 : Int) ^ (1 : Nat)) (6148914691236517205 : Int) + bits BinOp.and IntKind.u64 (IntKind.u64.wrap x) (6148914691236517205 : Int))) (3689348814741910323 : Int)) / (2 : Int) ^ (4 : Nat) + IntKind.u64.wrap (bits BinOp.and IntKind.u64 (IntKind.u64.wrap (bits BinOp.and IntKind.u64 (IntKind.u64.wrap x / (2 : Int) ^ (1 : Nat)) (6148914691236517205 : Int) + bits BinOp.and IntKind.u64 (IntKind.u64.wrap x) (6148914691236517205 : Int)) / (2 : Int) ^ (2 : Nat)) (3689348814741910323 : Int) + bits BinOp.and IntKind.u64 (IntKind.u64.wrap (bits BinOp.and IntKind.u64 (IntKind.u64.wrap x / (2 : Int) ^ (1 : Nat)) (6148914691236517205 : Int) + bits BinOp.and IntKind.u64 (IntKind.u64.wrap x) (6148914691236517205 : Int))) (3689348814741910323 : Int)))) (1085102592571150095 : Int) / (2 : Int) ^ (8 : Nat)) / (2 : Int) ^ (16 : Nat)) + IntKind.u64.wrap (IntKind.u64.wrap (bits BinOp.and IntKind.u64 (IntKind.u64.wrap (IntKind.u64.wrap (bits BinOp.and IntKind.u64 (IntKind.u64.wrap (bits BinOp.and IntKind.u64 (IntKind.u64.wrap x / (2 : Int) ^ (1 : Nat)) (6148914691236517205 : Int) + bits BinOp.and IntKind.u64 (IntKind.u64.wrap x) (6148914691236517205 : Int)) / (2 : Int) ^ (2 : Nat)) (3689348814741910323 : Int) + bits BinOp.and IntKind.u64 (IntKind.u64.wrap (bits BinOp.and IntKind.u64 (IntKind.u64.wrap x / (2 : Int) ^ (1 : Nat)) (6148914691236517205 : Int) + bits BinOp.and IntKind.u64 (IntKind.u64.wrap x) (6148914691236517205 : Int))) (3689348814741910323 : Int)) / (2 : Int) ^ (4 : Nat) + IntKind.u64.wrap (bits BinOp.and IntKind.u64 (IntKind.u64.wrap (bits BinOp.and IntKind.u64 (IntKind.u64.wrap x / (2 : Int) ^ (1 : Nat)) (6148914691236517205 : Int) + bits BinOp.and IntKind.u64 (IntKind.u64.wrap x) (6148914691236517205 : Int)) / (2 : Int) ^ (2 : Nat)) (3689348814741910323 : Int) + bits BinOp.and IntKind.u64 (IntKind.u64.wrap (bits BinOp.and IntKind.u64 (IntKind.u64.wrap x / (2 : Int) ^ (1 : Nat)) (6148914691236517205 : Int) + bits BinOp.and IntKind.u64 (IntKind.u64.wrap x) (6148914691236517205 : Int))) (3689348814741910323 : Int)))) (1085102592571150095 : Int) + bits BinOp.and IntKind.u64 (IntKind.u64.wrap (IntKind.u64.wrap (bits BinOp.and IntKind.u64 (IntKind.u64.wrap (bits BinOp.and IntKind.u64 (IntKind.u64.wrap x / (2 : Int) ^ (1 : Nat)) (6148914691236517205 : Int) + bits BinOp.and IntKind.u64 (IntKind.u64.wrap x) (6148914691236517205 : Int)) / (2 : Int) ^ (2 : Nat)) (3689348814741910323 : Int) + bits BinOp.and IntKind.u64 (IntKind.u64.wrap (bits BinOp.and IntKind.u64 (IntKind.u64.wrap x / (2 : Int) ^ (1 : Nat)) (6148914691236517205 : Int) + bits BinOp.and IntKind.u64 (IntKind.u64.wrap x) (6148914691236517205 : Int))) (3689348814741910323 : Int)) / (2 : Int) ^ (4 : Nat) + IntKind.u64.wrap (bits BinOp.and IntKind.u64 (IntKind.u64.wrap (bits BinOp.and IntKind.u64 (IntKind.u64.wrap x / (2 : Int) ^ (1 : Nat)) (6148914691236517205 : Int) + bits BinOp.and IntKind.u64 (IntKind.u64.wrap x) (6148914691236517205 : Int)) / (2 : Int) ^ (2 : Nat)) (3689348814741910323 : Int) + bits BinOp.and IntKind.u64 (IntKind.u64.wrap (bits BinOp.and IntKind.u64 (IntKind.u64.wrap x / (2 : Int) ^ (1 : Nat)) (6148914691236517205 : Int) + bits BinOp.and IntKind.u64 (IntKind.u64.wrap x) (6148914691236517205 : Int))) (3689348814741910323 : Int)))) (1085102592571150095 : Int) / (2 : Int) ^ (8 : Nat)) + IntKind.u64.wrap (bits BinOp.and IntKind.u64 (IntKind.u64.wrap (IntKind.u64.wrap (bits BinOp.and IntKind.u64 (IntKind.u64.wrap (bits BinOp.and IntKind.u64 (IntKind.u64.wrap x / (2 : Int) ^ (1 : Nat)) (6148914691236517205 : Int) + bits BinOp.and IntKind.u64 (IntKind.u64.wrap x) (6148914691236517205 : Int)) / (2 : Int) ^ (2 : Nat)) (3689348814741910323 : Int) + bits BinOp.and IntKind.u64 (IntKind.u64.wrap (bits BinOp.and IntKind.u64 (IntKind.u64.wrap x / (2 : Int) ^ (1 : Nat)) (6148914691236517205 : Int) + bits BinOp.and IntKind.u64 (IntKind.u64.wrap x) (6148914691236517205 : Int))) (3689348814741910323 : Int)) / (2 : Int) ^ (4 : Nat) + IntKind.u64.wrap (bits BinOp.and IntKind.u64 (IntKind.u64.wrap (bits BinOp.and IntKind.u64 (IntKind.u64.wrap x / (2 : Int) ^ (1 : Nat)) (6148914691236517205 : Int) + bits BinOp.and IntKind.u64 (IntKind.u64.wrap x) (6148914691236517205 : Int)) / (2 : Int) ^ (2 : Nat)) (3689348814741910323 : Int) + bits BinOp.and IntKind.u64 (IntKind.u64.wrap (bits BinOp.and IntKind.u64 (IntKind.u64.wrap x / (2 : Int) ^ (1 : Nat)) (6148914691236517205 : Int) + bits BinOp.and IntKind.u64 (IntKind.u64.wrap x) (6148914691236517205 : Int))) (3689348814741910323 : Int)))) (1085102592571150095 : Int) + bits BinOp.and IntKind.u64 (IntKind.u64.wrap (IntKind.u64.wrap (bits BinOp.and IntKind.u64 (IntKind.u64.wrap (bits BinOp.and IntKind.u64 (IntKind.u64.wrap x / (2 : Int) ^ (1 : Nat)) (6148914691236517205 : Int) + bits BinOp.and IntKind.u64 (IntKind.u64.wrap x) (6148914691236517205 : Int)) / (2 : Int) ^ (2 : Nat)) (3689348814741910323 : Int) + bits BinOp.and IntKind.u64 (IntKind.u64.wrap (bits BinOp.and IntKind.u64 (IntKind.u64.wrap x / (2 : Int) ^ (1 : Nat)) (6148914691236517205 : Int) + bits BinOp.and IntKind.u64 (IntKind.u64.wrap x) (6148914691236517205 : Int))) (3689348814741910323 : Int)) / (2 : Int) ^ (4 : Nat) + IntKind.u64.wrap (bits BinOp.and IntKind.u64 (IntKind.u64.wrap (bits BinOp.and IntKind.u64 (IntKind.u64.wrap x / (2 : Int) ^ (1 : Nat)) (6148914691236517205 : Int) + bits BinOp.and IntKind.u64 (IntKind.u64.wrap x) (6148914691236517205 : Int)) / (2 : Int) ^ (2 : Nat)) (3689348814741910323 : Int) + bits BinOp.and IntKind.u64 (IntKind.u64.wrap (bits BinOp.and IntKind.u64 (IntKind.u64.wrap x / (2 : Int) ^ (1 : Nat)) (6148914691236517205 : Int) + bits BinOp.and IntKind.u64 (IntKind.u64.wrap x) (6148914691236517205 : Int))) (3689348814741910323 : Int)))) (1085102592571150095 : Int) / (2 : Int) ^ (8 : Nat)) / (2 : Int) ^ (16 : Nat)) / (2 : Int) ^ (32 : Nat)))) (127 : Int))))) := by kernel_rfl

theorem f80 (n : Nat) (R : ARes → Prop) : (vx.call 80 [I n] (retK R) ⟨.nil, 0⟩ ((3, .val (.int .i64 (IntKind.i64.wrap ((1 : Int) * (2 : Int) ^ n)))) :: [])) =
(((((((0 : Int) ≤ (↑n : Int))) ∧ (((↑n : Int) ≤ (↑(64 : Nat) : Int)))) ∧ (((.int .i64 (IntKind.i64.wrap ((1 : Int) * (2 : Int) ^ n))) : Value) = (.int .i64 (IntKind.i64.wrap ((1 : Int) * (2 : Int) ^ n))))) ∧
R (.ret (.int .i64 (IntKind.i64.wrap (IntKind.i64.wrap ((1 : Int) * (2 : Int) ^ n) - (1 : Int))))))) := by kernel_rfl

theorem b88 (i : Nat) (s : Int) (o : Nat → Int) (R : Nat → AExit → Hw → Prop) : (vx.code none (.l p88) (leafW [T88, R88] R) (T88.inst (st88 o s i)) ([(0, .split ((2, .val (.int .i64 (o i))) :: (8, .val (.int .i64 (s / (2 : Int) ^ i))) :: [(1, .split ([(5, .split ([(3, .tm 1 [])]) ([(4, .tm 0 [])]))]) ([(6, .tm 0 [])]))]) ([(1, .tm 0 [])]))])) =
((((decide ((↑i : Int) < (7 : Int))) = true → ((((((0 : Int) ≤ (↑i : Int))) ∧ (((↑i : Int) < (↑(7 : Nat) : Int)))) ∧ ((partV Try.prog ((7 : Nat), (83 : Nat)).snd [Value.int .i64 (o (0 : Nat)), Value.int .i64 (o (1 : Nat)), Value.int .i64 (o (2 : Nat)), Value.int .i64 (o (3 : Nat)), Value.int .i64 (o (4 : Nat)), Value.int .i64 (o (5 : Nat)), Value.int .i64 (o (6 : Nat))] ((↑i : Int).toNat * (fun x => x.size) Try.prog.types[((7 : Nat), (83 : Nat)).snd]) = some (.int .i64 (o i))))) ∧
((((((0 : Int) ≤ (↑i : Int))) ∧ (((↑i : Int) ≤ (↑(64 : Nat) : Int)))) ∧ (((.int .i64 (s / (2 : Int) ^ i)) : Value) = (.int .i64 (s / (2 : Int) ^ i)))) ∧
(((bits BinOp.and IntKind.i64 (s / (2 : Int) ^ i) (1 : Int) == (1 : Int)) = true → (((bits BinOp.and IntKind.i64 s (o i) != (0 : Int)) = true → R 1 .ret ⟨⟨[(.bool false)], []⟩, [], []⟩) ∧
((bits BinOp.and IntKind.i64 s (o i) != (0 : Int)) = false → R 0 .normal ⟨⟨[(.int .i64 (s)), (.int .i64 (o (0 : Nat))), (.int .i64 (o (1 : Nat))), (.int .i64 (o (2 : Nat))), (.int .i64 (o (3 : Nat))), (.int .i64 (o (4 : Nat))), (.int .i64 (o (5 : Nat))), (.int .i64 (o (6 : Nat))), (.int .i64 (IntKind.i64.wrap ((↑i : Int) + (1 : Int))))], []⟩, [], []⟩))) ∧
((bits BinOp.and IntKind.i64 (s / (2 : Int) ^ i) (1 : Int) == (1 : Int)) = false → R 0 .normal ⟨⟨[(.int .i64 (s)), (.int .i64 (o (0 : Nat))), (.int .i64 (o (1 : Nat))), (.int .i64 (o (2 : Nat))), (.int .i64 (o (3 : Nat))), (.int .i64 (o (4 : Nat))), (.int .i64 (o (5 : Nat))), (.int .i64 (o (6 : Nat))), (.int .i64 (IntKind.i64.wrap ((↑i : Int) + (1 : Int))))], []⟩, [], []⟩))))) ∧
((decide ((↑i : Int) < (7 : Int))) = false → R 0 (.exit ((0 : Nat))) ⟨⟨[(.int .i64 (s)), (.int .i64 (o (0 : Nat))), (.int .i64 (o (1 : Nat))), (.int .i64 (o (2 : Nat))), (.int .i64 (o (3 : Nat))), (.int .i64 (o (4 : Nat))), (.int .i64 (o (5 : Nat))), (.int .i64 (o (6 : Nat))), (.int .i64 ((↑i : Int)))], []⟩, [], []⟩))) := by kernel_rfl

theorem f88t (s : Int) (o : Nat → Int) (R : ARes → Prop) : (vx.call 88 [.agg ⟨ints 7 o⟩, I s] (retK R) ⟨.nil, 0⟩ ((5, Hint.loopW T88 (AExit.exit (0 : Nat)) T88 fun x => st88 o s (7 : Nat)) :: [])) =
(((ClW ⟨⟨[(.int .i64 (s)), (.int .i64 (o (0 : Nat))), (.int .i64 (o (1 : Nat))), (.int .i64 (o (2 : Nat))), (.int .i64 (o (3 : Nat))), (.int .i64 (o (4 : Nat))), (.int .i64 (o (5 : Nat))), (.int .i64 (o (6 : Nat))), (.int .i64 ((0 : Int)))], []⟩, [], []⟩) ∧ (LoopOW Try.prog .none p88 (T88) ⟨⟨[(.int .i64 (s)), (.int .i64 (o (0 : Nat))), (.int .i64 (o (1 : Nat))), (.int .i64 (o (2 : Nat))), (.int .i64 (o (3 : Nat))), (.int .i64 (o (4 : Nat))), (.int .i64 (o (5 : Nat))), (.int .i64 (o (6 : Nat))), (.int .i64 ((0 : Int)))], []⟩, [], []⟩ (.exit ((0 : Nat))) (T88) ⟨⟨[(.int .i64 (s)), (.int .i64 (o (0 : Nat))), (.int .i64 (o (1 : Nat))), (.int .i64 (o (2 : Nat))), (.int .i64 (o (3 : Nat))), (.int .i64 (o (4 : Nat))), (.int .i64 (o (5 : Nat))), (.int .i64 (o (6 : Nat))), (.int .i64 ((↑(7 : Nat) : Int)))], []⟩, [], []⟩) ∧ 
R (.ret (.bool true)))) := by kernel_rfl

theorem f88f (s : Int) (o : Nat → Int) (R : ARes → Prop) : (vx.call 88 [.agg ⟨ints 7 o⟩, I s] (retK R) ⟨.nil, 0⟩ ((5, Hint.loopW T88 AExit.ret R88 fun x => { hs := { vs := [Value.bool false], ns := [] }, ls := [], es := [] }) :: [])) =
(((ClW ⟨⟨[(.int .i64 (s)), (.int .i64 (o (0 : Nat))), (.int .i64 (o (1 : Nat))), (.int .i64 (o (2 : Nat))), (.int .i64 (o (3 : Nat))), (.int .i64 (o (4 : Nat))), (.int .i64 (o (5 : Nat))), (.int .i64 (o (6 : Nat))), (.int .i64 ((0 : Int)))], []⟩, [], []⟩) ∧ (LoopOW Try.prog .none p88 (T88) ⟨⟨[(.int .i64 (s)), (.int .i64 (o (0 : Nat))), (.int .i64 (o (1 : Nat))), (.int .i64 (o (2 : Nat))), (.int .i64 (o (3 : Nat))), (.int .i64 (o (4 : Nat))), (.int .i64 (o (5 : Nat))), (.int .i64 (o (6 : Nat))), (.int .i64 ((0 : Int)))], []⟩, [], []⟩ .ret (R88) ⟨⟨[(.bool false)], []⟩, [], []⟩) ∧ 
R (.ret (.bool false)))) := by kernel_rfl

theorem f89 (a b : Nat) (R : ARes → Prop) : (vx.call 89 [I a, I b] (retK R) ⟨.nil, 0⟩ ((3, Hint.con (C82 a)) :: (1, Hint.con (C82 b)) :: [(0, .split ([]) ([]))])) =
(((ConOK Try.prog ((82 : Nat)) (C82 a)) ∧ (Con.pre (C82 a) ⟨⟨[(.int .i64 ((↑a : Int)))], []⟩, []⟩) ∧ 
((ConOK Try.prog ((82 : Nat)) (C82 b)) ∧ (Con.pre (C82 b) ⟨⟨[(.int .i64 ((↑b : Int)))], []⟩, []⟩) ∧ 
(((decide ((↑(popN a) : Int) > (↑(popN b) : Int))) = true → R (.ret (.bool true))) ∧
((decide ((↑(popN a) : Int) > (↑(popN b) : Int))) = false → R (.ret (.bool false))))))) := by kernel_rfl

theorem b93 (N i found : Nat) (bg : Bool) (o : Nat → Int) (R : Nat → AExit → Hw → Prop) : (vx.code none (.l p93) (leafW [T93] R) (T93.inst (st93 o N i found bg)) ([(0, .split ((9, Hint.con (C88 o (↑i : Int))) :: [(0, .split ([(0, .split ((6, Hint.con (C89 i found)) :: [(0, .split ([(9, .tm 0 [])]) ([(6, .tm 0 [])]))]) ([(12, .tm 0 [])]))]) ([(6, .tm 0 [])]))]) ([(1, .tm 0 [])]))])) =
((((decide ((↑i : Int) < (↑N : Int))) = true → ((ConOK Try.prog (OfNat.ofNat (88 : Nat)) (C88 o (↑i : Int))) ∧ (Con.pre (C88 o (↑i : Int)) ⟨⟨[(.int .i64 (o (0 : Nat))), (.int .i64 (o (1 : Nat))), (.int .i64 (o (2 : Nat))), (.int .i64 (o (3 : Nat))), (.int .i64 (o (4 : Nat))), (.int .i64 (o (5 : Nat))), (.int .i64 (o (6 : Nat))), (.int .i64 ((↑i : Int)))], []⟩, []⟩) ∧ 
(((allFrom (apartI o (↑i : Int)) (7 : Nat) (0 : Nat)) = true → (((bg) = true → ((ConOK Try.prog (OfNat.ofNat (89 : Nat)) (C89 i found)) ∧ (Con.pre (C89 i found) ⟨⟨[(.int .i64 ((↑i : Int))), (.int .i64 ((↑found : Int)))], []⟩, []⟩) ∧ 
(((match false with | true => true | false => decide ((↑(popN i) : Int) > (↑(popN found) : Int))) = true → R 0 .normal ⟨⟨[(.int .i64 ((↑N : Int))), (.int .i64 (IntKind.i64.wrap ((↑i : Int) + (1 : Int)))), (.int .i64 (o (0 : Nat))), (.int .i64 (o (1 : Nat))), (.int .i64 (o (2 : Nat))), (.int .i64 (o (3 : Nat))), (.int .i64 (o (4 : Nat))), (.int .i64 (o (5 : Nat))), (.int .i64 (o (6 : Nat)))], []⟩, [[(.int .i64 ((↑i : Int)))], [(.bool true)]], []⟩) ∧
((match false with | true => true | false => decide ((↑(popN i) : Int) > (↑(popN found) : Int))) = false → R 0 .normal ⟨⟨[(.int .i64 ((↑N : Int))), (.int .i64 (IntKind.i64.wrap ((↑i : Int) + (1 : Int)))), (.int .i64 (o (0 : Nat))), (.int .i64 (o (1 : Nat))), (.int .i64 (o (2 : Nat))), (.int .i64 (o (3 : Nat))), (.int .i64 (o (4 : Nat))), (.int .i64 (o (5 : Nat))), (.int .i64 (o (6 : Nat)))], []⟩, [[(.int .i64 ((↑found : Int)))], [(.bool (bg))]], []⟩)))) ∧
((bg) = false → R 0 .normal ⟨⟨[(.int .i64 ((↑N : Int))), (.int .i64 (IntKind.i64.wrap ((↑i : Int) + (1 : Int)))), (.int .i64 (o (0 : Nat))), (.int .i64 (o (1 : Nat))), (.int .i64 (o (2 : Nat))), (.int .i64 (o (3 : Nat))), (.int .i64 (o (4 : Nat))), (.int .i64 (o (5 : Nat))), (.int .i64 (o (6 : Nat)))], []⟩, [[(.int .i64 ((↑i : Int)))], [(.bool true)]], []⟩))) ∧
((allFrom (apartI o (↑i : Int)) (7 : Nat) (0 : Nat)) = false → R 0 .normal ⟨⟨[(.int .i64 ((↑N : Int))), (.int .i64 (IntKind.i64.wrap ((↑i : Int) + (1 : Int)))), (.int .i64 (o (0 : Nat))), (.int .i64 (o (1 : Nat))), (.int .i64 (o (2 : Nat))), (.int .i64 (o (3 : Nat))), (.int .i64 (o (4 : Nat))), (.int .i64 (o (5 : Nat))), (.int .i64 (o (6 : Nat)))], []⟩, [[(.int .i64 ((↑found : Int)))], [(.bool (bg))]], []⟩)))) ∧
((decide ((↑i : Int) < (↑N : Int))) = false → R 0 (.exit ((0 : Nat))) ⟨⟨[(.int .i64 ((↑N : Int))), (.int .i64 ((↑i : Int))), (.int .i64 (o (0 : Nat))), (.int .i64 (o (1 : Nat))), (.int .i64 (o (2 : Nat))), (.int .i64 (o (3 : Nat))), (.int .i64 (o (4 : Nat))), (.int .i64 (o (5 : Nat))), (.int .i64 (o (6 : Nat)))], []⟩, [[(.int .i64 ((↑found : Int)))], [(.bool (bg))]], []⟩))) := by kernel_rfl

theorem f87 (n N found : Nat) (o : Nat → Int) (R : ARes → Prop) : (vx.call 87 [fitV o, .func (.func 93) ⟨[]⟩ ⟨[pN 0]⟩] (retK R) ⟨fillX [.cells [I n] 3 .ro] 0 .nil, 1⟩ ((12, .val (.int .i64 (IntKind.i64.wrap ((1 : Int) * (2 : Int) ^ n)))) :: (4, Hint.loopW T93 (AExit.exit (0 : Nat)) T93 fun x => st93 o N N found true) :: [])) =
(((((((0 : Int) ≤ (↑n : Int))) ∧ (((↑n : Int) ≤ (↑(64 : Nat) : Int)))) ∧ (((.int .i64 (IntKind.i64.wrap ((1 : Int) * (2 : Int) ^ n))) : Value) = (.int .i64 (IntKind.i64.wrap ((1 : Int) * (2 : Int) ^ n))))) ∧
((ClW ⟨⟨[(.int .i64 (IntKind.i64.wrap (IntKind.i64.wrap (IntKind.i64.wrap ((1 : Int) * (2 : Int) ^ n) - (1 : Int)) + (1 : Int)))), (.int .i64 ((0 : Int))), (.int .i64 (o (0 : Nat))), (.int .i64 (o (1 : Nat))), (.int .i64 (o (2 : Nat))), (.int .i64 (o (3 : Nat))), (.int .i64 (o (4 : Nat))), (.int .i64 (o (5 : Nat))), (.int .i64 (o (6 : Nat)))], []⟩, [[(.int .i64 ((0 : Int)))], [(.bool false)]], []⟩) ∧ (LoopOW Try.prog .none p93 (T93) ⟨⟨[(.int .i64 (IntKind.i64.wrap (IntKind.i64.wrap (IntKind.i64.wrap ((1 : Int) * (2 : Int) ^ n) - (1 : Int)) + (1 : Int)))), (.int .i64 ((0 : Int))), (.int .i64 (o (0 : Nat))), (.int .i64 (o (1 : Nat))), (.int .i64 (o (2 : Nat))), (.int .i64 (o (3 : Nat))), (.int .i64 (o (4 : Nat))), (.int .i64 (o (5 : Nat))), (.int .i64 (o (6 : Nat)))], []⟩, [[(.int .i64 ((0 : Int)))], [(.bool false)]], []⟩ (.exit ((0 : Nat))) (T93) ⟨⟨[(.int .i64 ((↑N : Int))), (.int .i64 ((↑N : Int))), (.int .i64 (o (0 : Nat))), (.int .i64 (o (1 : Nat))), (.int .i64 (o (2 : Nat))), (.int .i64 (o (3 : Nat))), (.int .i64 (o (4 : Nat))), (.int .i64 (o (5 : Nat))), (.int .i64 (o (6 : Nat)))], []⟩, [[(.int .i64 ((↑found : Int)))], [(.bool true)]], []⟩) ∧ 
R (.ret (.int .i64 ((↑found : Int))))))) := by kernel_rfl

theorem pops : ((List.range 128).all fun x => decide (popI (x : Nat) = (popN x : Nat))) = true := by kernel_rfl
theorem popI_eq {x : Nat} (h : x < 128) : popI (x : Nat) = (popN x : Nat) := by
  have := List.all_eq_true.1 pops x (List.mem_range.2 h)
  exact of_decide_eq_true this
theorem C82_ok {x : Nat} (h : x < 128) : ConOK Try.prog 82 (C82 x) := by
  refine con_of vx_sound _ (fun y hy => ?_) rfl (fun y _ => rfl) (fun y hy => ?_) rfl (Nat.le_of_ble_eq_true rfl) (by rw [nglob]; exact Nat.zero_le _)
  · cases hy
    refine ⟨_, (f82 (x : Nat) _).mpr ?_⟩
    show ARes.ret (.int .i64 (popI (x : Nat))) = .ret (I (popN x : Nat))
    rw [popI_eq h]; rfl
  · cases hy
    intro cs hcs
    cases hcs
theorem C89_ok {a b : Nat} (ha : a < 128) (hb : b < 128) : ConOK Try.prog 89 (C89 a b) := by
  refine con_of vx_sound _ (fun y hy => ?_) rfl (fun y _ => rfl) (fun y hy => ?_) rfl (Nat.le_of_ble_eq_true rfl) (by rw [nglob]; exact Nat.zero_le _)
  · cases hy
    have key : ∀ R : ARes → Prop, (∀ v, decide ((popN a : Int) > (popN b : Int)) = v → R (.ret (.bool v))) → ∃ hs, vx.call 89 [I a, I b] (retK R) ⟨.nil, 0⟩ hs := fun R hR =>
      ⟨_, (f89 a b R).mpr ⟨C82_ok ha, rfl, C82_ok hb, rfl, fun h => hR _ h, fun h => hR _ h⟩⟩
    obtain ⟨hs, h⟩ := key (fun r => r = .ret (.bool (decide ((popN a : Int) > (popN b : Int))))) fun v hv => by rw [hv]
    exact ⟨hs, h⟩
  · cases hy
    intro cs hcs
    cases hcs
section
variable {o : Nat → Int}
theorem cl88 (s : Int) (i : Nat) : ClW (st88 o s i) := ⟨fun cs h => (by cases h), fun cs h => (by cases h)⟩
noncomputable def ex88 (o : Nat → Int) (s : Int) (i : Nat) : Option (AExit × Nat × Hw) := if apartI o s i = true then none else some (.ret, 1, ⟨⟨[.bool false], []⟩, [], []⟩)
theorem agg83 : tAgg Try.prog 83 = some false := by kernel_rfl
theorem part88 {i : Nat} (hi : i < 7) : partV Try.prog 83 [I (o 0), I (o 1), I (o 2), I (o 3), I (o 4), I (o 5), I (o 6)] (i * 1) = some (I (o i)) := by
  simp only [partV, agg83]
  have := ints_get (n := 7) o hi
  rw [Nat.zero_add] at this
  exact this
theorem loop88 (s : Int) {T1 : Tw} (h1 : [T88, R88][(runX (ex88 o s) (.exit 0, 0, st88 o s 7) 7 0).2.1]? = some T1) :
    LoopOW Try.prog none p88 T88 (st88 o s 0) (runX (ex88 o s) (.exit 0, 0, st88 o s 7) 7 0).1 T1 (runX (ex88 o s) (.exit 0, 0, st88 o s 7) 7 0).2.2 := by
  refine loop_untilW (Ts := [T88, R88]) (k := 1) (n := 7) (st := fun i => (0, st88 o s i)) (e := .exit 0) (ex := ex88 o s) rfl vx_sound ?_ (by rw [nglob]; omega) ⟨by simp, trivial⟩ (fun i _ => cl88 s i) (fun i x hi hx => ?_) (fun i hi R h1 h2 => ?_) (fun R hR => ?_) (Nat.zero_le 7) rfl (Nat.le_of_ble_eq_true rfl) (by decide) h1
  · intro T hT
    simp only [List.mem_cons, List.not_mem_nil, or_false] at hT
    rcases hT with rfl | rfl <;> rfl
  · unfold ex88 at hx
    split at hx
    · cases hx
    · cases hx
      exact ⟨by simp, trivial, fun cs h => (by cases h), fun cs h => (by cases h)⟩
  · have hw : IntKind.i64.wrap ((i : Int) + 1) = ((i + 1 : Nat) : Int) := wrapI (by omega) (by omega)
    refine ⟨T88, _, rfl, (b88 i s o R).mpr ⟨fun _ => ⟨⟨⟨by omega, by omega⟩, part88 hi⟩, ⟨⟨by omega, by omega⟩, rfl⟩, fun hA => ⟨fun hB => ?_, fun hB => ?_⟩, fun hA => ?_⟩, fun h => absurd (show ((i : Nat) : Int) < 7 by omega) (of_decide_eq_false h)⟩⟩
    · have hA : hasI s i = true := hA
      exact h2 (.ret, 1, _) (by simp only [ex88, apartI, hA, hB, Bool.true_and, Bool.not_true, Bool.false_eq_true, if_false])
    · have hA : hasI s i = true := hA
      rw [hw]
      exact h1 (by simp only [ex88, apartI, hA, hB, Bool.true_and, Bool.not_false, if_true])
    · have hA : hasI s i = false := hA
      rw [hw]
      exact h1 (by simp only [ex88, apartI, hA, Bool.false_and, Bool.not_false, if_true])
  · exact ⟨T88, _, rfl, (b88 7 s o R).mpr ⟨fun h => absurd (of_decide_eq_true h) (by omega), fun _ => hR⟩⟩
theorem run88 (s : Int) (fin : AExit × Nat × Hw) (r : Nat) : ∀ i, runX (ex88 o s) fin r i = if allFrom (apartI o s) r i then fin else (.ret, 1, ⟨⟨[.bool false], []⟩, [], []⟩) := by
  induction r with
  | zero => intro i; rfl
  | succ r ih =>
    intro i
    simp only [runX, ex88, allFrom]
    by_cases h : apartI o s i = true
    · rw [if_pos h]
      simp only [h, Bool.true_and]
      exact ih (i + 1)
    · rw [if_neg h]
      have h2 : apartI o s i = false := by simpa using h
      simp only [h2, Bool.false_and, Bool.false_eq_true, if_false]
theorem C88_ok (s : Int) : ConOK Try.prog 88 (C88 o s) := by
  refine con_of vx_sound _ (fun x hx => ?_) rfl (fun x _ => rfl) (fun x hx => ?_) rfl (Nat.le_of_ble_eq_true rfl) (by rw [nglob]; exact Nat.zero_le _)
  · cases hx
    have hl := fun T1 => loop88 (o := o) (T1 := T1) s
    rw [run88] at hl
    show ∃ hs, vx.call 88 [.agg ⟨ints 7 o⟩, I s] (retK fun r => r = .ret (.bool (allFrom (apartI o s) 7 0))) ⟨.nil, 0⟩ hs
    cases hb : allFrom (apartI o s) 7 0 with
    | true =>
      rw [hb] at hl
      exact ⟨_, (f88t s o _).mpr ⟨cl88 s 0, hl T88 rfl, rfl⟩⟩
    | false =>
      rw [hb] at hl
      exact ⟨_, (f88f s o _).mpr ⟨cl88 s 0, hl R88 rfl, rfl⟩⟩
  · cases hx
    intro cs hcs
    cases hcs
/-- The best set so far, of those below a number: the first of the largest. -/
def bestF (o : Nat → Int) : Nat → Nat
  | 0 => 0
  | s + 1 => if allFrom (apartI o (s : Int)) 7 0 && decide (popN (bestF o s) < popN s) then s else bestF o s
theorem bestF_lt (s N : Nat) (h : s ≤ N) (hN : 0 < N) : bestF o s < N := by
  induction s with
  | zero => exact hN
  | succ s ih =>
    simp only [bestF]
    split
    · omega
    · exact ih (by omega)
theorem clB (N i found : Nat) (bg : Bool) : ClW (st93 o N i found bg) := by
  refine ⟨fun cs hcs v hv => ?_, fun es hes => (by cases hes)⟩
  simp only [st93, List.mem_cons, List.not_mem_nil, or_false] at hcs
  rcases hcs with rfl | rfl
  · simp only [List.mem_cons, List.not_mem_nil, or_false] at hv; subst hv; rfl
  · simp only [List.mem_cons, List.not_mem_nil, or_false] at hv; subst hv; rfl
theorem apart0 (i : Nat) : apartI o 0 i = true := by
  have h0 : hasI 0 i = false := by
    have := hasI_mask 0 i (by decide)
    simpa using this
  simp only [apartI, h0, Bool.false_and, Bool.not_false]
theorem loop93 {N : Nat} (hN : N ≤ 128) (h0 : 0 < N) : LoopOW Try.prog none p93 T93 (st93 o N 0 0 false) (.exit 0) T93 (st93 o N N (bestF o N) true) := by
  have hend : st93 o N N (bestF o N) true = st93 o N N (bestF o N) (decide (0 < N)) := by simp [h0]
  rw [hend]
  refine loop_forW (Ts := [T93]) (k := 6) (n := N) (e := .exit 0) (st := fun j => (0, st93 o N j (bestF o j) (decide (0 < j)))) rfl vx_sound ?_ (by rw [nglob]; omega) ⟨by simp, trivial⟩ (fun j _ => clB N j _ _) (fun j hj R hR => ?_) (fun R hR => ?_) rfl (Nat.le_of_ble_eq_true rfl) (by decide) rfl
  · intro T hT; simp only [List.mem_singleton] at hT; subst hT; rfl
  · have hw : IntKind.i64.wrap ((j : Int) + 1) = ((j + 1 : Nat) : Int) := wrapI (by omega) (by omega)
    have hb := bestF_lt (o := o) j N (by omega) h0
    have hR2 : R 0 .normal (st93 o N (j + 1) (bestF o (j + 1)) true) := by
      have : decide (0 < j + 1) = true := by simp
      rw [← this]; exact hR
    refine ⟨T93, _, rfl, (b93 N j (bestF o j) (decide (0 < j)) o R).mpr ⟨fun _ => ⟨C88_ok _, rfl, fun hA => ⟨fun hB => ⟨C89_ok (by omega) (by omega), rfl, fun hC => ?_, fun hC => ?_⟩, fun hB => ?_⟩, fun hA => ?_⟩, fun h => absurd (by omega) (of_decide_eq_false h)⟩⟩
    · rw [hw]
      have hC : decide ((popN j : Int) > (popN (bestF o j) : Int)) = true := hC
      have hC := of_decide_eq_true hC
      have : bestF o (j + 1) = j := by
        simp only [bestF, hA, Bool.true_and]
        rw [if_pos (decide_eq_true (by omega))]
      rw [this] at hR2
      exact hR2
    · rw [hw]
      have hC : decide ((popN j : Int) > (popN (bestF o j) : Int)) = false := hC
      have hC := of_decide_eq_false hC
      have : bestF o (j + 1) = bestF o j := by
        simp only [bestF, hA, Bool.true_and]
        rw [if_neg (by simp; omega)]
      rw [this] at hR2
      have e : decide (0 < j) = true := hB
      rw [e]
      exact hR2
    · rw [hw]
      have e : ¬ 0 < j := of_decide_eq_false hB
      have e0 : j = 0 := by omega
      subst e0
      have : bestF o (0 + 1) = 0 := by simp [bestF]
      rw [this] at hR2
      exact hR2
    · rw [hw]
      have e0 : 0 < j := by
        rcases Nat.eq_zero_or_pos j with h | h
        · subst h
          have : allFrom (apartI o ((0 : Nat) : Int)) 7 0 = true := by
            simp only [allFrom, Int.natCast_zero, apart0, Bool.true_and]
          rw [this] at hA; cases hA
        · exact h
      have : bestF o (j + 1) = bestF o j := by simp [bestF, hA]
      rw [this] at hR2
      have e : decide (0 < j) = true := by simp [e0]
      rw [e]
      exact hR2
  · exact ⟨T93, _, rfl, (b93 N N (bestF o N) (decide (0 < N)) o R).mpr ⟨fun h => absurd (of_decide_eq_true h) (by omega), fun _ => hR⟩⟩
end
end Go.Ab

/- package horse: Proof, and Fewest. -/
set_option maxRecDepth 100000
namespace Go.Ab
open Go Go.RowKit Go.Proofs
theorem f25t (p : Int) (n c found : Nat) (f : Nat → Mv) (R : ARes → Prop) : (vx.call 25 [hV p n c, .bool true] (retK R) (m1 (mvs n f)) ((19, Hint.con (C68t p n c f)) :: (19, Hint.again) :: (0, Hint.con (C44 true p n c f)) :: (0, Hint.again) :: (16, Hint.again) :: (0, Hint.con (C87 n (ordF true p n f n) found)) :: [])) =
(((ConOK Try.prog ((68 : Nat)) (C68t p n c f)) ∧ (Con.pre (C68t p n c f) ⟨⟨[(.int .i64 (p))], [⟨(n), (c)⟩]⟩, [(mvs n f)]⟩) ∧ 
((((((2 : Nat) ≤ (2 : Nat))) ∧ (((.agg ⟨[(.int .i64 (p)), (.slice (.some ⟨0, 0, .none⟩) (n) (c))]⟩) : Value) = (.agg ⟨[(.int .i64 (p)), (.slice (.some ⟨0, 0, .none⟩) (n) (c))]⟩))) ∧ (((((2 : Nat) ≤ (2 : Nat))) ∧ (((.agg ⟨[(.int .i64 (p)), (.slice (.some ⟨0, 0, .none⟩) (n) (c))]⟩) : Value) = (.agg ⟨[(.int .i64 (p)), (.slice (.some ⟨0, 0, .none⟩) (n) (c))]⟩))) ∧ (True))) ∧ 
((ConOK Try.prog ((44 : Nat)) (C44 true p n c f)) ∧ (Con.pre (C44 true p n c f) ⟨⟨[(.int .i64 (p))], [⟨(n), (c)⟩]⟩, [(mvs n f)]⟩) ∧ 
((((((2 : Nat) ≤ (2 : Nat))) ∧ (((.agg ⟨[(.int .i64 (p)), (.slice (.some ⟨0, 0, .none⟩) (n) (c))]⟩) : Value) = (.agg ⟨[(.int .i64 (p)), (.slice (.some ⟨0, 0, .none⟩) (n) (c))]⟩))) ∧ (True)) ∧ 
((((((7 : Nat) ≤ (7 : Nat))) ∧ (((.agg ⟨[(.int .i64 (ordF true p n f n (0 : Nat))), (.int .i64 (ordF true p n f n (1 : Nat))), (.int .i64 (ordF true p n f n (2 : Nat))), (.int .i64 (ordF true p n f n (3 : Nat))), (.int .i64 (ordF true p n f n (4 : Nat))), (.int .i64 (ordF true p n f n (5 : Nat))), (.int .i64 (ordF true p n f n (6 : Nat)))]⟩) : Value) = (.agg ⟨[(.int .i64 (ordF true p n f n (0 : Nat))), (.int .i64 (ordF true p n f n (1 : Nat))), (.int .i64 (ordF true p n f n (2 : Nat))), (.int .i64 (ordF true p n f n (3 : Nat))), (.int .i64 (ordF true p n f n (4 : Nat))), (.int .i64 (ordF true p n f n (5 : Nat))), (.int .i64 (ordF true p n f n (6 : Nat)))]⟩))) ∧ (True)) ∧ 
((ConOK Try.prog ((87 : Nat)) (C87 n (ordF true p n f n) found)) ∧ (Con.pre (C87 n (ordF true p n f n) found) ⟨⟨[(.int .i64 (ordF true p n f n (0 : Nat))), (.int .i64 (ordF true p n f n (1 : Nat))), (.int .i64 (ordF true p n f n (2 : Nat))), (.int .i64 (ordF true p n f n (3 : Nat))), (.int .i64 (ordF true p n f n (4 : Nat))), (.int .i64 (ordF true p n f n (5 : Nat))), (.int .i64 (ordF true p n f n (6 : Nat))), (.int .i64 ((↑n : Int)))], []⟩, []⟩) ∧ 
R (.ret (.tuple ⟨[(.int .i64 ((↑found : Int))), (.int .i64 ((0 : Int)))]⟩))))))))) := by kernel_rfl

theorem f25f (p : Int) (n c found : Nat) (f : Nat → Mv) (R : ARes → Prop) : (vx.call 25 [hV p n c, .bool false] (retK R) (m1 (mvs n f)) ((19, Hint.con (C68t p n c f)) :: (19, Hint.again) :: (0, Hint.con (C44 false p n c f)) :: (0, Hint.again) :: (16, Hint.again) :: (0, Hint.con (C87 n (ordF false p n f n) found)) :: [])) =
(((ConOK Try.prog ((68 : Nat)) (C68t p n c f)) ∧ (Con.pre (C68t p n c f) ⟨⟨[(.int .i64 (p))], [⟨(n), (c)⟩]⟩, [(mvs n f)]⟩) ∧ 
((((((2 : Nat) ≤ (2 : Nat))) ∧ (((.agg ⟨[(.int .i64 (p)), (.slice (.some ⟨0, 0, .none⟩) (n) (c))]⟩) : Value) = (.agg ⟨[(.int .i64 (p)), (.slice (.some ⟨0, 0, .none⟩) (n) (c))]⟩))) ∧ (((((2 : Nat) ≤ (2 : Nat))) ∧ (((.agg ⟨[(.int .i64 (p)), (.slice (.some ⟨0, 0, .none⟩) (n) (c))]⟩) : Value) = (.agg ⟨[(.int .i64 (p)), (.slice (.some ⟨0, 0, .none⟩) (n) (c))]⟩))) ∧ (True))) ∧ 
((ConOK Try.prog ((44 : Nat)) (C44 false p n c f)) ∧ (Con.pre (C44 false p n c f) ⟨⟨[(.int .i64 (p))], [⟨(n), (c)⟩]⟩, [(mvs n f)]⟩) ∧ 
((((((2 : Nat) ≤ (2 : Nat))) ∧ (((.agg ⟨[(.int .i64 (p)), (.slice (.some ⟨0, 0, .none⟩) (n) (c))]⟩) : Value) = (.agg ⟨[(.int .i64 (p)), (.slice (.some ⟨0, 0, .none⟩) (n) (c))]⟩))) ∧ (True)) ∧ 
((((((7 : Nat) ≤ (7 : Nat))) ∧ (((.agg ⟨[(.int .i64 (ordF false p n f n (0 : Nat))), (.int .i64 (ordF false p n f n (1 : Nat))), (.int .i64 (ordF false p n f n (2 : Nat))), (.int .i64 (ordF false p n f n (3 : Nat))), (.int .i64 (ordF false p n f n (4 : Nat))), (.int .i64 (ordF false p n f n (5 : Nat))), (.int .i64 (ordF false p n f n (6 : Nat)))]⟩) : Value) = (.agg ⟨[(.int .i64 (ordF false p n f n (0 : Nat))), (.int .i64 (ordF false p n f n (1 : Nat))), (.int .i64 (ordF false p n f n (2 : Nat))), (.int .i64 (ordF false p n f n (3 : Nat))), (.int .i64 (ordF false p n f n (4 : Nat))), (.int .i64 (ordF false p n f n (5 : Nat))), (.int .i64 (ordF false p n f n (6 : Nat)))]⟩))) ∧ (True)) ∧ 
((ConOK Try.prog ((87 : Nat)) (C87 n (ordF false p n f n) found)) ∧ (Con.pre (C87 n (ordF false p n f n) found) ⟨⟨[(.int .i64 (ordF false p n f n (0 : Nat))), (.int .i64 (ordF false p n f n (1 : Nat))), (.int .i64 (ordF false p n f n (2 : Nat))), (.int .i64 (ordF false p n f n (3 : Nat))), (.int .i64 (ordF false p n f n (4 : Nat))), (.int .i64 (ordF false p n f n (5 : Nat))), (.int .i64 (ordF false p n f n (6 : Nat))), (.int .i64 ((↑n : Int)))], []⟩, []⟩) ∧ 
R (.ret (.tuple ⟨[(.int .i64 ((↑found : Int))), (.int .i64 ((0 : Int)))]⟩))))))))) := by kernel_rfl

theorem f24t (p : Int) (n c many : Nat) (f : Nat → Mv) (pl : List Value) (R : Hx → Prop) : (vx.call 24 [hV p n c, .bool true] (retN (rowT3 1 3) R) (m1 (mvs n f)) ((20, Hint.con (C68t p n c f)) :: (19, Hint.again) :: (0, Hint.con (C44 true p n c f)) :: (0, Hint.again) :: (7, Hint.conN (C49 p n c f)) :: (0, Hint.again) :: (0, Hint.con (C83c (ordF true p n f n) n n (jobsC n f) many)) :: (5, Hint.conN (C86c p n c (mvs n f) (ordF true p n f n) many pl)) :: [(21, Hint.tm (0 : Nat) [((1 : Nat), (13 : Nat))])])) =
(((ConOK Try.prog ((68 : Nat)) (C68t p n c f)) ∧ (Con.pre (C68t p n c f) ⟨⟨[(.int .i64 (p))], [⟨(n), (c)⟩]⟩, [(mvs n f)]⟩) ∧ 
((((((2 : Nat) ≤ (2 : Nat))) ∧ (((.agg ⟨[(.int .i64 (p)), (.slice (.some ⟨0, 0, .none⟩) (n) (c))]⟩) : Value) = (.agg ⟨[(.int .i64 (p)), (.slice (.some ⟨0, 0, .none⟩) (n) (c))]⟩))) ∧ (((((2 : Nat) ≤ (2 : Nat))) ∧ (((.agg ⟨[(.int .i64 (p)), (.slice (.some ⟨0, 0, .none⟩) (n) (c))]⟩) : Value) = (.agg ⟨[(.int .i64 (p)), (.slice (.some ⟨0, 0, .none⟩) (n) (c))]⟩))) ∧ (True))) ∧ 
((ConOK Try.prog ((44 : Nat)) (C44 true p n c f)) ∧ (Con.pre (C44 true p n c f) ⟨⟨[(.int .i64 (p))], [⟨(n), (c)⟩]⟩, [(mvs n f)]⟩) ∧ 
((((((2 : Nat) ≤ (2 : Nat))) ∧ (((.agg ⟨[(.int .i64 (p)), (.slice (.some ⟨0, 0, .none⟩) (n) (c))]⟩) : Value) = (.agg ⟨[(.int .i64 (p)), (.slice (.some ⟨0, 0, .none⟩) (n) (c))]⟩))) ∧ (True)) ∧ 
((ConNOK Try.prog ((49 : Nat)) (C49 p n c f)) ∧ (ConN.pre (C49 p n c f) ⟨⟨[(.int .i64 (p))], [⟨(n), (c)⟩]⟩, [(mvs n f)]⟩) ∧ 
((((((7 : Nat) ≤ (7 : Nat))) ∧ (((.agg ⟨[(.int .i64 (ordF true p n f n (0 : Nat))), (.int .i64 (ordF true p n f n (1 : Nat))), (.int .i64 (ordF true p n f n (2 : Nat))), (.int .i64 (ordF true p n f n (3 : Nat))), (.int .i64 (ordF true p n f n (4 : Nat))), (.int .i64 (ordF true p n f n (5 : Nat))), (.int .i64 (ordF true p n f n (6 : Nat)))]⟩) : Value) = (.agg ⟨[(.int .i64 (ordF true p n f n (0 : Nat))), (.int .i64 (ordF true p n f n (1 : Nat))), (.int .i64 (ordF true p n f n (2 : Nat))), (.int .i64 (ordF true p n f n (3 : Nat))), (.int .i64 (ordF true p n f n (4 : Nat))), (.int .i64 (ordF true p n f n (5 : Nat))), (.int .i64 (ordF true p n f n (6 : Nat)))]⟩))) ∧ (True)) ∧ 
((ConOK Try.prog ((83 : Nat)) (C83c (ordF true p n f n) n n (jobsC n f) many)) ∧ (Con.pre (C83c (ordF true p n f n) n n (jobsC n f) many) ⟨⟨[(.int .i64 (ordF true p n f n (0 : Nat))), (.int .i64 (ordF true p n f n (1 : Nat))), (.int .i64 (ordF true p n f n (2 : Nat))), (.int .i64 (ordF true p n f n (3 : Nat))), (.int .i64 (ordF true p n f n (4 : Nat))), (.int .i64 (ordF true p n f n (5 : Nat))), (.int .i64 (ordF true p n f n (6 : Nat)))], [⟨(n), (n)⟩]⟩, [(jobsC n f)]⟩) ∧ 
((ConNOK Try.prog ((86 : Nat)) (C86c p n c (mvs n f) (ordF true p n f n) many pl)) ∧ (ConN.pre (C86c p n c (mvs n f) (ordF true p n f n) many pl) ⟨⟨[(.int .i64 (p)), (.int .i64 (ordF true p n f n (0 : Nat))), (.int .i64 (ordF true p n f n (1 : Nat))), (.int .i64 (ordF true p n f n (2 : Nat))), (.int .i64 (ordF true p n f n (3 : Nat))), (.int .i64 (ordF true p n f n (4 : Nat))), (.int .i64 (ordF true p n f n (5 : Nat))), (.int .i64 (ordF true p n f n (6 : Nat))), (.int .i64 ((↑many : Int)))], [⟨(n), (c)⟩]⟩, [(mvs n f)]⟩) ∧ 
R ⟨⟨[(.int .i64 ((↑many : Int))), (.int .i64 ((0 : Int)))], [⟨(n), (n)⟩]⟩, [(pl)]⟩))))))))) := by kernel_rfl

theorem f24f (p : Int) (n c many : Nat) (f : Nat → Mv) (pl : List Value) (R : Hx → Prop) : (vx.call 24 [hV p n c, .bool false] (retN (rowT3 1 3) R) (m1 (mvs n f)) ((20, Hint.con (C68t p n c f)) :: (19, Hint.again) :: (0, Hint.con (C44 false p n c f)) :: (0, Hint.again) :: (7, Hint.conN (C49 p n c f)) :: (0, Hint.again) :: (0, Hint.con (C83c (ordF false p n f n) n n (jobsC n f) many)) :: (5, Hint.conN (C86c p n c (mvs n f) (ordF false p n f n) many pl)) :: [(21, Hint.tm (0 : Nat) [((1 : Nat), (13 : Nat))])])) =
(((ConOK Try.prog ((68 : Nat)) (C68t p n c f)) ∧ (Con.pre (C68t p n c f) ⟨⟨[(.int .i64 (p))], [⟨(n), (c)⟩]⟩, [(mvs n f)]⟩) ∧ 
((((((2 : Nat) ≤ (2 : Nat))) ∧ (((.agg ⟨[(.int .i64 (p)), (.slice (.some ⟨0, 0, .none⟩) (n) (c))]⟩) : Value) = (.agg ⟨[(.int .i64 (p)), (.slice (.some ⟨0, 0, .none⟩) (n) (c))]⟩))) ∧ (((((2 : Nat) ≤ (2 : Nat))) ∧ (((.agg ⟨[(.int .i64 (p)), (.slice (.some ⟨0, 0, .none⟩) (n) (c))]⟩) : Value) = (.agg ⟨[(.int .i64 (p)), (.slice (.some ⟨0, 0, .none⟩) (n) (c))]⟩))) ∧ (True))) ∧ 
((ConOK Try.prog ((44 : Nat)) (C44 false p n c f)) ∧ (Con.pre (C44 false p n c f) ⟨⟨[(.int .i64 (p))], [⟨(n), (c)⟩]⟩, [(mvs n f)]⟩) ∧ 
((((((2 : Nat) ≤ (2 : Nat))) ∧ (((.agg ⟨[(.int .i64 (p)), (.slice (.some ⟨0, 0, .none⟩) (n) (c))]⟩) : Value) = (.agg ⟨[(.int .i64 (p)), (.slice (.some ⟨0, 0, .none⟩) (n) (c))]⟩))) ∧ (True)) ∧ 
((ConNOK Try.prog ((49 : Nat)) (C49 p n c f)) ∧ (ConN.pre (C49 p n c f) ⟨⟨[(.int .i64 (p))], [⟨(n), (c)⟩]⟩, [(mvs n f)]⟩) ∧ 
((((((7 : Nat) ≤ (7 : Nat))) ∧ (((.agg ⟨[(.int .i64 (ordF false p n f n (0 : Nat))), (.int .i64 (ordF false p n f n (1 : Nat))), (.int .i64 (ordF false p n f n (2 : Nat))), (.int .i64 (ordF false p n f n (3 : Nat))), (.int .i64 (ordF false p n f n (4 : Nat))), (.int .i64 (ordF false p n f n (5 : Nat))), (.int .i64 (ordF false p n f n (6 : Nat)))]⟩) : Value) = (.agg ⟨[(.int .i64 (ordF false p n f n (0 : Nat))), (.int .i64 (ordF false p n f n (1 : Nat))), (.int .i64 (ordF false p n f n (2 : Nat))), (.int .i64 (ordF false p n f n (3 : Nat))), (.int .i64 (ordF false p n f n (4 : Nat))), (.int .i64 (ordF false p n f n (5 : Nat))), (.int .i64 (ordF false p n f n (6 : Nat)))]⟩))) ∧ (True)) ∧ 
((ConOK Try.prog ((83 : Nat)) (C83c (ordF false p n f n) n n (jobsC n f) many)) ∧ (Con.pre (C83c (ordF false p n f n) n n (jobsC n f) many) ⟨⟨[(.int .i64 (ordF false p n f n (0 : Nat))), (.int .i64 (ordF false p n f n (1 : Nat))), (.int .i64 (ordF false p n f n (2 : Nat))), (.int .i64 (ordF false p n f n (3 : Nat))), (.int .i64 (ordF false p n f n (4 : Nat))), (.int .i64 (ordF false p n f n (5 : Nat))), (.int .i64 (ordF false p n f n (6 : Nat)))], [⟨(n), (n)⟩]⟩, [(jobsC n f)]⟩) ∧ 
((ConNOK Try.prog ((86 : Nat)) (C86c p n c (mvs n f) (ordF false p n f n) many pl)) ∧ (ConN.pre (C86c p n c (mvs n f) (ordF false p n f n) many pl) ⟨⟨[(.int .i64 (p)), (.int .i64 (ordF false p n f n (0 : Nat))), (.int .i64 (ordF false p n f n (1 : Nat))), (.int .i64 (ordF false p n f n (2 : Nat))), (.int .i64 (ordF false p n f n (3 : Nat))), (.int .i64 (ordF false p n f n (4 : Nat))), (.int .i64 (ordF false p n f n (5 : Nat))), (.int .i64 (ordF false p n f n (6 : Nat))), (.int .i64 ((↑many : Int)))], [⟨(n), (c)⟩]⟩, [(mvs n f)]⟩) ∧ 
R ⟨⟨[(.int .i64 ((↑many : Int))), (.int .i64 ((0 : Int)))], [⟨(n), (n)⟩]⟩, [(pl)]⟩))))))))) := by kernel_rfl

theorem f86_1 (p : Int) (c many : Nat) (b : Bool) (ms : List Value) (o D2 P2 : Nat → Int) (R : Hx → Prop) : (vx.call 86 [hV p 1 c, .agg ⟨ints 7 o⟩, I many] (retN (rowT 1 3) R) (m1 ms) ((11, Hint.conW (CW96 p (1 : Nat) c many o (0 : Int) (ints (7 : Nat) fun x => (0 : Int)) (ints (7 : Nat) fun x => (0 : Int)) b (ints (7 : Nat) D2) (ints (7 : Nat) P2))) :: [(11, Hint.tm (0 : Nat) [((1 : Nat), (7 : Nat))])])) =
(((ConWOK Try.prog ((96 : Nat)) (CW96 p (1 : Nat) c many o (0 : Int) [Value.int .i64 (0 : Int), Value.int .i64 (0 : Int), Value.int .i64 (0 : Int), Value.int .i64 (0 : Int), Value.int .i64 (0 : Int), Value.int .i64 (0 : Int), Value.int .i64 (0 : Int)] [Value.int .i64 (0 : Int), Value.int .i64 (0 : Int), Value.int .i64 (0 : Int), Value.int .i64 (0 : Int), Value.int .i64 (0 : Int), Value.int .i64 (0 : Int), Value.int .i64 (0 : Int)] b [Value.int .i64 (D2 (0 : Nat)), Value.int .i64 (D2 (1 : Nat)), Value.int .i64 (D2 (2 : Nat)), Value.int .i64 (D2 (3 : Nat)), Value.int .i64 (D2 (4 : Nat)), Value.int .i64 (D2 (5 : Nat)), Value.int .i64 (D2 (6 : Nat))] [Value.int .i64 (P2 (0 : Nat)), Value.int .i64 (P2 (1 : Nat)), Value.int .i64 (P2 (2 : Nat)), Value.int .i64 (P2 (3 : Nat)), Value.int .i64 (P2 (4 : Nat)), Value.int .i64 (P2 (5 : Nat)), Value.int .i64 (P2 (6 : Nat))])) ∧ (ConW.pre (CW96 p (1 : Nat) c many o (0 : Int) [Value.int .i64 (0 : Int), Value.int .i64 (0 : Int), Value.int .i64 (0 : Int), Value.int .i64 (0 : Int), Value.int .i64 (0 : Int), Value.int .i64 (0 : Int), Value.int .i64 (0 : Int)] [Value.int .i64 (0 : Int), Value.int .i64 (0 : Int), Value.int .i64 (0 : Int), Value.int .i64 (0 : Int), Value.int .i64 (0 : Int), Value.int .i64 (0 : Int), Value.int .i64 (0 : Int)] b [Value.int .i64 (D2 (0 : Nat)), Value.int .i64 (D2 (1 : Nat)), Value.int .i64 (D2 (2 : Nat)), Value.int .i64 (D2 (3 : Nat)), Value.int .i64 (D2 (4 : Nat)), Value.int .i64 (D2 (5 : Nat)), Value.int .i64 (D2 (6 : Nat))] [Value.int .i64 (P2 (0 : Nat)), Value.int .i64 (P2 (1 : Nat)), Value.int .i64 (P2 (2 : Nat)), Value.int .i64 (P2 (3 : Nat)), Value.int .i64 (P2 (4 : Nat)), Value.int .i64 (P2 (5 : Nat)), Value.int .i64 (P2 (6 : Nat))]) ⟨⟨[(.int .i64 ((0 : Int))), (.int .i64 (p)), (.int .i64 ((↑many : Int))), (.int .i64 (o (0 : Nat))), (.int .i64 (o (1 : Nat))), (.int .i64 (o (2 : Nat))), (.int .i64 (o (3 : Nat))), (.int .i64 (o (4 : Nat))), (.int .i64 (o (5 : Nat))), (.int .i64 (o (6 : Nat)))], [⟨((1 : Nat)), (c)⟩]⟩, [[(.int .i64 ((0 : Int))), (.int .i64 ((0 : Int))), (.int .i64 ((0 : Int))), (.int .i64 ((0 : Int))), (.int .i64 ((0 : Int))), (.int .i64 ((0 : Int))), (.int .i64 ((0 : Int)))], [(.int .i64 ((0 : Int))), (.int .i64 ((0 : Int))), (.int .i64 ((0 : Int))), (.int .i64 ((0 : Int))), (.int .i64 ((0 : Int))), (.int .i64 ((0 : Int))), (.int .i64 ((0 : Int)))]], []⟩) ∧ 
R ⟨⟨[], [⟨((1 : Nat)), ((1 : Nat))⟩]⟩, [[(.int .i64 (P2 (0 : Nat)))]]⟩)) := by kernel_rfl

theorem f86_2 (p : Int) (c many : Nat) (b : Bool) (ms : List Value) (o D2 P2 : Nat → Int) (R : Hx → Prop) : (vx.call 86 [hV p 2 c, .agg ⟨ints 7 o⟩, I many] (retN (rowT 1 3) R) (m1 ms) ((11, Hint.conW (CW96 p (2 : Nat) c many o (0 : Int) (ints (7 : Nat) fun x => (0 : Int)) (ints (7 : Nat) fun x => (0 : Int)) b (ints (7 : Nat) D2) (ints (7 : Nat) P2))) :: [(11, Hint.tm (0 : Nat) [((1 : Nat), (7 : Nat))])])) =
(((ConWOK Try.prog ((96 : Nat)) (CW96 p (2 : Nat) c many o (0 : Int) [Value.int .i64 (0 : Int), Value.int .i64 (0 : Int), Value.int .i64 (0 : Int), Value.int .i64 (0 : Int), Value.int .i64 (0 : Int), Value.int .i64 (0 : Int), Value.int .i64 (0 : Int)] [Value.int .i64 (0 : Int), Value.int .i64 (0 : Int), Value.int .i64 (0 : Int), Value.int .i64 (0 : Int), Value.int .i64 (0 : Int), Value.int .i64 (0 : Int), Value.int .i64 (0 : Int)] b [Value.int .i64 (D2 (0 : Nat)), Value.int .i64 (D2 (1 : Nat)), Value.int .i64 (D2 (2 : Nat)), Value.int .i64 (D2 (3 : Nat)), Value.int .i64 (D2 (4 : Nat)), Value.int .i64 (D2 (5 : Nat)), Value.int .i64 (D2 (6 : Nat))] [Value.int .i64 (P2 (0 : Nat)), Value.int .i64 (P2 (1 : Nat)), Value.int .i64 (P2 (2 : Nat)), Value.int .i64 (P2 (3 : Nat)), Value.int .i64 (P2 (4 : Nat)), Value.int .i64 (P2 (5 : Nat)), Value.int .i64 (P2 (6 : Nat))])) ∧ (ConW.pre (CW96 p (2 : Nat) c many o (0 : Int) [Value.int .i64 (0 : Int), Value.int .i64 (0 : Int), Value.int .i64 (0 : Int), Value.int .i64 (0 : Int), Value.int .i64 (0 : Int), Value.int .i64 (0 : Int), Value.int .i64 (0 : Int)] [Value.int .i64 (0 : Int), Value.int .i64 (0 : Int), Value.int .i64 (0 : Int), Value.int .i64 (0 : Int), Value.int .i64 (0 : Int), Value.int .i64 (0 : Int), Value.int .i64 (0 : Int)] b [Value.int .i64 (D2 (0 : Nat)), Value.int .i64 (D2 (1 : Nat)), Value.int .i64 (D2 (2 : Nat)), Value.int .i64 (D2 (3 : Nat)), Value.int .i64 (D2 (4 : Nat)), Value.int .i64 (D2 (5 : Nat)), Value.int .i64 (D2 (6 : Nat))] [Value.int .i64 (P2 (0 : Nat)), Value.int .i64 (P2 (1 : Nat)), Value.int .i64 (P2 (2 : Nat)), Value.int .i64 (P2 (3 : Nat)), Value.int .i64 (P2 (4 : Nat)), Value.int .i64 (P2 (5 : Nat)), Value.int .i64 (P2 (6 : Nat))]) ⟨⟨[(.int .i64 ((0 : Int))), (.int .i64 (p)), (.int .i64 ((↑many : Int))), (.int .i64 (o (0 : Nat))), (.int .i64 (o (1 : Nat))), (.int .i64 (o (2 : Nat))), (.int .i64 (o (3 : Nat))), (.int .i64 (o (4 : Nat))), (.int .i64 (o (5 : Nat))), (.int .i64 (o (6 : Nat)))], [⟨((2 : Nat)), (c)⟩]⟩, [[(.int .i64 ((0 : Int))), (.int .i64 ((0 : Int))), (.int .i64 ((0 : Int))), (.int .i64 ((0 : Int))), (.int .i64 ((0 : Int))), (.int .i64 ((0 : Int))), (.int .i64 ((0 : Int)))], [(.int .i64 ((0 : Int))), (.int .i64 ((0 : Int))), (.int .i64 ((0 : Int))), (.int .i64 ((0 : Int))), (.int .i64 ((0 : Int))), (.int .i64 ((0 : Int))), (.int .i64 ((0 : Int)))]], []⟩) ∧ 
R ⟨⟨[], [⟨((2 : Nat)), ((2 : Nat))⟩]⟩, [[(.int .i64 (P2 (0 : Nat))), (.int .i64 (P2 (1 : Nat)))]]⟩)) := by kernel_rfl

theorem f86_3 (p : Int) (c many : Nat) (b : Bool) (ms : List Value) (o D2 P2 : Nat → Int) (R : Hx → Prop) : (vx.call 86 [hV p 3 c, .agg ⟨ints 7 o⟩, I many] (retN (rowT 1 3) R) (m1 ms) ((11, Hint.conW (CW96 p (3 : Nat) c many o (0 : Int) (ints (7 : Nat) fun x => (0 : Int)) (ints (7 : Nat) fun x => (0 : Int)) b (ints (7 : Nat) D2) (ints (7 : Nat) P2))) :: [(11, Hint.tm (0 : Nat) [((1 : Nat), (7 : Nat))])])) =
(((ConWOK Try.prog ((96 : Nat)) (CW96 p (3 : Nat) c many o (0 : Int) [Value.int .i64 (0 : Int), Value.int .i64 (0 : Int), Value.int .i64 (0 : Int), Value.int .i64 (0 : Int), Value.int .i64 (0 : Int), Value.int .i64 (0 : Int), Value.int .i64 (0 : Int)] [Value.int .i64 (0 : Int), Value.int .i64 (0 : Int), Value.int .i64 (0 : Int), Value.int .i64 (0 : Int), Value.int .i64 (0 : Int), Value.int .i64 (0 : Int), Value.int .i64 (0 : Int)] b [Value.int .i64 (D2 (0 : Nat)), Value.int .i64 (D2 (1 : Nat)), Value.int .i64 (D2 (2 : Nat)), Value.int .i64 (D2 (3 : Nat)), Value.int .i64 (D2 (4 : Nat)), Value.int .i64 (D2 (5 : Nat)), Value.int .i64 (D2 (6 : Nat))] [Value.int .i64 (P2 (0 : Nat)), Value.int .i64 (P2 (1 : Nat)), Value.int .i64 (P2 (2 : Nat)), Value.int .i64 (P2 (3 : Nat)), Value.int .i64 (P2 (4 : Nat)), Value.int .i64 (P2 (5 : Nat)), Value.int .i64 (P2 (6 : Nat))])) ∧ (ConW.pre (CW96 p (3 : Nat) c many o (0 : Int) [Value.int .i64 (0 : Int), Value.int .i64 (0 : Int), Value.int .i64 (0 : Int), Value.int .i64 (0 : Int), Value.int .i64 (0 : Int), Value.int .i64 (0 : Int), Value.int .i64 (0 : Int)] [Value.int .i64 (0 : Int), Value.int .i64 (0 : Int), Value.int .i64 (0 : Int), Value.int .i64 (0 : Int), Value.int .i64 (0 : Int), Value.int .i64 (0 : Int), Value.int .i64 (0 : Int)] b [Value.int .i64 (D2 (0 : Nat)), Value.int .i64 (D2 (1 : Nat)), Value.int .i64 (D2 (2 : Nat)), Value.int .i64 (D2 (3 : Nat)), Value.int .i64 (D2 (4 : Nat)), Value.int .i64 (D2 (5 : Nat)), Value.int .i64 (D2 (6 : Nat))] [Value.int .i64 (P2 (0 : Nat)), Value.int .i64 (P2 (1 : Nat)), Value.int .i64 (P2 (2 : Nat)), Value.int .i64 (P2 (3 : Nat)), Value.int .i64 (P2 (4 : Nat)), Value.int .i64 (P2 (5 : Nat)), Value.int .i64 (P2 (6 : Nat))]) ⟨⟨[(.int .i64 ((0 : Int))), (.int .i64 (p)), (.int .i64 ((↑many : Int))), (.int .i64 (o (0 : Nat))), (.int .i64 (o (1 : Nat))), (.int .i64 (o (2 : Nat))), (.int .i64 (o (3 : Nat))), (.int .i64 (o (4 : Nat))), (.int .i64 (o (5 : Nat))), (.int .i64 (o (6 : Nat)))], [⟨((3 : Nat)), (c)⟩]⟩, [[(.int .i64 ((0 : Int))), (.int .i64 ((0 : Int))), (.int .i64 ((0 : Int))), (.int .i64 ((0 : Int))), (.int .i64 ((0 : Int))), (.int .i64 ((0 : Int))), (.int .i64 ((0 : Int)))], [(.int .i64 ((0 : Int))), (.int .i64 ((0 : Int))), (.int .i64 ((0 : Int))), (.int .i64 ((0 : Int))), (.int .i64 ((0 : Int))), (.int .i64 ((0 : Int))), (.int .i64 ((0 : Int)))]], []⟩) ∧ 
R ⟨⟨[], [⟨((3 : Nat)), ((3 : Nat))⟩]⟩, [[(.int .i64 (P2 (0 : Nat))), (.int .i64 (P2 (1 : Nat))), (.int .i64 (P2 (2 : Nat)))]]⟩)) := by kernel_rfl

theorem f86_4 (p : Int) (c many : Nat) (b : Bool) (ms : List Value) (o D2 P2 : Nat → Int) (R : Hx → Prop) : (vx.call 86 [hV p 4 c, .agg ⟨ints 7 o⟩, I many] (retN (rowT 1 3) R) (m1 ms) ((11, Hint.conW (CW96 p (4 : Nat) c many o (0 : Int) (ints (7 : Nat) fun x => (0 : Int)) (ints (7 : Nat) fun x => (0 : Int)) b (ints (7 : Nat) D2) (ints (7 : Nat) P2))) :: [(11, Hint.tm (0 : Nat) [((1 : Nat), (7 : Nat))])])) =
(((ConWOK Try.prog ((96 : Nat)) (CW96 p (4 : Nat) c many o (0 : Int) [Value.int .i64 (0 : Int), Value.int .i64 (0 : Int), Value.int .i64 (0 : Int), Value.int .i64 (0 : Int), Value.int .i64 (0 : Int), Value.int .i64 (0 : Int), Value.int .i64 (0 : Int)] [Value.int .i64 (0 : Int), Value.int .i64 (0 : Int), Value.int .i64 (0 : Int), Value.int .i64 (0 : Int), Value.int .i64 (0 : Int), Value.int .i64 (0 : Int), Value.int .i64 (0 : Int)] b [Value.int .i64 (D2 (0 : Nat)), Value.int .i64 (D2 (1 : Nat)), Value.int .i64 (D2 (2 : Nat)), Value.int .i64 (D2 (3 : Nat)), Value.int .i64 (D2 (4 : Nat)), Value.int .i64 (D2 (5 : Nat)), Value.int .i64 (D2 (6 : Nat))] [Value.int .i64 (P2 (0 : Nat)), Value.int .i64 (P2 (1 : Nat)), Value.int .i64 (P2 (2 : Nat)), Value.int .i64 (P2 (3 : Nat)), Value.int .i64 (P2 (4 : Nat)), Value.int .i64 (P2 (5 : Nat)), Value.int .i64 (P2 (6 : Nat))])) ∧ (ConW.pre (CW96 p (4 : Nat) c many o (0 : Int) [Value.int .i64 (0 : Int), Value.int .i64 (0 : Int), Value.int .i64 (0 : Int), Value.int .i64 (0 : Int), Value.int .i64 (0 : Int), Value.int .i64 (0 : Int), Value.int .i64 (0 : Int)] [Value.int .i64 (0 : Int), Value.int .i64 (0 : Int), Value.int .i64 (0 : Int), Value.int .i64 (0 : Int), Value.int .i64 (0 : Int), Value.int .i64 (0 : Int), Value.int .i64 (0 : Int)] b [Value.int .i64 (D2 (0 : Nat)), Value.int .i64 (D2 (1 : Nat)), Value.int .i64 (D2 (2 : Nat)), Value.int .i64 (D2 (3 : Nat)), Value.int .i64 (D2 (4 : Nat)), Value.int .i64 (D2 (5 : Nat)), Value.int .i64 (D2 (6 : Nat))] [Value.int .i64 (P2 (0 : Nat)), Value.int .i64 (P2 (1 : Nat)), Value.int .i64 (P2 (2 : Nat)), Value.int .i64 (P2 (3 : Nat)), Value.int .i64 (P2 (4 : Nat)), Value.int .i64 (P2 (5 : Nat)), Value.int .i64 (P2 (6 : Nat))]) ⟨⟨[(.int .i64 ((0 : Int))), (.int .i64 (p)), (.int .i64 ((↑many : Int))), (.int .i64 (o (0 : Nat))), (.int .i64 (o (1 : Nat))), (.int .i64 (o (2 : Nat))), (.int .i64 (o (3 : Nat))), (.int .i64 (o (4 : Nat))), (.int .i64 (o (5 : Nat))), (.int .i64 (o (6 : Nat)))], [⟨((4 : Nat)), (c)⟩]⟩, [[(.int .i64 ((0 : Int))), (.int .i64 ((0 : Int))), (.int .i64 ((0 : Int))), (.int .i64 ((0 : Int))), (.int .i64 ((0 : Int))), (.int .i64 ((0 : Int))), (.int .i64 ((0 : Int)))], [(.int .i64 ((0 : Int))), (.int .i64 ((0 : Int))), (.int .i64 ((0 : Int))), (.int .i64 ((0 : Int))), (.int .i64 ((0 : Int))), (.int .i64 ((0 : Int))), (.int .i64 ((0 : Int)))]], []⟩) ∧ 
R ⟨⟨[], [⟨((4 : Nat)), ((4 : Nat))⟩]⟩, [[(.int .i64 (P2 (0 : Nat))), (.int .i64 (P2 (1 : Nat))), (.int .i64 (P2 (2 : Nat))), (.int .i64 (P2 (3 : Nat)))]]⟩)) := by kernel_rfl

theorem f86_5 (p : Int) (c many : Nat) (b : Bool) (ms : List Value) (o D2 P2 : Nat → Int) (R : Hx → Prop) : (vx.call 86 [hV p 5 c, .agg ⟨ints 7 o⟩, I many] (retN (rowT 1 3) R) (m1 ms) ((11, Hint.conW (CW96 p (5 : Nat) c many o (0 : Int) (ints (7 : Nat) fun x => (0 : Int)) (ints (7 : Nat) fun x => (0 : Int)) b (ints (7 : Nat) D2) (ints (7 : Nat) P2))) :: [(11, Hint.tm (0 : Nat) [((1 : Nat), (7 : Nat))])])) =
(((ConWOK Try.prog ((96 : Nat)) (CW96 p (5 : Nat) c many o (0 : Int) [Value.int .i64 (0 : Int), Value.int .i64 (0 : Int), Value.int .i64 (0 : Int), Value.int .i64 (0 : Int), Value.int .i64 (0 : Int), Value.int .i64 (0 : Int), Value.int .i64 (0 : Int)] [Value.int .i64 (0 : Int), Value.int .i64 (0 : Int), Value.int .i64 (0 : Int), Value.int .i64 (0 : Int), Value.int .i64 (0 : Int), Value.int .i64 (0 : Int), Value.int .i64 (0 : Int)] b [Value.int .i64 (D2 (0 : Nat)), Value.int .i64 (D2 (1 : Nat)), Value.int .i64 (D2 (2 : Nat)), Value.int .i64 (D2 (3 : Nat)), Value.int .i64 (D2 (4 : Nat)), Value.int .i64 (D2 (5 : Nat)), Value.int .i64 (D2 (6 : Nat))] [Value.int .i64 (P2 (0 : Nat)), Value.int .i64 (P2 (1 : Nat)), Value.int .i64 (P2 (2 : Nat)), Value.int .i64 (P2 (3 : Nat)), Value.int .i64 (P2 (4 : Nat)), Value.int .i64 (P2 (5 : Nat)), Value.int .i64 (P2 (6 : Nat))])) ∧ (ConW.pre (CW96 p (5 : Nat) c many o (0 : Int) [Value.int .i64 (0 : Int), Value.int .i64 (0 : Int), Value.int .i64 (0 : Int), Value.int .i64 (0 : Int), Value.int .i64 (0 : Int), Value.int .i64 (0 : Int), Value.int .i64 (0 : Int)] [Value.int .i64 (0 : Int), Value.int .i64 (0 : Int), Value.int .i64 (0 : Int), Value.int .i64 (0 : Int), Value.int .i64 (0 : Int), Value.int .i64 (0 : Int), Value.int .i64 (0 : Int)] b [Value.int .i64 (D2 (0 : Nat)), Value.int .i64 (D2 (1 : Nat)), Value.int .i64 (D2 (2 : Nat)), Value.int .i64 (D2 (3 : Nat)), Value.int .i64 (D2 (4 : Nat)), Value.int .i64 (D2 (5 : Nat)), Value.int .i64 (D2 (6 : Nat))] [Value.int .i64 (P2 (0 : Nat)), Value.int .i64 (P2 (1 : Nat)), Value.int .i64 (P2 (2 : Nat)), Value.int .i64 (P2 (3 : Nat)), Value.int .i64 (P2 (4 : Nat)), Value.int .i64 (P2 (5 : Nat)), Value.int .i64 (P2 (6 : Nat))]) ⟨⟨[(.int .i64 ((0 : Int))), (.int .i64 (p)), (.int .i64 ((↑many : Int))), (.int .i64 (o (0 : Nat))), (.int .i64 (o (1 : Nat))), (.int .i64 (o (2 : Nat))), (.int .i64 (o (3 : Nat))), (.int .i64 (o (4 : Nat))), (.int .i64 (o (5 : Nat))), (.int .i64 (o (6 : Nat)))], [⟨((5 : Nat)), (c)⟩]⟩, [[(.int .i64 ((0 : Int))), (.int .i64 ((0 : Int))), (.int .i64 ((0 : Int))), (.int .i64 ((0 : Int))), (.int .i64 ((0 : Int))), (.int .i64 ((0 : Int))), (.int .i64 ((0 : Int)))], [(.int .i64 ((0 : Int))), (.int .i64 ((0 : Int))), (.int .i64 ((0 : Int))), (.int .i64 ((0 : Int))), (.int .i64 ((0 : Int))), (.int .i64 ((0 : Int))), (.int .i64 ((0 : Int)))]], []⟩) ∧ 
R ⟨⟨[], [⟨((5 : Nat)), ((5 : Nat))⟩]⟩, [[(.int .i64 (P2 (0 : Nat))), (.int .i64 (P2 (1 : Nat))), (.int .i64 (P2 (2 : Nat))), (.int .i64 (P2 (3 : Nat))), (.int .i64 (P2 (4 : Nat)))]]⟩)) := by kernel_rfl

theorem f86_6 (p : Int) (c many : Nat) (b : Bool) (ms : List Value) (o D2 P2 : Nat → Int) (R : Hx → Prop) : (vx.call 86 [hV p 6 c, .agg ⟨ints 7 o⟩, I many] (retN (rowT 1 3) R) (m1 ms) ((11, Hint.conW (CW96 p (6 : Nat) c many o (0 : Int) (ints (7 : Nat) fun x => (0 : Int)) (ints (7 : Nat) fun x => (0 : Int)) b (ints (7 : Nat) D2) (ints (7 : Nat) P2))) :: [(11, Hint.tm (0 : Nat) [((1 : Nat), (7 : Nat))])])) =
(((ConWOK Try.prog ((96 : Nat)) (CW96 p (6 : Nat) c many o (0 : Int) [Value.int .i64 (0 : Int), Value.int .i64 (0 : Int), Value.int .i64 (0 : Int), Value.int .i64 (0 : Int), Value.int .i64 (0 : Int), Value.int .i64 (0 : Int), Value.int .i64 (0 : Int)] [Value.int .i64 (0 : Int), Value.int .i64 (0 : Int), Value.int .i64 (0 : Int), Value.int .i64 (0 : Int), Value.int .i64 (0 : Int), Value.int .i64 (0 : Int), Value.int .i64 (0 : Int)] b [Value.int .i64 (D2 (0 : Nat)), Value.int .i64 (D2 (1 : Nat)), Value.int .i64 (D2 (2 : Nat)), Value.int .i64 (D2 (3 : Nat)), Value.int .i64 (D2 (4 : Nat)), Value.int .i64 (D2 (5 : Nat)), Value.int .i64 (D2 (6 : Nat))] [Value.int .i64 (P2 (0 : Nat)), Value.int .i64 (P2 (1 : Nat)), Value.int .i64 (P2 (2 : Nat)), Value.int .i64 (P2 (3 : Nat)), Value.int .i64 (P2 (4 : Nat)), Value.int .i64 (P2 (5 : Nat)), Value.int .i64 (P2 (6 : Nat))])) ∧ (ConW.pre (CW96 p (6 : Nat) c many o (0 : Int) [Value.int .i64 (0 : Int), Value.int .i64 (0 : Int), Value.int .i64 (0 : Int), Value.int .i64 (0 : Int), Value.int .i64 (0 : Int), Value.int .i64 (0 : Int), Value.int .i64 (0 : Int)] [Value.int .i64 (0 : Int), Value.int .i64 (0 : Int), Value.int .i64 (0 : Int), Value.int .i64 (0 : Int), Value.int .i64 (0 : Int), Value.int .i64 (0 : Int), Value.int .i64 (0 : Int)] b [Value.int .i64 (D2 (0 : Nat)), Value.int .i64 (D2 (1 : Nat)), Value.int .i64 (D2 (2 : Nat)), Value.int .i64 (D2 (3 : Nat)), Value.int .i64 (D2 (4 : Nat)), Value.int .i64 (D2 (5 : Nat)), Value.int .i64 (D2 (6 : Nat))] [Value.int .i64 (P2 (0 : Nat)), Value.int .i64 (P2 (1 : Nat)), Value.int .i64 (P2 (2 : Nat)), Value.int .i64 (P2 (3 : Nat)), Value.int .i64 (P2 (4 : Nat)), Value.int .i64 (P2 (5 : Nat)), Value.int .i64 (P2 (6 : Nat))]) ⟨⟨[(.int .i64 ((0 : Int))), (.int .i64 (p)), (.int .i64 ((↑many : Int))), (.int .i64 (o (0 : Nat))), (.int .i64 (o (1 : Nat))), (.int .i64 (o (2 : Nat))), (.int .i64 (o (3 : Nat))), (.int .i64 (o (4 : Nat))), (.int .i64 (o (5 : Nat))), (.int .i64 (o (6 : Nat)))], [⟨((6 : Nat)), (c)⟩]⟩, [[(.int .i64 ((0 : Int))), (.int .i64 ((0 : Int))), (.int .i64 ((0 : Int))), (.int .i64 ((0 : Int))), (.int .i64 ((0 : Int))), (.int .i64 ((0 : Int))), (.int .i64 ((0 : Int)))], [(.int .i64 ((0 : Int))), (.int .i64 ((0 : Int))), (.int .i64 ((0 : Int))), (.int .i64 ((0 : Int))), (.int .i64 ((0 : Int))), (.int .i64 ((0 : Int))), (.int .i64 ((0 : Int)))]], []⟩) ∧ 
R ⟨⟨[], [⟨((6 : Nat)), ((6 : Nat))⟩]⟩, [[(.int .i64 (P2 (0 : Nat))), (.int .i64 (P2 (1 : Nat))), (.int .i64 (P2 (2 : Nat))), (.int .i64 (P2 (3 : Nat))), (.int .i64 (P2 (4 : Nat))), (.int .i64 (P2 (5 : Nat)))]]⟩)) := by kernel_rfl

theorem f86_7 (p : Int) (c many : Nat) (b : Bool) (ms : List Value) (o D2 P2 : Nat → Int) (R : Hx → Prop) : (vx.call 86 [hV p 7 c, .agg ⟨ints 7 o⟩, I many] (retN (rowT 1 3) R) (m1 ms) ((11, Hint.conW (CW96 p (7 : Nat) c many o (0 : Int) (ints (7 : Nat) fun x => (0 : Int)) (ints (7 : Nat) fun x => (0 : Int)) b (ints (7 : Nat) D2) (ints (7 : Nat) P2))) :: [(11, Hint.tm (0 : Nat) [((1 : Nat), (7 : Nat))])])) =
(((ConWOK Try.prog ((96 : Nat)) (CW96 p (7 : Nat) c many o (0 : Int) [Value.int .i64 (0 : Int), Value.int .i64 (0 : Int), Value.int .i64 (0 : Int), Value.int .i64 (0 : Int), Value.int .i64 (0 : Int), Value.int .i64 (0 : Int), Value.int .i64 (0 : Int)] [Value.int .i64 (0 : Int), Value.int .i64 (0 : Int), Value.int .i64 (0 : Int), Value.int .i64 (0 : Int), Value.int .i64 (0 : Int), Value.int .i64 (0 : Int), Value.int .i64 (0 : Int)] b [Value.int .i64 (D2 (0 : Nat)), Value.int .i64 (D2 (1 : Nat)), Value.int .i64 (D2 (2 : Nat)), Value.int .i64 (D2 (3 : Nat)), Value.int .i64 (D2 (4 : Nat)), Value.int .i64 (D2 (5 : Nat)), Value.int .i64 (D2 (6 : Nat))] [Value.int .i64 (P2 (0 : Nat)), Value.int .i64 (P2 (1 : Nat)), Value.int .i64 (P2 (2 : Nat)), Value.int .i64 (P2 (3 : Nat)), Value.int .i64 (P2 (4 : Nat)), Value.int .i64 (P2 (5 : Nat)), Value.int .i64 (P2 (6 : Nat))])) ∧ (ConW.pre (CW96 p (7 : Nat) c many o (0 : Int) [Value.int .i64 (0 : Int), Value.int .i64 (0 : Int), Value.int .i64 (0 : Int), Value.int .i64 (0 : Int), Value.int .i64 (0 : Int), Value.int .i64 (0 : Int), Value.int .i64 (0 : Int)] [Value.int .i64 (0 : Int), Value.int .i64 (0 : Int), Value.int .i64 (0 : Int), Value.int .i64 (0 : Int), Value.int .i64 (0 : Int), Value.int .i64 (0 : Int), Value.int .i64 (0 : Int)] b [Value.int .i64 (D2 (0 : Nat)), Value.int .i64 (D2 (1 : Nat)), Value.int .i64 (D2 (2 : Nat)), Value.int .i64 (D2 (3 : Nat)), Value.int .i64 (D2 (4 : Nat)), Value.int .i64 (D2 (5 : Nat)), Value.int .i64 (D2 (6 : Nat))] [Value.int .i64 (P2 (0 : Nat)), Value.int .i64 (P2 (1 : Nat)), Value.int .i64 (P2 (2 : Nat)), Value.int .i64 (P2 (3 : Nat)), Value.int .i64 (P2 (4 : Nat)), Value.int .i64 (P2 (5 : Nat)), Value.int .i64 (P2 (6 : Nat))]) ⟨⟨[(.int .i64 ((0 : Int))), (.int .i64 (p)), (.int .i64 ((↑many : Int))), (.int .i64 (o (0 : Nat))), (.int .i64 (o (1 : Nat))), (.int .i64 (o (2 : Nat))), (.int .i64 (o (3 : Nat))), (.int .i64 (o (4 : Nat))), (.int .i64 (o (5 : Nat))), (.int .i64 (o (6 : Nat)))], [⟨((7 : Nat)), (c)⟩]⟩, [[(.int .i64 ((0 : Int))), (.int .i64 ((0 : Int))), (.int .i64 ((0 : Int))), (.int .i64 ((0 : Int))), (.int .i64 ((0 : Int))), (.int .i64 ((0 : Int))), (.int .i64 ((0 : Int)))], [(.int .i64 ((0 : Int))), (.int .i64 ((0 : Int))), (.int .i64 ((0 : Int))), (.int .i64 ((0 : Int))), (.int .i64 ((0 : Int))), (.int .i64 ((0 : Int))), (.int .i64 ((0 : Int)))]], []⟩) ∧ 
R ⟨⟨[], [⟨((7 : Nat)), ((7 : Nat))⟩]⟩, [[(.int .i64 (P2 (0 : Nat))), (.int .i64 (P2 (1 : Nat))), (.int .i64 (P2 (2 : Nat))), (.int .i64 (P2 (3 : Nat))), (.int .i64 (P2 (4 : Nat))), (.int .i64 (P2 (5 : Nat))), (.int .i64 (P2 (6 : Nat)))]]⟩)) := by kernel_rfl

theorem two_pow_lt {n : Nat} (hn : n ≤ 7) : 2 ^ n ≤ 128 ∧ 0 < 2 ^ n := by
  have : n = 0 ∨ n = 1 ∨ n = 2 ∨ n = 3 ∨ n = 4 ∨ n = 5 ∨ n = 6 ∨ n = 7 := by omega
  rcases this with rfl | rfl | rfl | rfl | rfl | rfl | rfl | rfl <;> decide
theorem wrap_sets {n : Nat} (hn : n ≤ 7) : IntKind.i64.wrap (IntKind.i64.wrap (IntKind.i64.wrap ((1 : Int) * (2 : Int) ^ n) - 1) + 1) = ((2 ^ n : Nat) : Int) := by
  obtain ⟨h1, h2⟩ := two_pow_lt hn
  have e : (1 : Int) * 2 ^ n = ((2 ^ n : Nat) : Int) := by simp
  rw [e]
  generalize 2 ^ n = z at h1 h2
  rw [wrapI (x := (z : Int)) (by omega) (by omega), wrapI (x := (z : Int) - 1) (by omega) (by omega), wrapI (by omega) (by omega)]
  omega
theorem C87_ok {n : Nat} {o : Nat → Int} (hn : n ≤ 7) : ConOK Try.prog 87 (C87 n o (bestF o (2 ^ n))) := by
  refine con_of vx_sound _ (fun y hy => ?_) rfl (fun y _ => rfl) (fun y hy => ?_) rfl (Nat.le_of_ble_eq_true rfl) (by rw [nglob]; exact Nat.zero_le _)
  · cases hy
    obtain ⟨h1, h2⟩ := two_pow_lt hn
    have hl := loop93 (o := o) h1 h2
    refine ⟨_, (f87 n (2 ^ n) (bestF o (2 ^ n)) o _).mpr ⟨⟨⟨by omega, by omega⟩, rfl⟩, ?_⟩⟩
    rw [wrap_sets hn]
    exact ⟨clB (2 ^ n) 0 0 false, hl, rfl⟩
  · cases hy
    intro cs hcs
    cases hcs
section
variable {p : Int} {n c : Nat} {f : Nat → Mv}
theorem C25_ok (sure : Bool) (hok : okH p n f = true) (hn : n ≤ 7) : ConOK Try.prog 25 (C25 sure p n c f (bestF (ordF sure p n f n) (2 ^ n))) := by
  refine con_of vx_sound _ (fun y hy => ?_) rfl (fun y _ => rfl) (fun y hy => ?_) rfl (Nat.le_of_ble_eq_true rfl) (by rw [nglob]; exact Nat.zero_le _)
  · cases hy
    cases sure
    · exact ⟨_, (f25f p n c _ f _).mpr ⟨C68t_ok p n c f (by omega), ⟨rfl, hok⟩, ⟨⟨Nat.le_refl _, rfl⟩, ⟨Nat.le_refl _, rfl⟩, trivial⟩, C44_ok _ p n c f hn, rfl, ⟨⟨Nat.le_refl _, rfl⟩, trivial⟩, ⟨⟨Nat.le_refl _, rfl⟩, trivial⟩, C87_ok hn, rfl, rfl⟩⟩
    · exact ⟨_, (f25t p n c _ f _).mpr ⟨C68t_ok p n c f (by omega), ⟨rfl, hok⟩, ⟨⟨Nat.le_refl _, rfl⟩, ⟨Nat.le_refl _, rfl⟩, trivial⟩, C44_ok _ p n c f hn, rfl, ⟨⟨Nat.le_refl _, rfl⟩, trivial⟩, ⟨⟨Nat.le_refl _, rfl⟩, trivial⟩, C87_ok hn, rfl, rfl⟩⟩
  · cases hy
    exact mvs_atoms n f
/-- Who does each move by the first plan. -/
def planF (o : Nat → Int) (n many : Nat) : Bool × Gs := giveF (fitsN o n) n many 8 0 ⟨fun _ => 0, fun _ => 0⟩
theorem C86_ok {o : Nat → Int} {many : Nat} (hn : n ≤ 7) (h0 : 0 < n) (hm : many ≤ 7) : ConNOK Try.prog 86 (C86c p n c (mvs n f) o many (ints n fun i => ((planF o n many).2.P i : Int))) := by
  refine conRow_of rfl vx_sound (C := C86c p n c (mvs n f) o many (ints n fun i => ((planF o n many).2.P i : Int))) (n := n) (cells := ints n fun i => ((planF o n many).2.P i : Int)) (e := 3) ⟨⟨I p :: ints 7 o ++ [I many], [(n, c)]⟩, [mvs n f]⟩ (fun x => Iff.rfl) rfl rfl rfl ?_ (mvs_atoms n f) (ints_atoms n _ _ List.mem_cons_self) rfl (Nat.le_of_ble_eq_true rfl) (by rw [nglob]; exact Nat.zero_le _)
  have hC := C96_ok (p := p) (o := o) (c := c) hn hm 8 0 ⟨fun _ => 0, fun _ => 0⟩ (Nat.zero_le n) (by omega) (fun h => Nat.zero_lt_succ _)
  have hC : ConWOK Try.prog 96 (C96 p o n c many 0 ⟨fun _ => 0, fun _ => 0⟩ (planF o n many)) := hC
  generalize planF o n many = r at hC
  obtain ⟨b, σ⟩ := r
  have hn' : n = 1 ∨ n = 2 ∨ n = 3 ∨ n = 4 ∨ n = 5 ∨ n = 6 ∨ n = 7 := by omega
  rcases hn' with rfl | rfl | rfl | rfl | rfl | rfl | rfl
  · exact ⟨_, (f86_1 p c many b (mvs 1 f) o (fun i => (σ.D i : Int)) (fun i => (σ.P i : Int)) _).mpr ⟨hC, rfl, rfl⟩⟩
  · exact ⟨_, (f86_2 p c many b (mvs 2 f) o (fun i => (σ.D i : Int)) (fun i => (σ.P i : Int)) _).mpr ⟨hC, rfl, rfl⟩⟩
  · exact ⟨_, (f86_3 p c many b (mvs 3 f) o (fun i => (σ.D i : Int)) (fun i => (σ.P i : Int)) _).mpr ⟨hC, rfl, rfl⟩⟩
  · exact ⟨_, (f86_4 p c many b (mvs 4 f) o (fun i => (σ.D i : Int)) (fun i => (σ.P i : Int)) _).mpr ⟨hC, rfl, rfl⟩⟩
  · exact ⟨_, (f86_5 p c many b (mvs 5 f) o (fun i => (σ.D i : Int)) (fun i => (σ.P i : Int)) _).mpr ⟨hC, rfl, rfl⟩⟩
  · exact ⟨_, (f86_6 p c many b (mvs 6 f) o (fun i => (σ.D i : Int)) (fun i => (σ.P i : Int)) _).mpr ⟨hC, rfl, rfl⟩⟩
  · exact ⟨_, (f86_7 p c many b (mvs 7 f) o (fun i => (σ.D i : Int)) (fun i => (σ.P i : Int)) _).mpr ⟨hC, rfl, rfl⟩⟩
theorem fewN_le (o : Nat → Int) (hn : n ≤ 7) : fewN (canO o id) id n ≤ 7 := Nat.le_trans (fewS_ok (can := canO o id) (q := id) (n := n) (fun s hs => by show s < 7; omega) n (Nat.le_refl n)).2 hn
/-- How few horses are enough. -/
def fewH (sure : Bool) (p : Int) (n : Nat) (f : Nat → Mv) : Nat := fewN (canO (ordF sure p n f n) id) id n
theorem C24_ok (sure : Bool) (hok : okH p n f = true) (hn : n ≤ 7) (h0 : 0 < n) : ConNOK Try.prog 24 (C24 sure p n c f (fewH sure p n f) (planF (ordF sure p n f n) n (fewH sure p n f)).2.P) := by
  refine conRow3_of rfl vx_sound (C := C24 sure p n c f (fewH sure p n f) (planF (ordF sure p n f n) n (fewH sure p n f)).2.P) (n := n) (cells := ints n fun i => ((planF (ordF sure p n f n) n (fewH sure p n f)).2.P i : Int)) (e := 3) (y0 := fewH sure p n f) (z := 0) ⟨⟨[I p, .bool sure], [(n, c)]⟩, [mvs n f]⟩ (fun x => Iff.rfl) rfl rfl rfl ?_ (mvs_atoms n f) (ints_atoms n _ _ List.mem_cons_self) rfl (Nat.le_of_ble_eq_true rfl) (by rw [nglob]; exact Nat.zero_le _)
  have hid : ∀ i j, i < n → j < n → id i = id j → i = j := fun i j _ _ h => h
  have h83 : ConOK Try.prog 83 (C83c (ordF sure p n f n) n n (jobsC n f) (fewH sure p n f)) := C83_ok (o := ordF sure p n f n) (c := n) (f := f) (q := id) hn hid (fun i hi => by show i < 7; omega)
  have h86 := C86_ok (p := p) (c := c) (f := f) (o := ordF sure p n f n) hn h0 (fewN_le (ordF sure p n f n) hn)
  cases sure
  · exact ⟨_, (f24f p n c _ f _ _).mpr ⟨C68t_ok p n c f (by omega), ⟨rfl, hok⟩, ⟨⟨Nat.le_refl _, rfl⟩, ⟨Nat.le_refl _, rfl⟩, trivial⟩, C44_ok _ p n c f hn, rfl, ⟨⟨Nat.le_refl _, rfl⟩, trivial⟩, C49_ok p n c f h0 (by omega), rfl, ⟨⟨Nat.le_refl _, rfl⟩, trivial⟩, h83, rfl, h86, rfl, rfl⟩⟩
  · exact ⟨_, (f24t p n c _ f _ _).mpr ⟨C68t_ok p n c f (by omega), ⟨rfl, hok⟩, ⟨⟨Nat.le_refl _, rfl⟩, ⟨Nat.le_refl _, rfl⟩, trivial⟩, C44_ok _ p n c f hn, rfl, ⟨⟨Nat.le_refl _, rfl⟩, trivial⟩, C49_ok p n c f h0 (by omega), rfl, ⟨⟨Nat.le_refl _, rfl⟩, trivial⟩, h83, rfl, h86, rfl, rfl⟩⟩
end
end Go.Ab

/- the law HorseProof: forms. -/
set_option maxRecDepth 100000
namespace Go.Ab
open Go Go.RowKit Go.Proofs
noncomputable def C29 (x : Nat) : Con where
  A := .hole .nil
  bs := []
  pre y := y = ⟨⟨[I x], []⟩, []⟩
  res _ := .ret (I (popN x : Nat))
def p29 : Loc := .l (.l (.r (.r (.top 29))))
noncomputable def T29 : Tw := ⟨13, mkS 13 [(0, .hole .nil), (3, .hole .nil)], 0, []⟩
def p7o : Loc := .l (.r (.l (.r (.r (.r (.r (.r (.r (.r (.r (.top 7)))))))))))
def p7i : Loc := .l (.r (.r (.l (.l (.r (.r (.l p7o)))))))
noncomputable def T7o : Tw := ⟨201, mkS 201 [(1, .hole .nil), (3, .hole .nil), (4, .ptr 1 0 .nil), (9, .hole .nil), (11, .hole .nil), (12, .hole .nil), (13, .hole .nil), (50, .hole .nil), (51, .hole .nil)], 4, [.list 1 .ro, .cells (.hole (.slice 0 0 .nil)) 24 .var, .dead, .dead]⟩
noncomputable def T7i : Tw := ⟨201, mkS 201 [(1, .hole .nil), (3, .hole .nil), (4, .ptr 1 0 .nil), (9, .hole .nil), (11, .hole .nil), (12, .hole .nil), (13, .hole .nil), (14, .hole .nil), (50, .hole .nil), (51, .hole .nil), (56, .hole .nil), (57, .hole .nil)], 4, [.list 1 .ro, .cells (.hole (.slice 0 0 .nil)) 24 .var, .dead, .dead]⟩
noncomputable def st7o (sure : Bool) (w p : Int) (n c : Nat) (f : Nat → Mv) (found : Nat) (can : Int) (own : Nat) (ap : Bool) (i : Nat) : Hw := ⟨⟨[.bool sure, .int .u8 w, I found, I can, I own, .bool ap, I n, I i, I p], [(n, c)]⟩, [mvs n f], []⟩
noncomputable def st7i (sure : Bool) (w p : Int) (n c : Nat) (f : Nat → Mv) (found : Nat) (can : Int) (own : Nat) (ap : Bool) (i j : Nat) : Hw := ⟨⟨[.bool sure, .int .u8 w, I found, I can, I own, .bool ap, I i, I n, I i, I n, I j, I p], [(n, c)]⟩, [mvs n f], []⟩
/-- Fewest, whatever it finds. -/
noncomputable def C24c (sure : Bool) (p : Int) (n c : Nat) (ms : List Value) (many : Nat) (pl : List Value) : ConN where
  A := .agg (.hole (.slice 0 0 .nil)) (.hole .nil)
  bs := [.list 1 .ro]
  pre x := x = ⟨⟨[I p, .bool sure], [(n, c)]⟩, [ms]⟩
  news _ := [(pl, 3)]
  one := false
  res _ := [.cv (I many), .sl 0 n, .cv (I 0)]
end Go.Ab

/- the law HorseProof: its loops. -/
set_option maxRecDepth 100000
namespace Go.Ab
open Go Go.RowKit Go.Proofs
theorem b29 (x a : Nat) (R : Nat → AExit → Hw → Prop) : (vx.code none (.l p29) (leafW [T29] R) (T29.inst ⟨⟨[I x, I a], []⟩, [], []⟩) ([(1, .split ([(9, .tm 0 [])]) ([(1, .tm 0 [])]))])) =
((((decide ((↑x : Int) > (0 : Int))) = true → R 0 .normal ⟨⟨[(.int .i64 (IntKind.i64.wrap ((↑x : Int).tdiv (2 : Int)))), (.int .i64 (IntKind.i64.wrap ((↑a : Int) + (↑x : Int).tmod (2 : Int))))], []⟩, [], []⟩) ∧
((decide ((↑x : Int) > (0 : Int))) = false → R 0 (.exit ((0 : Nat))) ⟨⟨[(.int .i64 ((↑x : Int))), (.int .i64 ((↑a : Int)))], []⟩, [], []⟩))) := by kernel_rfl

theorem f29 (x a : Nat) (R : ARes → Prop) : (vx.call 29 [I x] (retK R) ⟨.nil, 0⟩ ((3, Hint.loopW T29 (AExit.exit (0 : Nat)) T29 fun x => { hs := { vs := [I (0 : Int), I (↑a : Int)], ns := [] }, ls := [], es := [] }) :: [])) =
(((ClW ⟨⟨[(.int .i64 ((↑x : Int))), (.int .i64 ((0 : Int)))], []⟩, [], []⟩) ∧ (LoopOW Try.prog .none p29 (T29) ⟨⟨[(.int .i64 ((↑x : Int))), (.int .i64 ((0 : Int)))], []⟩, [], []⟩ (.exit ((0 : Nat))) (T29) ⟨⟨[(.int .i64 ((0 : Int))), (.int .i64 ((↑a : Int)))], []⟩, [], []⟩) ∧ 
R (.ret (.int .i64 ((↑a : Int)))))) := by kernel_rfl

theorem b7i (sure : Bool) (w p : Int) (n c : Nat) (f : Nat → Mv) (found : Nat) (can : Int) (own : Nat) (ap : Bool) (i j : Nat) (R : Nat → AExit → Hw → Prop) : (vx.code none (.l p7i) (leafW [T7i] R) (T7i.inst (st7i sure w p n c f found can own ap i j)) ([(0, .split ((6, Hint.con (C18 p i j n c f)) :: [(8, .split ((3, .val (.int .i64 ((↑own : Int) / (2 : Int) ^ i))) :: [(1, .split ([(8, .tm 0 [])]) ((3, .val (.int .i64 ((↑own : Int) / (2 : Int) ^ j))) :: [(1, .split ([(7, .tm 0 [])]) ([(4, .split ([(5, .tm 0 [])]) ([(5, .tm 0 [])]))]))]))]) ([(5, .tm 0 [])]))]) ([(1, .tm 0 [])]))])) =
((((decide ((↑j : Int) < (↑n : Int))) = true → ((ConOK Try.prog ((18 : Nat)) (C18 p i j n c f)) ∧ (Con.pre (C18 p i j n c f) ⟨⟨[(.int .i64 (p)), (.int .i64 ((↑i : Int))), (.int .i64 ((↑j : Int)))], [⟨(n), (c)⟩]⟩, [(mvs n f)]⟩) ∧ 
(((ap) = true → ((((((0 : Int) ≤ (↑i : Int))) ∧ (((↑i : Int) ≤ (↑(64 : Nat) : Int)))) ∧ (((.int .i64 ((↑own : Int) / (2 : Int) ^ i)) : Value) = (.int .i64 ((↑own : Int) / (2 : Int) ^ i)))) ∧
(((bits BinOp.and IntKind.i64 ((↑own : Int) / (2 : Int) ^ i) (1 : Int) == (0 : Int)) = true → R 0 .normal ⟨⟨[(.bool (sure)), (.int .u8 (w)), (.int .i64 ((↑found : Int))), (.int .i64 (can)), (.int .i64 ((↑own : Int))), (.bool true), (.int .i64 ((↑i : Int))), (.int .i64 ((↑n : Int))), (.int .i64 ((↑i : Int))), (.int .i64 ((↑n : Int))), (.int .i64 (IntKind.i64.wrap ((↑j : Int) + (1 : Int)))), (.int .i64 (p))], [⟨(n), (c)⟩]⟩, [(mvs n f)], []⟩) ∧
((bits BinOp.and IntKind.i64 ((↑own : Int) / (2 : Int) ^ i) (1 : Int) == (0 : Int)) = false → ((((((0 : Int) ≤ (↑j : Int))) ∧ (((↑j : Int) ≤ (↑(64 : Nat) : Int)))) ∧ (((.int .i64 ((↑own : Int) / (2 : Int) ^ j)) : Value) = (.int .i64 ((↑own : Int) / (2 : Int) ^ j)))) ∧
(((bits BinOp.and IntKind.i64 ((↑own : Int) / (2 : Int) ^ j) (1 : Int) == (0 : Int)) = true → R 0 .normal ⟨⟨[(.bool (sure)), (.int .u8 (w)), (.int .i64 ((↑found : Int))), (.int .i64 (can)), (.int .i64 ((↑own : Int))), (.bool true), (.int .i64 ((↑i : Int))), (.int .i64 ((↑n : Int))), (.int .i64 ((↑i : Int))), (.int .i64 ((↑n : Int))), (.int .i64 (IntKind.i64.wrap ((↑j : Int) + (1 : Int)))), (.int .i64 (p))], [⟨(n), (c)⟩]⟩, [(mvs n f)], []⟩) ∧
((bits BinOp.and IntKind.i64 ((↑own : Int) / (2 : Int) ^ j) (1 : Int) == (0 : Int)) = false → (((decide (folV p n f i j < can)) = true → R 0 .normal ⟨⟨[(.bool (sure)), (.int .u8 (w)), (.int .i64 ((↑found : Int))), (.int .i64 (can)), (.int .i64 ((↑own : Int))), (.bool true), (.int .i64 ((↑i : Int))), (.int .i64 ((↑n : Int))), (.int .i64 ((↑i : Int))), (.int .i64 ((↑n : Int))), (.int .i64 (IntKind.i64.wrap ((↑j : Int) + (1 : Int)))), (.int .i64 (p))], [⟨(n), (c)⟩]⟩, [(mvs n f)], []⟩) ∧
((decide (folV p n f i j < can)) = false → R 0 .normal ⟨⟨[(.bool (sure)), (.int .u8 (w)), (.int .i64 ((↑found : Int))), (.int .i64 (can)), (.int .i64 ((↑own : Int))), (.bool false), (.int .i64 ((↑i : Int))), (.int .i64 ((↑n : Int))), (.int .i64 ((↑i : Int))), (.int .i64 ((↑n : Int))), (.int .i64 (IntKind.i64.wrap ((↑j : Int) + (1 : Int)))), (.int .i64 (p))], [⟨(n), (c)⟩]⟩, [(mvs n f)], []⟩))))))))) ∧
((ap) = false → R 0 .normal ⟨⟨[(.bool (sure)), (.int .u8 (w)), (.int .i64 ((↑found : Int))), (.int .i64 (can)), (.int .i64 ((↑own : Int))), (.bool false), (.int .i64 ((↑i : Int))), (.int .i64 ((↑n : Int))), (.int .i64 ((↑i : Int))), (.int .i64 ((↑n : Int))), (.int .i64 (IntKind.i64.wrap ((↑j : Int) + (1 : Int)))), (.int .i64 (p))], [⟨(n), (c)⟩]⟩, [(mvs n f)], []⟩)))) ∧
((decide ((↑j : Int) < (↑n : Int))) = false → R 0 (.exit ((2 : Nat))) ⟨⟨[(.bool (sure)), (.int .u8 (w)), (.int .i64 ((↑found : Int))), (.int .i64 (can)), (.int .i64 ((↑own : Int))), (.bool (ap)), (.int .i64 ((↑i : Int))), (.int .i64 ((↑n : Int))), (.int .i64 ((↑i : Int))), (.int .i64 ((↑n : Int))), (.int .i64 ((↑j : Int))), (.int .i64 (p))], [⟨(n), (c)⟩]⟩, [(mvs n f)], []⟩))) := by kernel_rfl

theorem b7o (sure : Bool) (w p : Int) (n c : Nat) (f : Nat → Mv) (found : Nat) (can : Int) (own : Nat) (ap ap2 : Bool) (i : Nat) (R : Nat → AExit → Hw → Prop) : (vx.code none (.l p7o) (leafW [T7o] R) (T7o.inst (st7o sure w p n c f found can own ap i)) ([(0, .split ((7, Hint.loopW T7i (AExit.exit (2 : Nat)) T7i fun x => st7i sure w p n c f found can own ap2 i n) :: [(2, .tm 0 [])]) ([(1, .tm 0 [])]))])) =
((((decide ((↑i : Int) < (↑n : Int))) = true → ((ClW ⟨⟨[(.bool (sure)), (.int .u8 (w)), (.int .i64 ((↑found : Int))), (.int .i64 (can)), (.int .i64 ((↑own : Int))), (.bool (ap)), (.int .i64 ((↑i : Int))), (.int .i64 ((↑n : Int))), (.int .i64 ((↑i : Int))), (.int .i64 ((↑n : Int))), (.int .i64 ((0 : Int))), (.int .i64 (p))], [⟨(n), (c)⟩]⟩, [(mvs n f)], []⟩) ∧ (LoopOW Try.prog .none p7i (T7i) ⟨⟨[(.bool (sure)), (.int .u8 (w)), (.int .i64 ((↑found : Int))), (.int .i64 (can)), (.int .i64 ((↑own : Int))), (.bool (ap)), (.int .i64 ((↑i : Int))), (.int .i64 ((↑n : Int))), (.int .i64 ((↑i : Int))), (.int .i64 ((↑n : Int))), (.int .i64 ((0 : Int))), (.int .i64 (p))], [⟨(n), (c)⟩]⟩, [(mvs n f)], []⟩ (.exit ((2 : Nat))) (T7i) ⟨⟨[(.bool (sure)), (.int .u8 (w)), (.int .i64 ((↑found : Int))), (.int .i64 (can)), (.int .i64 ((↑own : Int))), (.bool (ap2)), (.int .i64 ((↑i : Int))), (.int .i64 ((↑n : Int))), (.int .i64 ((↑i : Int))), (.int .i64 ((↑n : Int))), (.int .i64 ((↑n : Int))), (.int .i64 (p))], [⟨(n), (c)⟩]⟩, [(mvs n f)], []⟩) ∧ 
R 0 .normal ⟨⟨[(.bool (sure)), (.int .u8 (w)), (.int .i64 ((↑found : Int))), (.int .i64 (can)), (.int .i64 ((↑own : Int))), (.bool (ap2)), (.int .i64 ((↑n : Int))), (.int .i64 (IntKind.i64.wrap ((↑i : Int) + (1 : Int)))), (.int .i64 (p))], [⟨(n), (c)⟩]⟩, [(mvs n f)], []⟩)) ∧
((decide ((↑i : Int) < (↑n : Int))) = false → R 0 (.exit ((0 : Nat))) ⟨⟨[(.bool (sure)), (.int .u8 (w)), (.int .i64 ((↑found : Int))), (.int .i64 (can)), (.int .i64 ((↑own : Int))), (.bool (ap)), (.int .i64 ((↑n : Int))), (.int .i64 ((↑i : Int))), (.int .i64 (p))], [⟨(n), (c)⟩]⟩, [(mvs n f)], []⟩))) := by kernel_rfl

theorem popHalf : ((List.range 128).all fun x => decide (popN x = x % 2 + popN (x / 2))) = true := by kernel_rfl
theorem popN_half {x : Nat} (h : x < 128) : popN x = x % 2 + popN (x / 2) := by
  have := List.all_eq_true.1 popHalf x (List.mem_range.2 h)
  exact of_decide_eq_true this
theorem popN_le (x : Nat) : popN x ≤ 7 := by
  have := List.length_filter_le (fun i => x.testBit i) (List.range 7)
  rwa [List.length_range] at this
theorem cl29 (x a : Nat) : ClW ⟨⟨[I x, I a], []⟩, [], []⟩ := ⟨fun cs h => (by cases h), fun cs h => (by cases h)⟩
theorem loop29 {x : Nat} (h : x < 128) : LoopOW Try.prog none p29 T29 ⟨⟨[I x, I (0 : Nat)], []⟩, [], []⟩ (.exit 0) T29 ⟨⟨[I (0 : Nat), I (popN x : Nat)], []⟩, [], []⟩ := by
  have hl := loop_vcW (P := Try.prog) (ro := none) (p := p29) (Ts := [T29]) (k := 0) (X := Nat × Nat) (inv := fun y => y.1 < 128 ∧ y.2 ≤ 1000 * (128 - y.1)) (μ := fun y => y.1) (st := fun y => (0, ⟨⟨[I y.1, I y.2], []⟩, [], []⟩)) (out := fun y => (.exit 0, 0, ⟨⟨[I (0 : Nat), I (y.2 + popN y.1 : Nat)], []⟩, [], []⟩)) rfl vx_sound (by intro T hT; simp only [List.mem_singleton] at hT; subst hT; rfl) (by rw [nglob]; omega) (fun y hy => by
    obtain ⟨x, a⟩ := y
    obtain ⟨hx, ha⟩ := hy
    have hx : x < 128 := hx
    have ha : a ≤ 1000 * (128 - x) := ha
    refine ⟨T29, _, rfl, (b29 x a _).mpr ⟨fun hp => ?_, fun hp => ?_⟩⟩
    · have hp : (x : Int) > 0 := of_decide_eq_true hp
      have e1 : IntKind.i64.wrap ((x : Int).tdiv 2) = ((x / 2 : Nat) : Int) := by
        have : (x : Int).tdiv 2 = ((x / 2 : Nat) : Int) := rfl
        rw [this]; exact wrapI (by omega) (by omega)
      have e2 : IntKind.i64.wrap ((a : Int) + (x : Int).tmod 2) = ((a + x % 2 : Nat) : Int) := by
        have : (x : Int).tmod 2 = ((x % 2 : Nat) : Int) := rfl
        rw [this, wrapI (by omega) (by omega)]; omega
      rw [e1, e2]
      refine ⟨⟨cl29 _ _, trivial⟩, .inl ⟨rfl, (x / 2, a + x % 2), ⟨by show x / 2 < 128; omega, by show a + x % 2 ≤ 1000 * (128 - x / 2); omega⟩, by show x / 2 < x; omega, rfl, ?_⟩⟩
      have := popN_half hx
      show (AExit.exit 0, 0, (⟨⟨[I (0 : Nat), I (a + x % 2 + popN (x / 2) : Nat)], []⟩, [], []⟩ : Hw)) = (AExit.exit 0, 0, ⟨⟨[I (0 : Nat), I (a + popN x : Nat)], []⟩, [], []⟩)
      rw [this, Nat.add_assoc]
    · have hp := of_decide_eq_false hp
      have e0 : x = 0 := by omega
      subst e0
      exact ⟨⟨cl29 _ _, trivial⟩, .inr ⟨by simp, by
        show (AExit.exit 0, 0, (⟨⟨[I (0 : Nat), I (a + popN 0 : Nat)], []⟩, [], []⟩ : Hw)) = _
        have e : popN 0 = 0 := by decide
        rw [e, Nat.add_zero]
        rfl⟩⟩) (x := (x, 0)) ⟨h, by show 0 ≤ 1000 * (128 - x); omega⟩ (T0 := T29) (T1 := T29) rfl (Nat.le_of_ble_eq_true rfl) (by decide) rfl
  have e : 0 + popN x = popN x := Nat.zero_add _
  simp only [e] at hl
  exact hl
theorem C29_ok {x : Nat} (h : x < 128) : ConOK Try.prog 29 (C29 x) := by
  refine con_of vx_sound _ (fun y hy => ?_) rfl (fun y _ => rfl) (fun y hy => ?_) rfl (Nat.le_of_ble_eq_true rfl) (by rw [nglob]; exact Nat.zero_le _)
  · cases hy
    exact ⟨_, (f29 x (popN x) _).mpr ⟨cl29 x 0, loop29 h, rfl⟩⟩
  · cases hy
    intro cs hcs
    cases hcs
def nb (own i : Nat) : Bool := bits .and .i64 ((own : Int) / 2 ^ i) 1 == 0
theorem nb_eq {own i : Nat} (h : own < 2 ^ 62) : nb own i = !own.testBit i := by
  have e : (own : Int) / 2 ^ i = ((own / 2 ^ i : Nat) : Int) := by simp
  have hd : own / 2 ^ i < 2 ^ 62 := Nat.lt_of_le_of_lt (Nat.div_le_self _ _) h
  simp only [nb, e]
  have h1 := and_nat (own / 2 ^ i) 1 hd (by decide)
  rw [show ((1 : Nat) : Int) = 1 from rfl] at h1
  rw [h1, Nat.testBit_eq_decide_div_mod_eq, Nat.and_one_is_mod]
  have hmod : own / 2 ^ i % 2 = 0 ∨ own / 2 ^ i % 2 = 1 := by omega
  rcases hmod with h | h <;> simp [h]
section
variable {p : Int} {n c : Nat} {f : Nat → Mv}
def condI (p : Int) (n : Nat) (f : Nat → Mv) (can : Int) (own i j : Nat) : Bool := nb own i || (nb own j || decide (folV p n f i j < can))
def apJ (p : Int) (n : Nat) (f : Nat → Mv) (can : Int) (own : Nat) (ap : Bool) (i : Nat) : Nat → Bool
  | 0 => ap
  | j + 1 => apJ p n f can own ap i j && condI p n f can own i j
def apO (p : Int) (n : Nat) (f : Nat → Mv) (can : Int) (own : Nat) : Nat → Bool
  | 0 => true
  | i + 1 => apJ p n f can own (apO p n f can own i) i n
theorem cl7i (sure : Bool) (w : Int) (found : Nat) (can : Int) (own : Nat) (ap : Bool) (i j : Nat) : ClW (st7i sure w p n c f found can own ap i j) :=
  ⟨fun cs h v hv => by
    simp only [st7i, List.mem_singleton] at h
    subst h
    exact mvs_atoms n f _ List.mem_cons_self v hv, fun cs h => (by cases h)⟩
theorem cl7o (sure : Bool) (w : Int) (found : Nat) (can : Int) (own : Nat) (ap : Bool) (i : Nat) : ClW (st7o sure w p n c f found can own ap i) :=
  ⟨fun cs h v hv => by
    simp only [st7o, List.mem_singleton] at h
    subst h
    exact mvs_atoms n f _ List.mem_cons_self v hv, fun cs h => (by cases h)⟩
theorem loop7i (hok : okH p n f = true) (sure : Bool) (w : Int) (found : Nat) (can : Int) (own : Nat) (ap : Bool) {i : Nat} (hi : i < n) :
    LoopOW Try.prog none p7i T7i (st7i sure w p n c f found can own ap i 0) (.exit 2) T7i (st7i sure w p n c f found can own (apJ p n f can own ap i n) i n) := by
  have h7 := (okH_iff hok).n7
  refine loop_forW (Ts := [T7i]) (k := 4) (n := n) (e := .exit 2) (st := fun j => (0, st7i sure w p n c f found can own (apJ p n f can own ap i j) i j)) rfl vx_sound ?_ (by rw [nglob]; omega) ⟨by simp, trivial⟩ (fun j _ => cl7i sure w found can own _ i j) (fun j hj R hR => ?_) (fun R hR => ?_) rfl (Nat.le_of_ble_eq_true rfl) (by decide) rfl
  · intro T hT; simp only [List.mem_singleton] at hT; subst hT; rfl
  · have hw : IntKind.i64.wrap ((j : Int) + 1) = ((j + 1 : Nat) : Int) := wrapI (by omega) (by omega)
    have key : ∀ v, apJ p n f can own ap i (j + 1) = v → R 0 .normal (st7i sure w p n c f found can own v i (j + 1)) := fun v hv => by subst hv; exact hR
    simp only [apJ, condI] at key
    refine ⟨T7i, _, rfl, (b7i sure w p n c f found can own (apJ p n f can own ap i j) i j R).mpr ⟨fun _ => ?_, fun h => absurd (by omega) (of_decide_eq_false h)⟩⟩
    rw [hw]
    refine ⟨C18_ok p i j n c f hok hi hj h7, rfl, fun ha => ⟨⟨⟨by omega, by omega⟩, rfl⟩, fun h1 => ?_, fun h1 => ⟨⟨⟨by omega, by omega⟩, rfl⟩, fun h2 => ?_, fun h2 => ⟨fun h3 => ?_, fun h3 => ?_⟩⟩⟩, fun ha => ?_⟩
    · have h1 : nb own i = true := h1
      exact key true (by simp only [ha, h1, Bool.true_or, Bool.true_and])
    · have h1 : nb own i = false := h1
      have h2 : nb own j = true := h2
      exact key true (by simp only [ha, h1, h2, Bool.true_or, Bool.true_and, Bool.or_true])
    · have h1 : nb own i = false := h1
      have h2 : nb own j = false := h2
      exact key true (by simp only [ha, h1, h2, h3, Bool.true_and, Bool.or_true])
    · have h1 : nb own i = false := h1
      have h2 : nb own j = false := h2
      exact key false (by simp only [ha, h1, h2, h3, Bool.true_and, Bool.or_false])
    · exact key false (by simp only [ha, Bool.false_and])
  · exact ⟨T7i, _, rfl, (b7i sure w p n c f found can own (apJ p n f can own ap i n) i n R).mpr ⟨fun h => absurd (of_decide_eq_true h) (by omega), fun _ => hR⟩⟩
theorem loop7o (hok : okH p n f = true) (sure : Bool) (w : Int) (found : Nat) (can : Int) (own : Nat) :
    LoopOW Try.prog none p7o T7o (st7o sure w p n c f found can own true 0) (.exit 0) T7o (st7o sure w p n c f found can own (apO p n f can own n) n) := by
  have h7 := (okH_iff hok).n7
  refine loop_forW (Ts := [T7o]) (k := 4) (n := n) (e := .exit 0) (st := fun i => (0, st7o sure w p n c f found can own (apO p n f can own i) i)) rfl vx_sound ?_ (by rw [nglob]; omega) ⟨by simp, trivial⟩ (fun i _ => cl7o sure w found can own _ i) (fun i hi R hR => ?_) (fun R hR => ?_) rfl (Nat.le_of_ble_eq_true rfl) (by decide) rfl
  · intro T hT; simp only [List.mem_singleton] at hT; subst hT; rfl
  · have hw : IntKind.i64.wrap ((i : Int) + 1) = ((i + 1 : Nat) : Int) := wrapI (by omega) (by omega)
    refine ⟨T7o, _, rfl, (b7o sure w p n c f found can own (apO p n f can own i) (apO p n f can own (i + 1)) i R).mpr ⟨fun _ => ⟨cl7i sure w found can own _ i 0, loop7i hok sure w found can own _ hi, ?_⟩, fun h => absurd (by omega) (of_decide_eq_false h)⟩⟩
    rw [hw]
    exact hR
  · exact ⟨T7o, _, rfl, (b7o sure w p n c f found can own (apO p n f can own n) true n R).mpr ⟨fun h => absurd (of_decide_eq_true h) (by omega), fun _ => hR⟩⟩
end
end Go.Ab

/- Matching: what the search comes to. -/
namespace Go.Ab
/-- How many numbers below n are such. -/
def cnt (P : Nat → Bool) : Nat → Nat
  | 0 => 0
  | n + 1 => cnt P n + if P n = true then 1 else 0
theorem cnt_congr {P Q : Nat → Bool} {n : Nat} (h : ∀ i, i < n → P i = Q i) : cnt P n = cnt Q n := by
  induction n with
  | zero => rfl
  | succ n ih => simp only [cnt, ih (fun i hi => h i (by omega)), h n (by omega)]
theorem cnt_le (P : Nat → Bool) (n : Nat) : cnt P n ≤ n := by
  induction n with
  | zero => exact Nat.le_refl _
  | succ n ih => simp only [cnt]; split <;> omega
theorem cnt_upd {P Q : Nat → Bool} {n s : Nat} (hs : s < n) (h : ∀ i, i ≠ s → Q i = P i) : cnt Q n + (if P s = true then 1 else 0) = cnt P n + if Q s = true then 1 else 0 := by
  induction n with
  | zero => omega
  | succ n ih =>
    simp only [cnt]
    by_cases e : s = n
    · subst e
      rw [cnt_congr (P := Q) (Q := P) (fun i hi => h i (by omega))]
      omega
    · have := ih (by omega)
      rw [h n (fun e' => e e'.symm)]
      omega
theorem cnt_mono {P Q : Nat → Bool} {n : Nat} (h : ∀ i, i < n → P i = true → Q i = true) : cnt P n ≤ cnt Q n := by
  induction n with
  | zero => exact Nat.le_refl _
  | succ n ih =>
    have := ih (fun i hi => h i (by omega))
    simp only [cnt]
    cases hp : P n with
    | false => simp; omega
    | true => rw [h n (by omega) hp]; simp; omega
theorem cnt_not (P : Nat → Bool) (n : Nat) : cnt P n + cnt (fun i => !P i) n = n := by
  induction n with
  | zero => rfl
  | succ n ih =>
    simp only [cnt]
    by_cases hp : P n = true
    · simp only [hp, if_true, Bool.not_true, Bool.false_eq_true, if_false]; omega
    · have h2 : P n = false := by simpa using hp
      simp only [h2, Bool.false_eq_true, if_false, Bool.not_false, if_true]; omega
theorem cnt_pos {P : Nat → Bool} {n i : Nat} (hi : i < n) (h : P i = true) : 0 < cnt P n := by
  induction n with
  | zero => omega
  | succ n ih =>
    simp only [cnt]
    by_cases e : i = n
    · subst e; rw [if_pos h]; omega
    · have := ih (by omega); omega
theorem cnt_ex {P : Nat → Bool} {n : Nat} (h : 0 < cnt P n) : ∃ i, i < n ∧ P i = true := by
  induction n with
  | zero => cases h
  | succ n ih =>
    simp only [cnt] at h
    by_cases hp : P n = true
    · exact ⟨n, by omega, hp⟩
    · rw [if_neg hp] at h
      obtain ⟨i, h1, h2⟩ := ih h
      exact ⟨i, by omega, h2⟩
theorem cnt_one {P : Nat → Bool} {n i j : Nat} (h : cnt P n ≤ 1) (hi : i < n) (hj : j < n) (pi : P i = true) (pj : P j = true) : i = j := by
  induction n with
  | zero => omega
  | succ n ih =>
    simp only [cnt] at h
    by_cases ei : i = n <;> by_cases ej : j = n
    · omega
    · subst ei
      rw [if_pos pi] at h
      have := cnt_pos (P := P) (n := i) (i := j) (by omega) pj
      omega
    · subst ej
      rw [if_pos pj] at h
      have := cnt_pos (P := P) (n := j) (i := i) (by omega) pi
      omega
    · exact ih (by omega) (by omega) (by omega)
/-- What can be told apart in others is no more than they. -/
theorem cnt_inj {m : Nat} (g : Nat → Nat) (n : Nat) : ∀ {P Q : Nat → Bool}, (∀ i, i < n → P i = true → g i < m ∧ Q (g i) = true) → (∀ i j, i < n → j < n → P i = true → P j = true → g i = g j → i = j) → cnt P n ≤ cnt Q m := by
  induction n with
  | zero => intro P Q _ _; exact Nat.zero_le _
  | succ n ih =>
    intro P Q h hi
    simp only [cnt]
    cases hp : P n with
    | false =>
      have := ih (P := P) (Q := Q) (fun i hi => h i (by omega)) (fun i j a b => hi i j (by omega) (by omega))
      simpa using this
    | true =>
      obtain ⟨g1, g2⟩ := h n (by omega) hp
      have := ih (P := P) (Q := fun j => if j = g n then false else Q j) (fun i hi' hpi => by
        obtain ⟨g3, g4⟩ := h i (by omega) hpi
        refine ⟨g3, ?_⟩
        show (if g i = g n then false else Q (g i)) = true
        rw [if_neg (fun e => by have := hi i n (by omega) (by omega) hpi hp e; omega)]
        exact g4) (fun i j a b => hi i j (by omega) (by omega))
      have h2 := cnt_upd (P := Q) (Q := fun j => if j = g n then false else Q j) g1 (fun i hne => by simp [hne])
      simp only [if_true, g2, Bool.false_eq_true, if_false] at h2 ⊢
      omega
section
variable (can : Nat → Nat → Bool) (q : Nat → Nat) (n : Nat)
def trN (σ : Ms) (s : Nat) : Prop := σ.T.testBit (q s) = true
def Val (M : List (Nat × Nat)) : Prop := ∀ s o, getN M s = some o → s < n ∧ o < n ∧ can o s = true
def cntL (M : List (Nat × Nat)) (l : Nat) : Nat := cnt (fun s => getN M s == some l) n
def Closed (M : List (Nat × Nat)) (S : Nat → Prop) : Prop := ∀ s, s < n → S s → ∃ o, getN M s = some o ∧ ∀ t, t < n → can o t = true → S t
structure RecOK (rec : Nat → Ms → Bool × Ms) (k : Nat) : Prop where
  f0 : ∀ a σ s, trN q σ s → trN q (rec a σ).2 s
  f1 : ∀ a σ s, s < n → trN q σ s → getN (rec a σ).2.M s = getN σ.M s
  f2 : ∀ a σ, (rec a σ).1 = false → (rec a σ).2.M = σ.M
  f3 : ∀ a σ, a < n → Val can n σ.M → Val can n (rec a σ).2.M
  f4 : ∀ a σ l, (rec a σ).1 = true → cntL n (rec a σ).2.M l = cntL n σ.M l + if l = a then 1 else 0
  f5 : ∀ a σ, unt q n σ < k → (rec a σ).1 = false → (∀ s, s < n → can a s = true → trN q (rec a σ).2 s) ∧ ∀ s, s < n → trN q (rec a σ).2 s → ¬ trN q σ s → ∃ b, getN σ.M s = some b ∧ ∀ t, t < n → can b t = true → trN q (rec a σ).2 t
  f6 : ∀ a σ S, Closed can n σ.M S → (∀ s, s < n → S s → getN (rec a σ).2.M s = getN σ.M s) ∧ ((∀ s, s < n → can a s = true → S s) → (rec a σ).1 = false)
variable {can q n}
theorem tr_mark (hq : ∀ i j, i < n → j < n → q i = q j → i = j) {σ : Ms} {s t : Nat} (hs : s < n) (ht : t < n) : trN q (markN q σ s) t ↔ trN q σ t ∨ t = s := by
  unfold trN markN
  rw [Nat.testBit_or, Bool.or_eq_true]
  refine or_congr Iff.rfl ⟨fun h => ?_, fun h => by subst h; exact Nat.testBit_two_pow_self⟩
  by_cases e : q s = q t
  · exact (hq s t hs ht e).symm
  · rw [Nat.testBit_two_pow_of_ne e] at h; cases h
theorem cntL_put {M : List (Nat × Nat)} {s a l : Nat} (hs : s < n) : cntL n (setN M s a) l + (if getN M s = some l then 1 else 0) = cntL n M l + if l = a then 1 else 0 := by
  have := cnt_upd (P := fun t => getN M t == some l) (Q := fun t => getN (setN M s a) t == some l) hs (fun i hi => by simp only [getN_set, if_neg hi])
  simp only [getN_set, if_true] at this
  have e1 : ((getN M s == some l) = true) = (getN M s = some l) := propext ⟨eq_of_beq, fun h => by rw [h]; exact beq_self_eq_true _⟩
  have e2 : ((some a == some l) = true) = (l = a) := propext ⟨fun h => by have := eq_of_beq h; cases this; rfl, fun h => by rw [h]; exact beq_self_eq_true _⟩
  simp only [e1, e2] at this
  unfold cntL
  simp only [getN_set]
  exact this
theorem goF_ok (hq : ∀ i j, i < n → j < n → q i = q j → i = j) {rec : Nat → Ms → Bool × Ms} {k : Nat} (h : RecOK can q n rec k) (a r : Nat) : ∀ s σ, s + r = n →
    (∀ t, trN q σ t → trN q (goF can q rec a r s σ).2 t) ∧
    (∀ t, t < n → trN q σ t → getN (goF can q rec a r s σ).2.M t = getN σ.M t) ∧
    ((goF can q rec a r s σ).1 = false → (goF can q rec a r s σ).2.M = σ.M) ∧
    (a < n → Val can n σ.M → Val can n (goF can q rec a r s σ).2.M) ∧
    (∀ l, (goF can q rec a r s σ).1 = true → cntL n (goF can q rec a r s σ).2.M l = cntL n σ.M l + if l = a then 1 else 0) ∧
    (unt q n σ < k + 1 → (goF can q rec a r s σ).1 = false → (∀ t, s ≤ t → t < n → can a t = true → trN q (goF can q rec a r s σ).2 t) ∧ ∀ t, t < n → trN q (goF can q rec a r s σ).2 t → ¬ trN q σ t → ∃ b, getN σ.M t = some b ∧ ∀ u, u < n → can b u = true → trN q (goF can q rec a r s σ).2 u) ∧
    (∀ S, Closed can n σ.M S → (∀ t, t < n → S t → getN (goF can q rec a r s σ).2.M t = getN σ.M t) ∧ ((∀ t, t < n → can a t = true → S t) → (goF can q rec a r s σ).1 = false)) := by
  induction r with
  | zero =>
    intro s σ hs
    refine ⟨fun t h => h, fun t _ _ => rfl, fun _ => rfl, fun _ h => h, fun l h => (by cases h), fun _ _ => ⟨fun t h1 h2 => by omega, fun t _ h1 h2 => absurd h1 h2⟩, fun S _ => ⟨fun t _ _ => rfl, fun _ => rfl⟩⟩
  | succ r ih =>
    intro s σ hs
    have hsn : s < n := by omega
    by_cases hskip : (σ.T.testBit (q s) || !(can a s)) = true
    · rw [goF_skip hskip]
      obtain ⟨i0, i1, i2, i3, i4, i5, i6⟩ := ih (s + 1) σ (by omega)
      refine ⟨i0, i1, i2, i3, i4, fun hu hf => ?_, i6⟩
      obtain ⟨j1, j2⟩ := i5 hu hf
      refine ⟨fun t ht1 ht2 hc => ?_, j2⟩
      by_cases e : t = s
      · subst e
        simp only [hc, Bool.not_true, Bool.or_false] at hskip
        exact i0 t hskip
      · exact j1 t (by omega) ht2 hc
    · have hgo : (σ.T.testBit (q s) || !(can a s)) = false := by simpa using hskip
      have hnt : ¬ trN q σ s := by
        intro h
        unfold trN at h
        rw [h] at hgo
        cases hgo
      have hcan : can a s = true := by
        cases hc : can a s with
        | true => rfl
        | false => rw [hc] at hgo; simp at hgo
      have hmk : ∀ t, t < n → (trN q (markN q σ s) t ↔ trN q σ t ∨ t = s) := fun t ht => tr_mark hq hsn ht
      cases hg : getN σ.M s with
      | none =>
        rw [goF_none hgo hg]
        refine ⟨fun t h => mark_mono σ s _ h, fun t ht h => ?_, fun h => (by cases h), fun ha hv u o hu => ?_, fun l _ => ?_, fun _ h => (by cases h), fun S hS => ⟨fun t ht hSt => ?_, fun hN => ?_⟩⟩
        · show getN (setN σ.M s a) t = _
          rw [getN_set, if_neg (fun e => by subst e; exact hnt h)]
        · have hu : getN (setN σ.M s a) u = some o := hu
          rw [getN_set] at hu
          split at hu
          · rename_i e
            cases hu
            subst e
            exact ⟨hsn, ha, hcan⟩
          · exact hv u o hu
        · have := cntL_put (M := σ.M) (a := a) (l := l) hsn
          rw [hg] at this
          show cntL n (setN σ.M s a) l = _
          simpa using this
        · show getN (setN σ.M s a) t = _
          rw [getN_set, if_neg (fun e => by subst e; obtain ⟨o, ho, _⟩ := hS t ht hSt; rw [hg] at ho; cases ho)]
        · obtain ⟨o, ho, _⟩ := hS s hsn (hN s hsn hcan)
          rw [hg] at ho; cases ho
      | some b =>
        have f0 := fun t => h.f0 b (markN q σ s) t
        have f1 := fun t => h.f1 b (markN q σ s) t
        have f2 := h.f2 b (markN q σ s)
        have f3 := h.f3 b (markN q σ s)
        have f4 := fun l => h.f4 b (markN q σ s) l
        have f5 := h.f5 b (markN q σ s)
        have f6 := fun S => h.f6 b (markN q σ s) S
        have hlt : unt q n σ < k + 1 → unt q n (markN q σ s) < k := fun hu => by
          have := unt_mark (q := q) (n := n) hsn (σ := σ) (by unfold trN at hnt; simpa using hnt)
          omega
        cases hr : rec b (markN q σ s) with
        | mk rb σ2 =>
        rw [hr] at f0 f1 f2 f3 f4 f5 f6
        cases rb with
        | true =>
          rw [goF_true hgo hg hr]
          have hs2 : getN σ2.M s = some b := by rw [f1 s hsn ((hmk s hsn).2 (.inr rfl))]; exact hg
          refine ⟨fun t h => f0 t (mark_mono σ s _ h), fun t ht h => ?_, fun h => (by cases h), fun ha hv u o hu => ?_, fun l _ => ?_, fun _ h => (by cases h), fun S hS => ⟨fun t ht hSt => ?_, fun hN => ?_⟩⟩
          · show getN (setN σ2.M s a) t = _
            rw [getN_set, if_neg (fun e => by subst e; exact hnt h)]
            exact f1 t ht (mark_mono σ s _ h)
          · have hu : getN (setN σ2.M s a) u = some o := hu
            rw [getN_set] at hu
            split at hu
            · rename_i e
              cases hu
              subst e
              exact ⟨hsn, ha, hcan⟩
            · exact f3 (hv s b hg).2.1 hv u o hu
          · have h1 := cntL_put (M := σ2.M) (a := a) (l := l) hsn
            have h2 := f4 l rfl
            rw [hs2] at h1
            have e3 : (if some b = some l then 1 else 0) = if l = b then 1 else (0 : Nat) := by
              by_cases e : l = b
              · subst e; simp
              · rw [if_neg e, if_neg (fun h => by cases h; exact e rfl)]
            rw [e3] at h1
            simp only [markN] at h2
            show cntL n (setN σ2.M s a) l = _
            omega
          · have hns : ¬ S s := fun hSs => by
              obtain ⟨o, ho, hN⟩ := hS s hsn hSs
              rw [hg] at ho
              cases ho
              have := (f6 S hS).2 hN
              cases this
            show getN (setN σ2.M s a) t = _
            rw [getN_set, if_neg (fun e => by subst e; exact hns hSt)]
            exact (f6 S hS).1 t ht hSt
          · obtain ⟨o, ho, hN2⟩ := hS s hsn (hN s hsn hcan)
            rw [hg] at ho
            cases ho
            have := (f6 S hS).2 hN2
            cases this
        | false =>
          rw [goF_false hgo hg hr]
          have hM : σ2.M = σ.M := f2 rfl
          obtain ⟨i0, i1, i2, i3, i4, i5, i6⟩ := ih (s + 1) σ2 (by omega)
          rw [hM] at i1 i2 i3 i4 i5 i6
          refine ⟨fun t h => i0 t (f0 t (mark_mono σ s _ h)), fun t ht h => i1 t ht (f0 t (mark_mono σ s _ h)), i2, i3, i4, fun hu hf => ?_, i6⟩
          obtain ⟨g1, g2⟩ := f5 (hlt hu) rfl
          have hu2 : unt q n σ2 < k + 1 := by
            have h1 := unt_mono (q := q) (n := n) (σ := markN q σ s) (σ' := markN q σ s) (fun j h => h)
            have h2 : unt q n σ2 ≤ unt q n (markN q σ s) := by
              unfold unt
              have key : ∀ m, m ≤ n → ((List.range m).filter fun s => !σ2.T.testBit (q s)).length ≤ ((List.range m).filter fun t => !(markN q σ s).T.testBit (q t)).length := by
                intro m
                induction m with
                | zero => intro _; simp
                | succ m ihm =>
                  intro hm
                  have := ihm (by omega)
                  simp only [List.range_succ, List.filter_append, List.length_append]
                  have : ([m].filter fun s => !σ2.T.testBit (q s)).length ≤ ([m].filter fun t => !(markN q σ s).T.testBit (q t)).length := by
                    cases h4 : (markN q σ s).T.testBit (q m) with
                    | true => have := f0 m h4; unfold trN at this; simp [h4, this]
                    | false => cases h5 : σ2.T.testBit (q m) <;> simp [h4, h5]
                  omega
              exact key n (Nat.le_refl n)
            have := hlt hu
            omega
          obtain ⟨j1, j2⟩ := i5 hu2 hf
          refine ⟨fun t ht1 ht2 hc => ?_, fun t ht ht1 ht2 => ?_⟩
          · by_cases e : t = s
            · subst e
              exact i0 t (f0 t ((hmk t ht2).2 (.inr rfl)))
            · exact j1 t (by omega) ht2 hc
          · by_cases e2 : trN q σ2 t
            · by_cases e3 : t = s
              · subst e3
                exact ⟨b, hg, fun u hu' hc => i0 u (g1 u hu' hc)⟩
              · obtain ⟨b', h1, h2⟩ := g2 t ht e2 (fun hm => by
                  rcases (hmk t ht).1 hm with h3 | h3
                  · exact ht2 h3
                  · exact e3 h3)
                exact ⟨b', h1, fun u hu' hc => i0 u (h2 u hu' hc)⟩
            · exact j2 t ht ht1 e2
theorem matchF_ok (hq : ∀ i j, i < n → j < n → q i = q j → i = j) (k : Nat) : RecOK can q n (matchF can q n k) k := by
  induction k with
  | zero => exact ⟨fun _ _ _ h => h, fun _ _ _ _ _ => rfl, fun _ _ _ => rfl, fun _ _ _ h => h, fun _ _ _ h => (by cases h), fun _ _ h => (by omega), fun _ _ _ _ => ⟨fun _ _ _ => rfl, fun _ => rfl⟩⟩
  | succ k ih =>
    have key := fun a σ => goF_ok hq ih a n 0 σ (by omega)
    refine ⟨fun a σ => (key a σ).1, fun a σ => (key a σ).2.1, fun a σ => (key a σ).2.2.1, fun a σ => (key a σ).2.2.2.1, fun a σ => (key a σ).2.2.2.2.1, fun a σ hu hf => ?_, fun a σ => (key a σ).2.2.2.2.2.2⟩
    obtain ⟨h1, h2⟩ := (key a σ).2.2.2.2.2.1 hu hf
    exact ⟨fun s hs hc => h1 s (Nat.zero_le s) hs hc, h2⟩
end
end Go.Ab

/- Matching: as few as the most of which no one can follow another one. -/
namespace Go.Ab
theorem cnt_add {A X S : Nat → Bool} {n : Nat} (h : ∀ i, i < n → A i = true → X i = true ∨ S i = true) : cnt A n ≤ cnt X n + cnt S n := by
  induction n with
  | zero => exact Nat.zero_le _
  | succ n ih =>
    have := ih (fun i hi => h i (by omega))
    simp only [cnt]
    by_cases ha : A n = true
    · rcases h n (by omega) ha with hx | hs
      · rw [if_pos ha, if_pos hx]; split <;> omega
      · rw [if_pos ha, if_pos hs]; split <;> omega
    · rw [if_neg ha]; omega
theorem cnt_dis {A F P : Nat → Bool} {n : Nat} (h1 : ∀ i, i < n → F i = true → A i = true ∧ P i = false) (h2 : ∀ i, i < n → P i = true → A i = true) : cnt F n + cnt P n ≤ cnt A n := by
  induction n with
  | zero => exact Nat.le_refl _
  | succ n ih =>
    have := ih (fun i hi => h1 i (by omega)) (fun i hi => h2 i (by omega))
    simp only [cnt]
    by_cases hf : F n = true
    · obtain ⟨ha, hp⟩ := h1 n (by omega) hf
      rw [if_pos hf, if_pos ha, if_neg (by simp [hp])]
      omega
    · by_cases hp : P n = true
      · rw [if_neg hf, if_pos hp, if_pos (h2 n (by omega) hp)]; omega
      · rw [if_neg hf, if_neg hp]; split <;> omega
section
variable {can : Nat → Nat → Bool} {q : Nat → Nat} {n : Nat}
/-- What holds when so many jobs were looked at. -/
structure FewOK (can : Nat → Nat → Bool) (n j : Nat) (M : List (Nat × Nat)) (many : Nat) (F S : Nat → Bool) : Prop where
  val : Val can n M
  cl : ∀ l, cntL n M l = if l < j ∧ F l = false then 1 else 0
  lt : ∀ l, F l = true → l < j
  many : cnt F n = many
  closed : Closed can n M (fun s => S s = true)
  out : ∀ l, F l = true → ∀ t, t < n → can l t = true → S t = true
theorem cnt_false (n : Nat) : cnt (fun _ => false) n = 0 := by
  induction n with
  | zero => rfl
  | succ n ih => simp only [cnt, ih]; rfl
theorem fewS_inv (hq : ∀ i j, i < n → j < n → q i = q j → i = j) (hn : n ≤ 7) (j : Nat) (hj : j ≤ n) : ∃ F S, FewOK can n j (fewS can q n j).1.M (fewS can q n j).2 F S := by
  induction j with
  | zero =>
    refine ⟨fun _ => false, fun _ => false, ⟨fun s o h => (by cases h), fun l => ?_, fun l h => (by cases h), cnt_false n, fun s _ h => (by cases h), fun l h => (by cases h)⟩⟩
    rw [if_neg (by omega)]
    show cnt (fun s => getN [] s == some l) n = 0
    exact cnt_false n
  | succ j ih =>
    obtain ⟨F, S, h⟩ := ih (by omega)
    have hM := matchF_ok (can := can) hq 8
    have f2 := hM.f2 j ⟨0, (fewS can q n j).1.M⟩
    have f3 := hM.f3 j ⟨0, (fewS can q n j).1.M⟩ (by omega) h.val
    have f4 := fun l => hM.f4 j ⟨0, (fewS can q n j).1.M⟩ l
    have f5 := hM.f5 j ⟨0, (fewS can q n j).1.M⟩ (by have := unt_le (q := q) (n := n) ⟨0, (fewS can q n j).1.M⟩; omega)
    have f6 := hM.f6 j ⟨0, (fewS can q n j).1.M⟩ (fun s => S s = true) h.closed
    have hFj : F j = false := by
      cases hf : F j with
      | false => rfl
      | true => have := h.lt j hf; omega
    simp only [fewS]
    cases hr : matchF can q n 8 j ⟨0, (fewS can q n j).1.M⟩ with
    | mk b σ' =>
    rw [hr] at f2 f3 f4 f5 f6
    cases b with
    | true =>
      refine ⟨F, S, ⟨f3, fun l => ?_, fun l hl => (by have := h.lt l hl; omega), by rw [if_pos rfl]; exact h.many, fun s hs hS => ?_, h.out⟩⟩
      · have h1 := f4 l rfl
        have h2 := h.cl l
        simp only at h1
        rw [h1, h2]
        by_cases e : l = j
        · subst e
          rw [if_neg (by omega), if_pos rfl, if_pos ⟨by omega, hFj⟩]
        · rw [if_neg e]
          by_cases e2 : l < j ∧ F l = false
          · rw [if_pos e2, if_pos ⟨by omega, e2.2⟩]
          · rw [if_neg e2, if_neg (fun h => e2 ⟨by omega, h.2⟩)]
      · obtain ⟨o, ho, hN⟩ := h.closed s hs hS
        exact ⟨o, by rw [f6.1 s hs hS]; exact ho, hN⟩
    | false =>
      have hM' : σ'.M = (fewS can q n j).1.M := f2 rfl
      obtain ⟨g1, g2⟩ := f5 rfl
      refine ⟨fun l => if l = j then true else F l, fun s => S s || σ'.T.testBit (q s), ⟨f3, fun l => ?_, fun l hl => ?_, ?_, fun s hs hS => ?_, fun l hl t ht hc => ?_⟩⟩
      · show cntL n σ'.M l = _
        rw [hM', h.cl l]
        by_cases e : l = j
        · subst e
          rw [if_neg (by omega), if_neg (by simp)]
        · simp only [if_neg e]
          by_cases e2 : l < j ∧ F l = false
          · rw [if_pos e2, if_pos ⟨by omega, e2.2⟩]
          · rw [if_neg e2, if_neg (fun h => e2 ⟨by omega, h.2⟩)]
      · by_cases e : l = j
        · omega
        · have hl : (if l = j then true else F l) = true := hl
          rw [if_neg e] at hl
          have := h.lt l hl
          omega
      · have := cnt_upd (P := F) (Q := fun l => if l = j then true else F l) (n := n) (s := j) (by omega) (fun i hi => by simp [hi])
        simp only [hFj, Bool.false_eq_true, if_false, if_true] at this
        rw [if_neg (by simp)]
        have := h.many
        omega
      · show ∃ o, getN σ'.M s = some o ∧ _
        rw [hM']
        cases hs1 : S s with
        | true =>
          obtain ⟨o, ho, hN⟩ := h.closed s hs hs1
          exact ⟨o, ho, fun t ht hc => by have := hN t ht hc; show (S t || σ'.T.testBit (q t)) = true; rw [this]; rfl⟩
        | false =>
          have hS : (S s || σ'.T.testBit (q s)) = true := hS
          rw [hs1, Bool.false_or] at hS
          obtain ⟨o, ho, hN⟩ := g2 s hs hS (by unfold trN; simp)
          exact ⟨o, ho, fun t ht hc => by have := hN t ht hc; show (S t || σ'.T.testBit (q t)) = true; rw [show σ'.T.testBit (q t) = true from this, Bool.or_true]⟩
      · by_cases e : l = j
        · subst e
          have := g1 t ht hc
          show (S t || σ'.T.testBit (q t)) = true
          rw [show σ'.T.testBit (q t) = true from this, Bool.or_true]
        · have hl : (if l = j then true else F l) = true := hl
          rw [if_neg e] at hl
          have := h.out l hl t ht hc
          show (S t || σ'.T.testBit (q t)) = true
          rw [this]; rfl
/-- No one of these can follow another one. -/
def Anti (can : Nat → Nat → Bool) (n : Nat) (X : Nat → Bool) : Prop := ∀ i j, i < n → j < n → X i = true → X j = true → can i j = false
theorem FewOK.one {M : List (Nat × Nat)} {many : Nat} {F S : Nat → Bool} {j : Nat} (h : FewOK can n j M many F S) {s t o : Nat} (hs : getN M s = some o) (ht : getN M t = some o) : s = t := by
  have h1 := h.cl o
  have h2 : cntL n M o ≤ 1 := by rw [h1]; split <;> omega
  exact cnt_one h2 (h.val s o hs).1 (h.val t o ht).1 (by rw [hs]; exact beq_self_eq_true _) (by rw [ht]; exact beq_self_eq_true _)
theorem anti_ex (hq : ∀ i j, i < n → j < n → q i = q j → i = j) (hn : n ≤ 7) : ∃ X, Anti can n X ∧ fewN can q n ≤ cnt X n := by
  obtain ⟨F, S, h⟩ := fewS_inv (can := can) hq hn n (Nat.le_refl n)
  have hF : cnt F n = fewN can q n := h.many
  generalize (fewS can q n n).1.M = M at h
  let P : Nat → Bool := fun i => decide (0 < cnt (fun s => S s && getN M s == some i) n)
  have hP : ∀ i, P i = true ↔ ∃ s, s < n ∧ S s = true ∧ getN M s = some i := fun i => by
    simp only [P, decide_eq_true_eq]
    refine ⟨fun hp => ?_, fun ⟨s, h1, h2, h3⟩ => ?_⟩
    · obtain ⟨s, h1, h2⟩ := cnt_ex hp
      simp only [Bool.and_eq_true] at h2
      exact ⟨s, h1, h2.1, eq_of_beq h2.2⟩
    · exact cnt_pos h1 (by simp only [h2, Bool.true_and, h3]; exact beq_self_eq_true _)
  refine ⟨fun i => (F i || P i) && !(S i), fun i j hi hj hx hy => ?_, ?_⟩
  · simp only [Bool.and_eq_true, Bool.or_eq_true, Bool.not_eq_true'] at hx hy
    cases hc : can i j with
    | false => rfl
    | true =>
      have : S j = true := by
        rcases hx.1 with hf | hp
        · exact h.out i hf j hj hc
        · obtain ⟨s, h1, h2, h3⟩ := (hP i).1 hp
          obtain ⟨o, ho, hN⟩ := h.closed s h1 h2
          rw [h3] at ho
          cases ho
          exact hN j hj hc
      rw [this] at hy
      cases hy.2
  · have h1 : cnt (fun i => F i || P i) n ≤ cnt (fun i => (F i || P i) && !(S i)) n + cnt S n := cnt_add fun i _ hi => by
      cases hs : S i with
      | true => exact .inr rfl
      | false =>
        left
        have hi : (F i || P i) = true := hi
        simp only [hi, Bool.true_and, Bool.not_false]
    have h2 : cnt F n + cnt P n ≤ cnt (fun i => F i || P i) n := cnt_dis (fun i hi hf => ⟨by show (F i || P i) = true; rw [hf]; rfl, by
      cases hp : P i with
      | false => rfl
      | true =>
        obtain ⟨s, h1, h2, h3⟩ := (hP i).1 hp
        have h4 := h.cl i
        rw [if_neg (by simp [hf])] at h4
        have h5 : 0 < cntL n M i := cnt_pos h1 (by rw [h3]; exact beq_self_eq_true _)
        omega⟩) (fun i hi hp => by show (F i || P i) = true; rw [hp, Bool.or_true])
    have h3 : cnt S n ≤ cnt P n := cnt_inj (fun s => (getN M s).getD 0) n (fun s hs hS => by
      obtain ⟨o, ho, _⟩ := h.closed s hs hS
      refine ⟨?_, ?_⟩
      · rw [ho]; exact (h.val s o ho).2.1
      · rw [ho]; exact (hP o).2 ⟨s, hs, hS, ho⟩) (fun s t hs ht hS hT he => by
      obtain ⟨o, ho, _⟩ := h.closed s hs hS
      obtain ⟨o', ho', _⟩ := h.closed t ht hT
      simp only [ho, ho', Option.getD_some] at he
      subst he
      exact h.one ho ho')
    omega
/-- One comes behind another one, job after job of one horse. -/
inductive Down (M : List (Nat × Nat)) : Nat → Nat → Prop
  | refl (i : Nat) : Down M i i
  | step {r o s : Nat} (h : Down M r o) (hs : getN M s = some o) : Down M r s
theorem Down.first {M : List (Nat × Nat)} {i j : Nat} (h : Down M i j) : i = j ∨ ∃ s, getN M s = some i ∧ Down M s j := by
  induction h with
  | refl => exact .inl rfl
  | step _ hs ih =>
    rcases ih with rfl | ⟨s', h1, h2⟩
    · exact .inr ⟨_, hs, .refl _⟩
    · exact .inr ⟨s', h1, .step h2 hs⟩
theorem Down.cmp {M : List (Nat × Nat)} (h1 : ∀ s t o, getN M s = some o → getN M t = some o → s = t) {r i j : Nat} (hi : Down M r i) (hj : Down M r j) : Down M i j ∨ Down M j i := by
  induction hi with
  | refl => exact .inl hj
  | step _ hs ih =>
    rcases ih with h | h
    · rcases h.first with rfl | ⟨s', h2, h3⟩
      · exact .inr (.step (.refl _) hs)
      · rw [h1 _ _ _ hs h2]; exact .inl h3
    · exact .inr (.step h hs)
theorem Down.link {M : List (Nat × Nat)} (hv : Val can n M) (tra : ∀ i j k, i < n → j < n → k < n → can i j = true → can j k = true → can i k = true) {i j : Nat} (hi : i < n) (h : Down M i j) : j < n ∧ (i = j ∨ can i j = true) := by
  induction h with
  | refl => exact ⟨hi, .inl rfl⟩
  | step _ hs ih =>
    obtain ⟨a, b, c⟩ := hv _ _ hs
    refine ⟨a, .inr ?_⟩
    rcases ih.2 with rfl | h2
    · exact c
    · exact tra _ _ _ hi ih.1 a h2 c
/-- Each one comes behind one that nobody comes before. -/
theorem root_ex {M : List (Nat × Nat)} (hv : Val can n M) (μ : Nat → Nat) (hμ : ∀ i j, i < n → j < n → can i j = true → μ i < μ j) : ∀ k i, μ i < k → i < n → ∃ r, r < n ∧ getN M r = none ∧ Down M r i := by
  intro k
  induction k with
  | zero => intro i h; omega
  | succ k ih =>
    intro i hk hi
    cases hg : getN M i with
    | none => exact ⟨i, hi, hg, .refl i⟩
    | some o =>
      obtain ⟨a, b, c⟩ := hv _ _ hg
      have := hμ o i b a c
      obtain ⟨r, h1, h2, h3⟩ := ih o (by omega) b
      exact ⟨r, h1, h2, .step h3 hg⟩
theorem roots_le {M : List (Nat × Nat)} {many : Nat} {F S : Nat → Bool} (h : FewOK can n n M many F S) : cnt (fun i => (getN M i).isNone) n ≤ many := by
  have h1 := cnt_not (fun i => (getN M i).isNone) n
  have h2 := cnt_not F n
  have h3 : cnt (fun i => !F i) n ≤ cnt (fun i => !(getN M i).isNone) n := by
    have hex : ∀ l, l < n → F l = false → ∃ s, s < n ∧ getN M s = some l := fun l hl hf => by
      have h4 := h.cl l
      rw [if_pos ⟨hl, hf⟩] at h4
      obtain ⟨s, h5, h6⟩ := cnt_ex (show 0 < cntL n M l by omega)
      exact ⟨s, h5, eq_of_beq h6⟩
    refine cnt_inj (fun l => if hx : ∃ s, s < n ∧ getN M s = some l then Classical.choose hx else 0) n (fun l hl hf => ?_) (fun l m hl hm hf hf' he => ?_)
    · have hf : F l = false := by simpa using hf
      have hx := hex l hl hf
      simp only [dif_pos hx]
      have := Classical.choose_spec hx
      refine ⟨this.1, ?_⟩
      rw [this.2]; rfl
    · have hf : F l = false := by simpa using hf
      have hf' : F m = false := by simpa using hf'
      have hx := hex l hl hf
      have hy := hex m hm hf'
      simp only [dif_pos hx, dif_pos hy] at he
      have h5 := (Classical.choose_spec hx).2
      have h6 := (Classical.choose_spec hy).2
      rw [he, h6] at h5
      cases h5
      rfl
  have := h.many
  omega
theorem anti_le (hq : ∀ i j, i < n → j < n → q i = q j → i = j) (hn : n ≤ 7) (μ : Nat → Nat) (hμ : ∀ i j, i < n → j < n → can i j = true → μ i < μ j)
    (tra : ∀ i j k, i < n → j < n → k < n → can i j = true → can j k = true → can i k = true) {X : Nat → Bool} (hX : Anti can n X) : cnt X n ≤ fewN can q n := by
  obtain ⟨F, S, h⟩ := fewS_inv (can := can) hq hn n (Nat.le_refl n)
  have h0 := roots_le h
  have hv := h.val
  have h1 : ∀ s t o, getN (fewS can q n n).1.M s = some o → getN (fewS can q n n).1.M t = some o → s = t := fun s t o a b => h.one a b
  refine Nat.le_trans ?_ h0
  generalize (fewS can q n n).1.M = M at hv h1
  have hr : ∀ i, i < n → ∃ r, r < n ∧ getN M r = none ∧ Down M r i := fun i hi => root_ex hv μ hμ (μ i + 1) i (by omega) hi
  classical
  refine cnt_inj (fun i => if hx : ∃ r, r < n ∧ getN M r = none ∧ Down M r i then Classical.choose hx else 0) n (fun i hi _ => ?_) (fun i j hi hj hx hy he => ?_)
  · simp only [dif_pos (hr i hi)]
    have := Classical.choose_spec (hr i hi)
    exact ⟨this.1, by rw [this.2.1]; rfl⟩
  · simp only [dif_pos (hr i hi), dif_pos (hr j hj)] at he
    have h5 := (Classical.choose_spec (hr i hi)).2.2
    have h6 := (Classical.choose_spec (hr j hj)).2.2
    rw [he] at h5
    rcases Down.cmp h1 h5 h6 with h7 | h7
    · rcases (h7.link hv tra hi).2 with e | e
      · exact e
      · rw [hX i j hi hj hx hy] at e; cases e
    · rcases (h7.link hv tra hj).2 with e | e
      · exact e.symm
      · rw [hX j i hj hi hy hx] at e; cases e
end
end Go.Ab

/- package horse: the proof has as many moves as horses are needed; without a move. -/
set_option maxRecDepth 100000
namespace Go.Ab
open Go Go.RowKit Go.Proofs
/-! ### Sets as numbers -/
theorem popN_cnt (x : Nat) : popN x = cnt x.testBit 7 := by
  have key : ∀ n, ((List.range n).filter fun i => x.testBit i).length = cnt x.testBit n := by
    intro n
    induction n with
    | zero => rfl
    | succ n ih =>
      rw [List.range_succ, List.filter_append, List.length_append, ih]
      simp only [cnt]
      by_cases h : x.testBit n = true
      · rw [if_pos h]; simp [h]
      · rw [if_neg h]; simp [h]
  exact key 7
theorem cnt_ext {P : Nat → Bool} {n : Nat} (h : ∀ i, n ≤ i → P i = false) : ∀ m, n ≤ m → cnt P m = cnt P n := by
  intro m
  induction m with
  | zero => intro hm; have : n = 0 := by omega
            subst this; rfl
  | succ m ih =>
    intro hm
    by_cases e : n = m + 1
    · subst e; rfl
    · simp only [cnt, ih (by omega), h m (by omega)]
      simp
theorem bit_lt {x n i : Nat} (hx : x < 2 ^ n) (hi : n ≤ i) : x.testBit i = false := Nat.testBit_lt_two_pow (Nat.lt_of_lt_of_le hx (Nat.pow_le_pow_right (by omega) hi))
theorem popN_n {x n : Nat} (hn : n ≤ 7) (hx : x < 2 ^ n) : popN x = cnt x.testBit n := by
  rw [popN_cnt]
  exact cnt_ext (fun i hi => bit_lt hx hi) 7 hn
theorem popN_mask (X : Nat → Bool) {n : Nat} (hn : n ≤ 7) : popN (maskN X n) = cnt X n := by
  rw [popN_n hn (maskN_lt X n)]
  exact cnt_congr fun i hi => by rw [maskN_bit]; simp [hi]
section
variable {p : Int} {n : Nat} {f : Nat → Mv} {sure : Bool}
theorem ord_lt (hn : n ≤ 7) {i : Nat} (hi : i < n) : ordF sure p n f n i = (maskN (canB sure p f i) n : Nat) := by
  simp only [ordF, if_pos hi]
  exact rowI_mask _ n (by omega)
theorem apart_iff (hn : n ≤ 7) {s : Nat} (hs : s < 2 ^ n) : allFrom (apartI (ordF sure p n f n) (s : Int)) 7 0 = true ↔ Anti (canB sure p f) n s.testBit := by
  have hs7 : s < 2 ^ 7 := Nat.lt_of_lt_of_le hs (Nat.pow_le_pow_right (by omega) hn)
  have bitI : ∀ i, hasI (s : Int) i = s.testBit i := fun i => hasI_mask s i (by omega)
  have each : ∀ i, i < n → (apartI (ordF sure p n f n) (s : Int) i = true ↔ (s.testBit i = true → ∀ j, j < n → s.testBit j = true → canB sure p f i j = false)) := fun i hi => by
    have hm := maskN_lt (canB sure p f i) n
    have hm7 : maskN (canB sure p f i) n < 2 ^ 7 := Nat.lt_of_lt_of_le hm (Nat.pow_le_pow_right (by omega) hn)
    simp only [apartI, bitI, ord_lt hn hi]
    rw [and_nat s _ (by omega) (by omega)]
    cases hb : s.testBit i with
    | false => simp
    | true =>
      simp only [Bool.true_and, Bool.not_eq_true', true_implies]
      constructor
      · intro h0 j hj hbj
        have h0 : ((s &&& maskN (canB sure p f i) n : Nat) : Int) = 0 := by simpa using h0
        have h0 : s &&& maskN (canB sure p f i) n = 0 := by omega
        have := congrArg (fun z => z.testBit j) h0
        simp only [Nat.testBit_and, hbj, maskN_bit, hj, decide_true, Bool.true_and, Nat.zero_testBit] at this
        exact this
      · intro h
        have h0 : s &&& maskN (canB sure p f i) n = 0 := by
          refine Nat.eq_of_testBit_eq fun j => ?_
          rw [Nat.testBit_and, maskN_bit, Nat.zero_testBit]
          by_cases hj : j < n
          · cases hbj : s.testBit j with
            | false => rfl
            | true => rw [h j hj hbj]; simp
          · rw [bit_lt hs (by omega)]; rfl
        rw [h0]; rfl
  constructor
  · intro h i j hi hj hbi hbj
    exact (each i hi).1 (allFrom_iff _ 7 0 h i (by omega) (by omega)) hbi j hj hbj
  · intro h
    have key : ∀ r m, (∀ i, m ≤ i → i < m + r → apartI (ordF sure p n f n) (s : Int) i = true) → allFrom (apartI (ordF sure p n f n) (s : Int)) r m = true := by
      intro r
      induction r with
      | zero => intro m _; rfl
      | succ r ih =>
        intro m hm
        simp only [allFrom, hm m (by omega) (by omega), Bool.true_and]
        exact ih (m + 1) fun i h1 h2 => hm i (by omega) (by omega)
    refine key 7 0 fun i _ _ => ?_
    by_cases hi : i < n
    · exact (each i hi).2 fun hbi j hj hbj => h i j hi hj hbi hbj
    · simp only [apartI, bitI, bit_lt hs (show n ≤ i by omega), Bool.false_and, Bool.not_false]
/-- The best set is the first of the largest. -/
theorem best_inv (o : Nat → Int) (s : Nat) : (0 < s → allFrom (apartI o ((bestF o s : Nat) : Int)) 7 0 = true) ∧ ∀ t, t < s → allFrom (apartI o (t : Int)) 7 0 = true → popN t ≤ popN (bestF o s) ∧ (popN t = popN (bestF o s) → bestF o s ≤ t) := by
  have h00 : allFrom (apartI o ((0 : Nat) : Int)) 7 0 = true := by simp only [allFrom, Int.natCast_zero, apart0, Bool.true_and]
  induction s with
  | zero => exact ⟨fun h => by omega, fun t ht => by omega⟩
  | succ s ih =>
    obtain ⟨h1, h2⟩ := ih
    simp only [bestF]
    split
    · rename_i hc
      simp only [Bool.and_eq_true, decide_eq_true_eq] at hc
      refine ⟨fun _ => hc.1, fun t ht hA => ?_⟩
      by_cases e : t = s
      · subst e; exact ⟨Nat.le_refl _, fun _ => Nat.le_refl _⟩
      · obtain ⟨a, b⟩ := h2 t (by omega) hA
        exact ⟨by omega, fun e => by omega⟩
    · rename_i hc
      have hb0 : bestF o 0 = 0 := rfl
      refine ⟨fun _ => ?_, fun t ht hA => ?_⟩
      · rcases Nat.eq_zero_or_pos s with h | h
        · subst h; exact h00
        · exact h1 h
      · by_cases e : t = s
        · subst e
          simp only [hA, Bool.true_and, decide_eq_true_eq] at hc
          refine ⟨by omega, fun _ => ?_⟩
          have := bestF_lt (o := o) t (t + 1) (by omega) (by omega)
          omega
        · exact h2 t (by omega) hA
/-! ### Horses -/
theorem can_irr (h : HOK p n f) {i : Nat} (hi : i < n) : canB sure p f i i = false := by
  cases hc : canB sure p f i i with
  | false => rfl
  | true => have := both_can h sure sure hi hi hc; rw [hc] at this; cases this
theorem can_mu (h : HOK p n f) {i j : Nat} (hi : i < n) (hj : j < n) (hc : canB sure p f i j = true) : (f i).at_.toNat < (f j).at_.toNat := by
  rw [canB_eq h sure hi hj] at hc
  have hc := of_decide_eq_true hc
  have ha := h.mv i hi
  have hb := h.mv j hj
  have a0 := ha.at0; have a5 := ha.lo1; have a6 := ha.lohi; have b0 := hb.at0
  have hm := mul_bounds h.p0 h.p3 (distI_bounds ha hb).1 (distI_bounds ha hb).2
  generalize p * distI (f i) (f j) = w at hm hc
  have hL : 1 ≤ cond sure (f i).hi (f i).lo := by cases sure <;> simp only [cond_true, cond_false] <;> omega
  omega
theorem can_trans (h : HOK p n f) {i j k : Nat} (hi : i < n) (hj : j < n) (hk : k < n) (h1 : canB sure p f i j = true) (h2 : canB sure p f j k = true) : canB sure p f i k = true := by
  rw [canB_eq h sure hi hj] at h1
  rw [canB_eq h sure hj hk] at h2
  rw [canB_eq h sure hi hk]
  have h1 := of_decide_eq_true h1
  have h2 := of_decide_eq_true h2
  have hL : 1 ≤ cond sure (f j).hi (f j).lo := by
    have a5 := (h.mv j hj).lo1; have a6 := (h.mv j hj).lohi
    cases sure <;> simp only [cond_true, cond_false] <;> omega
  have hd : distI (f i) (f k) ≤ distI (f i) (f j) + distI (f j) (f k) := by
    simp only [distI]
    split <;> split <;> split <;> omega
  have hp0 := h.p0
  have hmul : p * distI (f i) (f k) ≤ p * distI (f i) (f j) + p * distI (f j) (f k) := by
    have := Int.mul_le_mul_of_nonneg_left hd hp0
    rw [Int.mul_add] at this
    exact this
  exact decide_eq_true (by omega)
theorem canO_eq (h : HOK p n f) {i j : Nat} (hi : i < n) (hj : j < n) : canO (ordF sure p n f n) id i j = canB sure p f i j := hasI_ord sure p f h.n7 hi hj
theorem few_ex (h : HOK p n f) : ∃ X, Anti (canB sure p f) n X ∧ fewH sure p n f ≤ cnt X n := by
  obtain ⟨X, h1, h2⟩ := anti_ex (can := canO (ordF sure p n f n) id) (q := id) (n := n) (fun i j _ _ e => e) h.n7
  exact ⟨X, fun i j hi hj hx hy => by rw [← canO_eq (sure := sure) h hi hj]; exact h1 i j hi hj hx hy, h2⟩
theorem few_le (h : HOK p n f) {X : Nat → Bool} (hX : Anti (canB sure p f) n X) : cnt X n ≤ fewH sure p n f := by
  refine anti_le (can := canO (ordF sure p n f n) id) (q := id) (n := n) (fun i j _ _ e => e) h.n7 (fun i => (f i).at_.toNat) (fun i j hi hj hc => ?_) (fun i j k hi hj hk h1 h2 => ?_) (fun i j hi hj hx hy => ?_)
  · rw [canO_eq h hi hj] at hc; exact can_mu h hi hj hc
  · rw [canO_eq h hi hj] at h1
    rw [canO_eq h hj hk] at h2
    rw [canO_eq h hi hk]
    exact can_trans h hi hj hk h1 h2
  · rw [canO_eq h hi hj]; exact hX i j hi hj hx hy
/-- What is told as the proof. -/
def proofH (sure : Bool) (p : Int) (n : Nat) (f : Nat → Mv) : Nat := bestF (ordF sure p n f n) (2 ^ n)
theorem proof_lt (hn : n ≤ 7) : proofH sure p n f < 2 ^ n := bestF_lt _ _ (Nat.le_refl _) (two_pow_lt hn).2
theorem proof_anti (hn : n ≤ 7) : Anti (canB sure p f) n (proofH sure p n f).testBit := (apart_iff hn (proof_lt hn)).1 ((best_inv _ (2 ^ n)).1 (two_pow_lt hn).2)
theorem proof_best (hn : n ≤ 7) {t : Nat} (ht : t < 2 ^ n) (hA : Anti (canB sure p f) n t.testBit) : popN t ≤ popN (proofH sure p n f) ∧ (popN t = popN (proofH sure p n f) → proofH sure p n f ≤ t) :=
  (best_inv _ (2 ^ n)).2 t ht ((apart_iff hn ht).2 hA)
theorem proof_few (h : HOK p n f) : fewH sure p n f = popN (proofH sure p n f) := by
  have hn := h.n7
  obtain ⟨X, h1, h2⟩ := few_ex (sure := sure) h
  have h3 := few_le (sure := sure) h (proof_anti hn)
  rw [← popN_n hn (proof_lt hn)] at h3
  have h4 := (proof_best (sure := sure) (p := p) (f := f) hn (maskN_lt X n) (fun i j hi hj hx hy => by
    rw [maskN_bit] at hx hy
    simp only [hi, hj, decide_true, Bool.true_and] at hx hy
    exact h1 i j hi hj hx hy)).1
  rw [popN_mask X hn] at h4
  omega
/-! ### Without a move -/
def skipI (i k : Nat) : Nat := if k < i then k else k + 1
def dropF (f : Nat → Mv) (i : Nat) : Nat → Mv := fun k => f (skipI i k)
theorem cnt_skip (X : Nat → Bool) {i : Nat} : ∀ m, i ≤ m → cnt (fun k => X (skipI i k)) m + (if X i = true then 1 else 0) = cnt X (m + 1) := by
  intro m
  induction m with
  | zero => intro hi; have : i = 0 := by omega
            subst this; simp [cnt]
  | succ m ih =>
    intro hi
    by_cases e : i = m + 1
    · subst e
      have : cnt (fun k => X (skipI (m + 1) k)) (m + 1) = cnt X (m + 1) := cnt_congr fun k hk => by simp only [skipI, if_pos hk]
      rw [this]; rfl
    · have := ih (by omega)
      have e2 : skipI i m = m + 1 := by simp only [skipI]; rw [if_neg (by omega)]
      show cnt (fun k => X (skipI i k)) m + (if X (skipI i m) = true then 1 else 0) + _ = cnt X (m + 1) + (if X (m + 1) = true then 1 else 0)
      rw [e2]
      omega
theorem hok_drop {m : Nat} (h : HOK p (m + 1) f) (i : Nat) : HOK p m (dropF f i) := ⟨h.p0, h.p3, by have := h.n7; omega, fun k hk => h.mv _ (by simp only [skipI]; split <;> omega)⟩
theorem okMv_of {m : Mv} (h : MvOK m) : okMv m = true := by
  simp only [okMv, Bool.and_eq_true, decide_eq_true_eq, Bool.not_eq_true', decide_eq_false_iff_not]
  have h1 := h.at0; have h2 := h.at1; have h3 := h.pl0; have h4 := h.pl1; have h5 := h.lo1; have h6 := h.lohi; have h7 := h.hi1
  refine ⟨h1, h2, h3, h4, by omega, by omega, by omega⟩
theorem okH_of (h : HOK p n f) : okH p n f = true := by
  have key : ∀ r m, (∀ i, m ≤ i → i < m + r → okMv (f i) = true) → allFrom (fun i => okMv (f i)) r m = true := by
    intro r
    induction r with
    | zero => intro m _; rfl
    | succ r ih =>
      intro m hm
      simp only [allFrom, hm m (by omega) (by omega), Bool.true_and]
      exact ih (m + 1) fun i h1 h2 => hm i (by omega) (by omega)
  have h7 := h.n7
  simp only [okH, decide_eq_true h.p0, decide_eq_true h.p3, Bool.true_and, key n 0 fun i _ hi => okMv_of (h.mv i (by omega)), Bool.and_true]
  rw [decide_eq_false (by omega)]; rfl
theorem can_drop (i k l : Nat) : canB sure p (dropF f i) k l = canB sure p f (skipI i k) (skipI i l) := rfl
theorem skip_lt {m i k : Nat} (hk : k < m) : skipI i k < m + 1 := by simp only [skipI]; split <;> omega
theorem drop_le {m i : Nat} (h : HOK p (m + 1) f) (hi : i < m + 1) : fewH sure p m (dropF f i) ≤ fewH sure p (m + 1) f := by
  obtain ⟨X, h1, h2⟩ := few_ex (sure := sure) (hok_drop h i)
  have key : ∀ k, k < m → (if skipI i k = i then false else X (if skipI i k < i then skipI i k else skipI i k - 1)) = X k := fun k _ => by
    simp only [skipI]
    by_cases e : k < i
    · simp only [if_pos e]; rw [if_neg (by omega)]
    · simp only [if_neg e]
      rw [if_neg (by omega), if_neg (by omega)]
      rfl
  have hA : Anti (canB sure p f) (m + 1) (fun k => if k = i then false else X (if k < i then k else k - 1)) := by
    intro a b ha hb hx hy
    have hx : (if a = i then false else X (if a < i then a else a - 1)) = true := hx
    have hy : (if b = i then false else X (if b < i then b else b - 1)) = true := hy
    by_cases ea : a = i
    · rw [if_pos ea] at hx; cases hx
    by_cases eb : b = i
    · rw [if_pos eb] at hy; cases hy
    rw [if_neg ea] at hx
    rw [if_neg eb] at hy
    have sa : skipI i (if a < i then a else a - 1) = a := by
      simp only [skipI]
      by_cases e : a < i
      · simp only [if_pos e]
      · simp only [if_neg e]; rw [if_neg (by omega)]; omega
    have sb : skipI i (if b < i then b else b - 1) = b := by
      simp only [skipI]
      by_cases e : b < i
      · simp only [if_pos e]
      · simp only [if_neg e]; rw [if_neg (by omega)]; omega
    have := h1 (if a < i then a else a - 1) (if b < i then b else b - 1) (by split <;> omega) (by split <;> omega) hx hy
    rw [can_drop, sa, sb] at this
    exact this
  have h3 := few_le (sure := sure) h hA
  have h4 := cnt_skip (fun k => if k = i then false else X (if k < i then k else k - 1)) (i := i) m (by omega)
  have h5 : cnt (fun k => (fun k => if k = i then false else X (if k < i then k else k - 1)) (skipI i k)) m = cnt X m := cnt_congr key
  rw [h5] at h4
  omega
theorem drop_ge {m i : Nat} (h : HOK p (m + 1) f) (hi : i < m + 1) : fewH sure p (m + 1) f ≤ fewH sure p m (dropF f i) + (if (proofH sure p (m + 1) f).testBit i = true then 1 else 0) := by
  have hn := h.n7
  have h1 := proof_few (sure := sure) h
  rw [popN_n hn (proof_lt hn)] at h1
  have h2 := cnt_skip (proofH sure p (m + 1) f).testBit (i := i) m (by omega)
  have h3 := few_le (sure := sure) (hok_drop h i) (X := fun k => (proofH sure p (m + 1) f).testBit (skipI i k)) (fun a b ha hb hx hy => by
    rw [can_drop]
    exact proof_anti hn _ _ (skip_lt ha) (skip_lt hb) hx hy)
  omega
end
end Go.Ab

/- the law HorseProof: what its runs need. -/
set_option maxRecDepth 100000
namespace Go.Ab
open Go Go.RowKit Go.Proofs
theorem z24t (p : Int) (f : Nat → Mv) (R : Hx → Prop) : (vx.call 24 [hV p 0 0, .bool true] (retN (rowT3 1 3) R) (m1 []) ((20, Hint.con (C68t p (0 : Nat) (0 : Nat) f)) :: (19, Hint.again) :: (0, Hint.con (C44 true p (0 : Nat) (0 : Nat) f)) :: (0, Hint.again) :: (22, Hint.con (C83z (ordF true p (0 : Nat) f (0 : Nat)))) :: [(58, Hint.tm (0 : Nat) [((1 : Nat), (19 : Nat))])])) =
(((ConOK Try.prog ((68 : Nat)) (C68t p (0 : Nat) (0 : Nat) f)) ∧ (Con.pre (C68t p (0 : Nat) (0 : Nat) f) ⟨⟨[(.int .i64 (p))], [⟨((0 : Nat)), ((0 : Nat))⟩]⟩, [[]]⟩) ∧ 
((((((2 : Nat) ≤ (2 : Nat))) ∧ (((.agg ⟨[(.int .i64 (p)), (.slice (.some ⟨0, 0, .none⟩) ((0 : Nat)) ((0 : Nat)))]⟩) : Value) = (.agg ⟨[(.int .i64 (p)), (.slice (.some ⟨0, 0, .none⟩) ((0 : Nat)) ((0 : Nat)))]⟩))) ∧ (((((2 : Nat) ≤ (2 : Nat))) ∧ (((.agg ⟨[(.int .i64 (p)), (.slice (.some ⟨0, 0, .none⟩) ((0 : Nat)) ((0 : Nat)))]⟩) : Value) = (.agg ⟨[(.int .i64 (p)), (.slice (.some ⟨0, 0, .none⟩) ((0 : Nat)) ((0 : Nat)))]⟩))) ∧ (True))) ∧ 
((ConOK Try.prog ((44 : Nat)) (C44 true p (0 : Nat) (0 : Nat) f)) ∧ (Con.pre (C44 true p (0 : Nat) (0 : Nat) f) ⟨⟨[(.int .i64 (p))], [⟨((0 : Nat)), ((0 : Nat))⟩]⟩, [[]]⟩) ∧ 
((((((2 : Nat) ≤ (2 : Nat))) ∧ (((.agg ⟨[(.int .i64 (p)), (.slice (.some ⟨0, 0, .none⟩) ((0 : Nat)) ((0 : Nat)))]⟩) : Value) = (.agg ⟨[(.int .i64 (p)), (.slice (.some ⟨0, 0, .none⟩) ((0 : Nat)) ((0 : Nat)))]⟩))) ∧ (True)) ∧ 
((ConOK Try.prog ((83 : Nat)) (C83z (ordF true p (0 : Nat) f (0 : Nat)))) ∧ (Con.pre (C83z (ordF true p (0 : Nat) f (0 : Nat))) ⟨⟨[(.int .i64 ((0 : Int))), (.int .i64 ((0 : Int))), (.int .i64 ((0 : Int))), (.int .i64 ((0 : Int))), (.int .i64 ((0 : Int))), (.int .i64 ((0 : Int))), (.int .i64 ((0 : Int)))], []⟩, []⟩) ∧ 
R ⟨⟨[(.int .i64 ((0 : Int))), (.int .i64 ((0 : Int)))], [⟨((0 : Nat)), ((0 : Nat))⟩]⟩, [[]]⟩)))))) := by kernel_rfl

theorem z24f (p : Int) (f : Nat → Mv) (R : Hx → Prop) : (vx.call 24 [hV p 0 0, .bool false] (retN (rowT3 1 3) R) (m1 []) ((20, Hint.con (C68t p (0 : Nat) (0 : Nat) f)) :: (19, Hint.again) :: (0, Hint.con (C44 false p (0 : Nat) (0 : Nat) f)) :: (0, Hint.again) :: (22, Hint.con (C83z (ordF false p (0 : Nat) f (0 : Nat)))) :: [(58, Hint.tm (0 : Nat) [((1 : Nat), (19 : Nat))])])) =
(((ConOK Try.prog ((68 : Nat)) (C68t p (0 : Nat) (0 : Nat) f)) ∧ (Con.pre (C68t p (0 : Nat) (0 : Nat) f) ⟨⟨[(.int .i64 (p))], [⟨((0 : Nat)), ((0 : Nat))⟩]⟩, [[]]⟩) ∧ 
((((((2 : Nat) ≤ (2 : Nat))) ∧ (((.agg ⟨[(.int .i64 (p)), (.slice (.some ⟨0, 0, .none⟩) ((0 : Nat)) ((0 : Nat)))]⟩) : Value) = (.agg ⟨[(.int .i64 (p)), (.slice (.some ⟨0, 0, .none⟩) ((0 : Nat)) ((0 : Nat)))]⟩))) ∧ (((((2 : Nat) ≤ (2 : Nat))) ∧ (((.agg ⟨[(.int .i64 (p)), (.slice (.some ⟨0, 0, .none⟩) ((0 : Nat)) ((0 : Nat)))]⟩) : Value) = (.agg ⟨[(.int .i64 (p)), (.slice (.some ⟨0, 0, .none⟩) ((0 : Nat)) ((0 : Nat)))]⟩))) ∧ (True))) ∧ 
((ConOK Try.prog ((44 : Nat)) (C44 false p (0 : Nat) (0 : Nat) f)) ∧ (Con.pre (C44 false p (0 : Nat) (0 : Nat) f) ⟨⟨[(.int .i64 (p))], [⟨((0 : Nat)), ((0 : Nat))⟩]⟩, [[]]⟩) ∧ 
((((((2 : Nat) ≤ (2 : Nat))) ∧ (((.agg ⟨[(.int .i64 (p)), (.slice (.some ⟨0, 0, .none⟩) ((0 : Nat)) ((0 : Nat)))]⟩) : Value) = (.agg ⟨[(.int .i64 (p)), (.slice (.some ⟨0, 0, .none⟩) ((0 : Nat)) ((0 : Nat)))]⟩))) ∧ (True)) ∧ 
((ConOK Try.prog ((83 : Nat)) (C83z (ordF false p (0 : Nat) f (0 : Nat)))) ∧ (Con.pre (C83z (ordF false p (0 : Nat) f (0 : Nat))) ⟨⟨[(.int .i64 ((0 : Int))), (.int .i64 ((0 : Int))), (.int .i64 ((0 : Int))), (.int .i64 ((0 : Int))), (.int .i64 ((0 : Int))), (.int .i64 ((0 : Int))), (.int .i64 ((0 : Int)))], []⟩, []⟩) ∧ 
R ⟨⟨[(.int .i64 ((0 : Int))), (.int .i64 ((0 : Int)))], [⟨((0 : Nat)), ((0 : Nat))⟩]⟩, [[]]⟩)))))) := by kernel_rfl

theorem flatC_app {k : Nat} {g : Nat → List Value} (hk : ∀ i, (g i).length = k) (a m : Nat) : flatC (a + m) g = flatC a g ++ flatC m (fun j => g (a + j)) := by
  induction m with
  | zero => simp [flatC]
  | succ m ih => rw [← Nat.add_assoc, flatC_succ, ih, flatC_succ, List.append_assoc]
theorem mvs_take {n i : Nat} (f : Nat → Mv) (hi : i ≤ n) : (mvs n f).take (i * 4) = mvs i f := by
  obtain ⟨m, rfl⟩ : ∃ m, n = i + m := ⟨n - i, by omega⟩
  unfold mvs
  rw [flatC_app (k := 4) (fun _ => rfl), List.take_append_of_le_length (by have := mvs_len i f; unfold mvs at this; omega)]
  exact List.take_of_length_le (by have := mvs_len i f; unfold mvs at this; omega)
theorem mvs_drop (a m : Nat) (f : Nat → Mv) : (mvs (a + m) f).drop (a * 4) = mvs m (fun j => f (a + j)) := by
  unfold mvs
  have hl : (flatC a fun i => mvV (f i)).length = a * 4 := mvs_len a f
  rw [flatC_app (k := 4) (fun _ => rfl), List.drop_append, hl, List.drop_eq_nil_of_le (by omega), Nat.sub_self, List.drop_zero, List.nil_append]
theorem mvs_skip {n i m : Nat} (f : Nat → Mv) (hn : n = i + 1 + m) : mvs i f ++ ((mvs n f).drop ((i + 1) * 4)).take (m * 4) = mvs (i + m) (dropF f i) := by
  subst hn
  rw [mvs_drop, mvs_take _ (Nat.le_refl m)]
  have e := flatC_app (k := 4) (g := fun k => mvV (dropF f i k)) (fun _ => rfl) i m
  show mvs i f ++ mvs m _ = flatC (i + m) fun k => mvV (dropF f i k)
  rw [e]
  have e1 : mvs i f = flatC i fun k => mvV (dropF f i k) := flatC_congr fun k hk => by simp only [dropF, skipI, if_pos hk]
  have e2 : mvs m (fun j => f (i + 1 + j)) = flatC m fun j => mvV (dropF f i (i + j)) := flatC_congr fun k hk => by
    simp only [dropF, skipI]; rw [if_neg (by omega)]
    have : i + 1 + k = i + k + 1 := by omega
    rw [this]
  rw [e1, e2]
theorem ones_mvs (n : Nat) (f : Nat → Mv) (a b : Nat) : (List.take a (List.drop b (mvs n f))).all one = true := by
  refine List.all_eq_true.2 fun v hv => ?_
  have hm := List.mem_of_mem_drop (List.mem_of_mem_take hv)
  unfold mvs flatC at hm
  simp only [List.mem_flatMap, List.mem_range] at hm
  obtain ⟨i, _, hv⟩ := hm
  simp only [mvV, List.mem_cons, List.not_mem_nil, or_false] at hv
  rcases hv with rfl | rfl | rfl | rfl <;> rfl
section
variable {p : Int} {n : Nat} {f : Nat → Mv}
/-- The set that the bits mean. -/
def ownN (b : Int) (n : Nat) : Nat := b.toNat &&& (2 ^ n - 1)
theorem own_lt (b : Int) (n : Nat) : ownN b n < 2 ^ n := Nat.and_lt_two_pow _ (by have := Nat.pow_pos (n := n) (show 0 < 2 by omega); omega)
theorem own_eq {b : Int} {n : Nat} (hb : 0 ≤ b ∧ b < 256) (hn : n ≤ 7) : bits BinOp.and IntKind.i64 (IntKind.i64.wrap b) (IntKind.i64.wrap (IntKind.i64.wrap ((1 : Int) * (2 : Int) ^ n) - (1 : Int))) = (ownN b n : Nat) := by
  obtain ⟨h1, h2⟩ := two_pow_lt hn
  have e : (1 : Int) * 2 ^ n = ((2 ^ n : Nat) : Int) := by simp
  have e2 : IntKind.i64.wrap (IntKind.i64.wrap ((1 : Int) * (2 : Int) ^ n) - (1 : Int)) = ((2 ^ n - 1 : Nat) : Int) := by
    rw [e]
    generalize 2 ^ n = z at h1 h2
    rw [wrapI (x := (z : Int)) (by omega) (by omega), wrapI (by omega) (by omega)]
    omega
  obtain ⟨m, rfl⟩ := Int.eq_ofNat_of_zero_le hb.1
  rw [e2, wrapI (by omega) (by omega)]
  exact and_nat m _ (by omega) (by omega)
theorem ap_all {can : Int} {own : Nat} {ap : Bool} {i : Nat} : ∀ {j : Nat}, apJ p n f can own ap i j = true → ap = true ∧ ∀ k, k < j → condI p n f can own i k = true := by
  intro j
  induction j with
  | zero => intro h; exact ⟨h, fun k hk => by omega⟩
  | succ j ih =>
    intro h
    simp only [apJ, Bool.and_eq_true] at h
    obtain ⟨h1, h2⟩ := ih h.1
    refine ⟨h1, fun k hk => ?_⟩
    by_cases e : k = j
    · subst e; exact h.2
    · exact h2 k (by omega)
theorem apO_all {can : Int} {own : Nat} : ∀ {i : Nat}, apO p n f can own i = true → ∀ a, a < i → ∀ k, k < n → condI p n f can own a k = true := by
  intro i
  induction i with
  | zero => intro _ a ha; omega
  | succ i ih =>
    intro h a ha k hk
    obtain ⟨h1, h2⟩ := ap_all (show apJ p n f can own (apO p n f can own i) i n = true from h)
    by_cases e : a = i
    · subst e; exact h2 k hk
    · exact ih h1 a (by omega) k hk
theorem own_best (h : HOK p n f) (sure : Bool) (b : Int) (hap : apO p n f (cond sure 2 1) (ownN b n) n = true) : popN (ownN b n) ≤ popN (proofH sure p n f) ∧ (popN (ownN b n) = popN (proofH sure p n f) → proofH sure p n f ≤ ownN b n) := by
  have hlt := own_lt b n
  have h7 : ownN b n < 2 ^ 7 := Nat.lt_of_lt_of_le hlt (Nat.pow_le_pow_right (by omega) h.n7)
  refine proof_best h.n7 hlt fun i j hi hj hx hy => ?_
  have := apO_all hap i hi j hj
  simp only [condI, nb_eq (show ownN b n < 2 ^ 62 by omega), hx, hy, Bool.not_true, Bool.false_or, folV_can h sure hi hj] at this
  simpa using this
theorem own_128 (b : Int) (hn : n ≤ 7) : ownN b n < 128 := Nat.lt_of_lt_of_le (own_lt b n) (two_pow_lt hn).1
theorem proof_128 {sure : Bool} (hn : n ≤ 7) : proofH sure p n f < 128 := Nat.lt_of_lt_of_le (proof_lt hn) (two_pow_lt hn).1
theorem few_7 (sure : Bool) (hn : n ≤ 7) : fewH sure p n f ≤ 7 := fewN_le _ hn
end
noncomputable def planC (sure : Bool) (p : Int) (n : Nat) (f : Nat → Mv) : List Value := ints n fun i => ((planF (ordF sure p n f n) n (fewH sure p n f)).2.P i : Int)
theorem C24c_ok {p : Int} {n c : Nat} {f : Nat → Mv} (sure : Bool) (hok : okH p n f = true) (hn : n ≤ 7) (h0 : 0 < n) : ConNOK Try.prog 24 (C24c sure p n c (mvs n f) (fewH sure p n f) (planC sure p n f)) := C24_ok sure hok hn h0
theorem C24z_ok {p : Int} {f : Nat → Mv} (sure : Bool) (hok : okH p 0 f = true) : ConNOK Try.prog 24 (C24c sure p 0 0 [] 0 []) := by
  refine conRow3_of rfl vx_sound (C := C24c sure p 0 0 [] 0 []) (n := 0) (cells := []) (e := 3) (y0 := 0) (z := 0) ⟨⟨[I p, .bool sure], [(0, 0)]⟩, [[]]⟩ (fun x => Iff.rfl) rfl rfl rfl ?_ (fun cs h v hv => by simp only [List.mem_singleton] at h; subst h; cases hv) (fun v hv => by cases hv) rfl (Nat.le_of_ble_eq_true rfl) (by rw [nglob]; exact Nat.zero_le _)
  cases sure
  · exact ⟨_, (z24f p f _).mpr ⟨C68t_ok p 0 0 f (by omega), ⟨rfl, hok⟩, ⟨⟨Nat.le_refl _, rfl⟩, ⟨Nat.le_refl _, rfl⟩, trivial⟩, C44_ok _ p 0 0 f (by omega), rfl, ⟨⟨Nat.le_refl _, rfl⟩, trivial⟩, C83z_ok, rfl, rfl⟩⟩
  · exact ⟨_, (z24t p f _).mpr ⟨C68t_ok p 0 0 f (by omega), ⟨rfl, hok⟩, ⟨⟨Nat.le_refl _, rfl⟩, ⟨Nat.le_refl _, rfl⟩, trivial⟩, C44_ok _ p 0 0 f (by omega), rfl, ⟨⟨Nat.le_refl _, rfl⟩, trivial⟩, C83z_ok, rfl, rfl⟩⟩
theorem few_0 (sure : Bool) (p : Int) (f : Nat → Mv) : fewH sure p 0 f = 0 := rfl
end Go.Ab

