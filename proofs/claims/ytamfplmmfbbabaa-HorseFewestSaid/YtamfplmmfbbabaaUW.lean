/- package horse: the most moves of which no one can follow another one. -/
import Derived.Test.YtamfplmmfbbabaaUV
set_option maxRecDepth 100000
namespace Go.Ab
open Go Go.RowKit Go.Proofs
def popI (x : Int) : Int := bits BinOp.and IntKind.i64 (IntKind.i64.wrap (IntKind.u64.wrap (IntKind.u64.wrap (IntKind.u64.wrap (bits BinOp.and IntKind.u64 (IntKind.u64.wrap (IntKind.u64.wrap (bits BinOp.and IntKind.u64 (IntKind.u64.wrap (bits BinOp.and IntKind.u64 (IntKind.u64.wrap x / (2 : Int) ^ (1 : Nat)) (6148914691236517205 : Int) + bits BinOp.and IntKind.u64 (IntKind.u64.wrap x) (6148914691236517205 : Int)) / (2 : Int) ^ (2 : Nat)) (3689348814741910323 : Int) + bits BinOp.and IntKind.u64 (IntKind.u64.wrap (bits BinOp.and IntKind.u64 (IntKind.u64.wrap x / (2 : Int) ^ (1 : Nat)) (6148914691236517205 : Int) + bits BinOp.and IntKind.u64 (IntKind.u64.wrap x) (6148914691236517205 : Int))) (3689348814741910323 : Int)) / (2 : Int) ^ (4 : Nat) + IntKind.u64.wrap (bits BinOp.and IntKind.u64 (IntKind.u64.wrap (bits BinOp.and IntKind.u64 (IntKind.u64.wrap x / (2 : Int) ^ (1 : Nat)) (6148914691236517205 : Int) + bits BinOp.and IntKind.u64 (IntKind.u64.wrap x) (6148914691236517205 : Int)) / (2 : Int) ^ (2 : Nat)) (3689348814741910323 : Int) + bits BinOp.and IntKind.u64 (IntKind.u64.wrap (bits BinOp.and IntKind.u64 (IntKind.u64.wrap x / (2 : Int) ^ (1 : Nat)) (6148914691236517205 : Int) + bits BinOp.and IntKind.u64 (IntKind.u64.wrap x) (6148914691236517205 : Int))) (3689348814741910323 : Int)))) (1085102592571150095 : Int) + bits BinOp.and IntKind.u64 (IntKind.u64.wrap (IntKind.u64.wrap (bits BinOp.and IntKind.u64 (IntKind.u64.wrap (bits BinOp.and IntKind.u64 (IntKind.u64.wrap x / (2 : Int) ^ (1 : Nat)) (6148914691236517205 : Int) + bits BinOp.and IntKind.u64 (IntKind.u64.wrap x) (6148914691236517205 : Int)) / (2 : Int) ^ (2 : Nat)) (3689348814741910323 : Int) + bits BinOp.and IntKind.u64 (IntKind.u64.wrap (bits BinOp.and IntKind.u64 (IntKind.u64.wrap x / (2 : Int) ^ (1 : Nat)) (6148914691236517205 : Int) + bits BinOp.and IntKind.u64 (IntKind.u64.wrap x) (6148914691236517205 : Int))) (3689348814741910323 : Int)) / (2 : Int) ^ (4 : Nat) + IntKind.u64.wrap (bits BinOp.and IntKind.u64 (IntKind.u64.wrap (bits BinOp.and IntKind.u64 (IntKind.u64.wrap x / (2 : Int) ^ (1 : Nat)) (6148914691236517205 : Int) + bits BinOp.and IntKind.u64 (IntKind.u64.wrap x) (6148914691236517205 : Int)) / (2 : Int) ^ (2 : Nat)) (3689348814741910323 : Int) + bits BinOp.and IntKind.u64 (IntKind.u64.wrap (bits BinOp.and IntKind.u64 (IntKind.u64.wrap x / (2 : Int) ^ (1 : Nat)) (6148914691236517205 : Int) + bits BinOp.and IntKind.u64 (IntKind.u64.wrap x) (6148914691236517205 : Int))) (3689348814741910323 : Int)))) (1085102592571150095 : Int) / (2 : Int) ^ (8 : Nat)) + IntKind.u64.wrap (bits BinOp.and IntKind.u64 (IntKind.u64.wrap (IntKind.u64.wrap (bits BinOp.and IntKind.u64 (IntKind.u64.wrap (bits BinOp.and IntKind.u64 (IntKind.u64.wrap x / (2 : Int) ^ (1 : Nat)) (6148914691236517205 : Int) + bits BinOp.and IntKind.u64 (IntKind.u64.wrap x) (6148914691236517205 : Int)) / (2 : Int) ^ (2 : Nat)) (3689348814741910323 : Int) + bits BinOp.and IntKind.u64 (IntKind.u64.wrap (bits BinOp.and IntKind.u64 (IntKind.u64.wrap x / (2 : Int) ^ (1 : Nat)) (6148914691236517205 : Int) + bits BinOp.and IntKind.u64 (IntKind.u64.wrap x) (6148914691236517205 : Int))) (3689348814741910323 : Int)) / (2 : Int) ^ (4 : Nat) + IntKind.u64.wrap (bits BinOp.and IntKind.u64 (IntKind.u64.wrap (bits BinOp.and IntKind.u64 (IntKind.u64.wrap x / (2 : Int) ^ (1 : Nat)) (6148914691236517205 : Int) + bits BinOp.and IntKind.u64 (IntKind.u64.wrap x) (6148914691236517205 : Int)) / (2 : Int) ^ (2 : Nat)) (3689348814741910323 : Int) + bits BinOp.and IntKind.u64 (IntKind.u64.wrap (bits BinOp.and IntKind.u64 (IntKind.u64.wrap x / (2 : Int) ^ (1 : Nat)) (6148914691236517205 : Int) + bits BinOp.and IntKind.u64 (IntKind.u64.wrap x) (6148914691236517205 : Int))) (3689348814741910323 : Int)))) (1085102592571150095 : Int) + bits BinOp.and IntKind.u64 (IntKind.u64.wrap (IntKind.u64.wrap (bits BinOp.and IntKind.u64 (IntKind.u64.wrap (bits BinOp.and IntKind.u64 (IntKind.u64.wrap x / (2 : Int) ^ (1 : Nat)) (6148914691236517205 : Int) + bits BinOp.and IntKind.u64 (IntKind.u64.wrap x) (6148914691236517205 : Int)) / (2 : Int) ^ (2 : Nat)) (3689348814741910323 : Int) + bits BinOp.and IntKind.u64 (IntKind.u64.wrap (bits BinOp.and IntKind.u64 (IntKind.u64.wrap x / (2 : Int) ^ (1 : Nat)) (6148914691236517205 : Int) + bits BinOp.and IntKind.u64 (IntKind.u64.wrap x) (6148914691236517205 : Int))) (3689348814741910323 : Int)) / (2 : Int) ^ (4 : Nat) + IntKind.u64.wrap (bits BinOp.and IntKind.u64 (IntKind.u64.wrap (bits BinOp.and IntKind.u64 (IntKind.u64.wrap x / (2 : Int) ^ (1 : Nat)) (6148914691236517205 : Int) + bits BinOp.and IntKind.u64 (IntKind.u64.wrap x) (6148914691236517205 : Int)) / (2 : Int) ^ (2 : Nat)) (3689348814741910323 : Int) + bits BinOp.and IntKind.u64 (IntKind.u64.wrap (bits BinOp.and IntKind.u64 (IntKind.u64.wrap x / (2 : Int) ^ (1 : Nat)) (6148914691236517205 : Int) + bits BinOp.and IntKind.u64 (IntKind.u64.wrap x) (6148914691236517205 : Int))) (3689348814741910323 : Int)))) (1085102592571150095 : Int) / (2 : Int) ^ (8 : Nat)) / (2 : Int) ^ (16 : Nat)) + IntKind.u64.wrap (IntKind.u64.wrap (bits BinOp.and IntKind.u64 (IntKind.u64.wrap (IntKind.u64.wrap (bits BinOp.and IntKind.u64 (IntKind.u64.wrap (bits BinOp.and IntKind.u64 (IntKind.u64.wrap x / (2 : Int) ^ (1 : Nat)) (6148914691236517205 : Int) + bits BinOp.and IntKind.u64 (IntKind.u64.wrap x) (6148914691236517205 : Int)) / (2 : Int) ^ (2 : Nat)) (3689348814741910323 : Int) + bits BinOp.and IntKind.u64 (IntKind.u64.wrap (bits BinOp.and IntKind.u64 (IntKind.u64.wrap x / (2 : Int) ^ (1 : Nat)) (6148914691236517205 : Int) + bits BinOp.and IntKind.u64 (IntKind.u64.wrap x) (6148914691236517205 : Int))) (3689348814741910323 : Int)) / (2 : Int) ^ (4 : Nat) + IntKind.u64.wrap (bits BinOp.and IntKind.u64 (IntKind.u64.wrap (bits BinOp.and IntKind.u64 (IntKind.u64.wrap x / (2 : Int) ^ (1 : Nat)) (6148914691236517205 : Int) + bits BinOp.and IntKind.u64 (IntKind.u64.wrap x) (6148914691236517205 : Int)) / (2 : Int) ^ (2 : Nat)) (3689348814741910323 : Int) + bits BinOp.and IntKind.u64 (IntKind.u64.wrap (bits BinOp.and IntKind.u64 (IntKind.u64.wrap x / (2 : Int) ^ (1 : Nat)) (6148914691236517205 : Int) + bits BinOp.and IntKind.u64 (IntKind.u64.wrap x) (6148914691236517205 : Int))) (3689348814741910323 : Int)))) (1085102592571150095 : Int) + bits BinOp.and IntKind.u64 (IntKind.u64.wrap (IntKind.u64.wrap (bits BinOp.and IntKind.u64 (IntKind.u64.wrap (bits BinOp.and IntKind.u64 (IntKind.u64.wrap x / (2 : Int) ^ (1 : Nat)) (6148914691236517205 : Int) + bits BinOp.and IntKind.u64 (IntKind.u64.wrap x) (6148914691236517205 : Int)) / (2 : Int) ^ (2 : Nat)) (3689348814741910323 : Int) + bits BinOp.and IntKind.u64 (IntKind.u64.wrap (bits BinOp.and IntKind.u64 (IntKind.u64.wrap x / (2 : Int) ^ (1 : Nat)) (6148914691236517205 : Int) + bits BinOp.and IntKind.u64 (IntKind.u64.wrap x) (6148914691236517205 : Int))) (3689348814741910323 : Int)) / (2 : Int) ^ (4 : Nat) + IntKind.u64.wrap (bits BinOp.and IntKind.u64 (IntKind.u64.wrap (bits BinOp.and IntKind.u64 (IntKind.u64.wrap x / (2 : Int) ^ (1 : Nat)) (6148914691236517205 : Int) + bits BinOp.and IntKind.u64 (IntKind.u64.wrap x) (6148914691236517205 : Int)) / (2 : Int) ^ (2 : Nat)) (3689348814741910323 : Int) + bits BinOp.and IntKind.u64 (IntKind.u64.wrap (bits BinOp.and IntKind.u64 (IntKind.u64.wrap x / (2 : Int) ^ (1 : Nat)) (6148914691236517205 : Int) + bits BinOp.and IntKind.u64 (IntKind.u64.wrap x) (6148914691236517205 : Int))) (3689348814741910323 : Int)))) (1085102592571150095 : Int) / (2 : Int) ^ (8 : Nat)) + IntKind.u64.wrap (bits BinOp.and IntKind.u64 (IntKind.u64.wrap (IntKind.u64.wrap (bits BinOp.and IntKind.u64 (IntKind.u64.wrap (bits BinOp.and IntKind.u64 (IntKind.u64.wrap x / (2 : Int) ^ (1 : Nat)) (6148914691236517205 : Int) + bits BinOp.and IntKind.u64 (IntKind.u64.wrap x) (6148914691236517205 : Int)) / (2 : Int) ^ (2 : Nat)) (3689348814741910323 : Int) + bits BinOp.and IntKind.u64 (IntKind.u64.wrap (bits BinOp.and IntKind.u64 (IntKind.u64.wrap x / (2 : Int) ^ (1 : Nat)) (6148914691236517205 : Int) + bits BinOp.and IntKind.u64 (IntKind.u64.wrap x) (6148914691236517205 : Int))) (3689348814741910323 : Int)) / (2 : Int) ^ (4 : Nat) + IntKind.u64.wrap (bits BinOp.and IntKind.u64 (IntKind.u64.wrap (bits BinOp.and IntKind.u64 (IntKind.u64.wrap x / (2 : Int) ^ (1 : Nat)) (6148914691236517205 : Int) + bits BinOp.and IntKind.u64 (IntKind.u64.wrap x) (6148914691236517205 : Int)) / (2 : Int) ^ (2 : Nat)) (3689348814741910323 : Int) + bits BinOp.and IntKind.u64 (IntKind.u64.wrap (bits BinOp.and IntKind.u64 (IntKind.u64.wrap x / (2 : Int) ^ (1 : Nat)) (6148914691236517205 : Int) + bits BinOp.and IntKind.u64 (IntKind.u64.wrap x) (6148914691236517205 : Int))) (3689348814741910323 : Int)))) (1085102592571150095 : Int) + bits BinOp.and IntKind.u64 (IntKind.u64.wrap (IntKind.u64.wrap (bits BinOp.and IntKind.u64 (IntKind.u64.wrap (bits BinOp.and IntKind.u64 (IntKind.u64.wrap x / (2 : Int) ^ (1 : Nat)) (6148914691236517205 : Int) + bits BinOp.and IntKind.u64 (IntKind.u64.wrap x) (6148914691236517205 : Int)) / (2 : Int) ^ (2 : Nat)) (3689348814741910323 : Int) + bits BinOp.and IntKind.u64 (IntKind.u64.wrap (bits BinOp.and IntKind.u64 (IntKind.u64.wrap x / (2 : Int) ^ (1 : Nat)) (6148914691236517205 : Int) + bits BinOp.and IntKind.u64 (IntKind.u64.wrap x) (6148914691236517205 : Int))) (3689348814741910323 : Int)) / (2 : Int) ^ (4 : Nat) + IntKind.u64.wrap (bits BinOp.and IntKind.u64 (IntKind.u64.wrap (bits BinOp.and IntKind.u64 (IntKind.u64.wrap x / (2 : Int) ^ (1 : Nat)) (6148914691236517205 : Int) + bits BinOp.and IntKind.u64 (IntKind.u64.wrap x) (6148914691236517205 : Int)) / (2 : Int) ^ (2 : Nat)) (3689348814741910323 : Int) + bits BinOp.and IntKind.u64 (IntKind.u64.wrap (bits BinOp.and IntKind.u64 (IntKind.u64.wrap x / (2 : Int) ^ (1 : Nat)) (6148914691236517205 : Int) + bits BinOp.and IntKind.u64 (IntKind.u64.wrap x) (6148914691236517205 : Int))) (3689348814741910323 : Int)))) (1085102592571150095 : Int) / (2 : Int) ^ (8 : Nat)) / (2 : Int) ^ (16 : Nat)) / (2 : Int) ^ (32 : Nat)))) (127 : Int)
theorem f82 (x : Int) (R : ARes → Prop) : (vx.call 82 [I x] (retK R) ⟨.nil, 0⟩ ([])) =
(R (.ret (.int .i64 (bits BinOp.and IntKind.i64 (IntKind.i64.wrap (IntKind.u64.wrap (IntKind.u64.wrap (IntKind.u64.wrap (bits BinOp.and IntKind.u64 (IntKind.u64.wrap (IntKind.u64.wrap (bits BinOp.and IntKind.u64 (IntKind.u64.wrap (bits BinOp.and IntKind.u64 (IntKind.u64.wrap x / (2 : Int) ^ (1 : Nat)) (6148914691236517205 : Int) + bits BinOp.and IntKind.u64 (IntKind.u64.wrap x) (6148914691236517205 : Int)) / (2 : Int) ^ (2 : Nat)) (3689348814741910323 : Int) + bits BinOp.and IntKind.u64 (IntKind.u64.wrap (bits BinOp.and IntKind.u64 (IntKind.u64.wrap x / (2 : Int) ^ (1 : Nat)) (6148914691236517205 : Int) + bits BinOp.and IntKind.u64 (IntKind.u64.wrap x) (6148914691236517205 : Int))) (3689348814741910323 : Int)) / (2 : Int) ^ (4 : Nat) + IntKind.u64.wrap (bits BinOp.and IntKind.u64 (IntKind.u64.wrap (bits BinOp.and IntKind.u64 (IntKind.u64.wrap x / (2 : Int) ^ (1 : Nat)) (6148914691236517205 : Int) + bits BinOp.and IntKind.u64 (IntKind.u64.wrap x) (6148914691236517205 : Int)) / (2 : Int) ^ (2 : Nat)) (3689348814741910323 : Int) + bits BinOp.and IntKind.u64 (IntKind.u64.wrap (bits BinOp.and IntKind.u64 (IntKind.u64.wrap x / (2 : Int) ^ (1 : Nat)) (6148914691236517205 : Int) + bits BinOp.and IntKind.u64 (IntKind.u64.wrap x) (6148914691236517205 : Int))) (3689348814741910323 : Int)))) (1085102592571150095 : Int) + bits BinOp.and IntKind.u64 (IntKind.u64.wrap (IntKind.u64.wrap (bits BinOp.and IntKind.u64 (IntKind.u64.wrap (bits BinOp.and IntKind.u64 (IntKind.u64.wrap x / (2 : Int) ^ (1 : Nat)) (6148914691236517205 : Int) + bits BinOp.and IntKind.u64 (IntKind.u64.wrap x) (6148914691236517205 : Int)) / (2 : Int) ^ (2 : Nat)) (3689348814741910323 : Int) + bits BinOp.and IntKind.u64 (IntKind.u64.wrap (bits BinOp.and IntKind.u64 (IntKind.u64.wrap x / (2 : Int) ^ (1 : Nat)) (6148914691236517205 : Int) + bits BinOp.and IntKind.u64 (IntKind.u64.wrap x) (6148914691236517205 : Int))) (3689348814741910323 : Int)) / (2 : Int) ^ (4 : Nat) + IntKind.u64.wrap (bits BinOp.and IntKind.u64 (IntKind.u64.wrap (bits BinOp.and IntKind.u64 (IntKind.u64.wrap x / (2 : Int) ^ (1 : Nat)) (6148914691236517205 : Int) + bits BinOp.and IntKind.u64 (IntKind.u64.wrap x) (6148914691236517205 : Int)) / (2 : Int) ^ (2 : Nat)) (3689348814741910323 : Int) + bits BinOp.and IntKind.u64 (IntKind.u64.wrap (bits BinOp.and IntKind.u64 (IntKind.u64.wrap x / (2 : Int) ^ (1 : Nat)) (6148914691236517205 : Int) + bits BinOp.and IntKind.u64 (IntKind.u64.wrap x) (6148914691236517205 : Int))) (3689348814741910323 : Int)))) (1085102592571150095 : Int) / (2 : Int) ^ (8 : Nat)) + IntKind.u64.wrap (bits BinOp.and IntKind.u64 (IntKind.u64.wrap (IntKind.u64.wrap (bits BinOp.and IntKind.u64 (IntKind.u64.wrap (bits BinOp.and IntKind.u64 (IntKind.u64.wrap x / (2 : Int) ^ (1 : Nat)) (6148914691236517205 : Int) + bits BinOp.and IntKind.u64 (IntKind.u64.wrap x) (6148914691236517205 : Int)) / (2 : Int) ^ (2 : Nat)) (3689348814741910323 : Int) + bits BinOp.and IntKind.u64 (IntKind.u64.wrap (bits BinOp.and IntKind.u64 (IntKind.u64.wrap x / (2 : Int) ^ (1 : Nat)) (6148914691236517205 : Int) + bits BinOp.and IntKind.u64 (IntKind.u64.wrap x) (6148914691236517205 : Int))) (3689348814741910323 : Int)) / (2 : Int) ^ (4 : Nat) + IntKind.u64.wrap (bits BinOp.and IntKind.u64 (IntKind.u64.wrap (bits BinOp.and IntKind.u64 (IntKind.u64.wrap x / (2 : Int) ^ (1 : Nat)) (6148914691236517205 : Int) + bits BinOp.and IntKind.u64 (IntKind.u64.wrap x) (6148914691236517205 : Int)) / (2 : Int) ^ (2 : Nat)) (3689348814741910323 : Int) + bits BinOp.and IntKind.u64 (IntKind.u64.wrap (bits BinOp.and IntKind.u64 (IntKind.u64.wrap x / (2 : Int) ^ (1 : Nat)) (6148914691236517205 : Int) + bits BinOp.and IntKind.u64 (IntKind.u64.wrap x) (6148914691236517205 : Int))) (3689348814741910323 : Int)))) (1085102592571150095 : Int) + bits BinOp.and IntKind.u64 (IntKind.u64.wrap (IntKind.u64.wrap (bits BinOp.and IntKind.u64 (IntKind.u64.wrap (bits BinOp.and IntKind.u64 (IntKind.u64.wrap x / (2 : Int) ^ (1 : Nat)) (6148914691236517205 : Int) + bits BinOp.and IntKind.u64 (IntKind.u64.wrap x) (6148914691236517205 : Int)) / (2 : Int) ^ (2 : Nat)) (3689348814741910323 : Int) + bits BinOp.and IntKind.u64 (IntKind.u64.wrap (bits BinOp.and IntKind.u64 (IntKind.u64.wrap x / (2 : Int) ^ (1 : Nat)) (6148914691236517205 : Int) + bits BinOp.and IntKind.u64 (IntKind.u64.wrap x) (6148914691236517205 : Int))) (3689348814741910323 : Int)) / (2 : Int) ^ (4 : Nat) + IntKind.u64.wrap (bits BinOp.and IntKind.u64 (IntKind.u64.wrap (bits BinOp.and IntKind.u64 (IntKind.u64.wrap x / (2 : Int) ^ (1 : Nat)) (6148914691236517205 : Int) + bits BinOp.and IntKind.u64 (IntKind.u64.wrap x) (6148914691236517205 : Int)) / (2 : Int) ^ (2 : Nat)) (3689348814741910323 : Int) + bits BinOp.and IntKind.u64 (IntKind.u64.wrap (bits BinOp.and IntKind.u64 (IntKind.u64.wrap x / (2 : Int) ^ (1 : Nat)) (6148914691236517205 : Int) + bits BinOp.and IntKind.u64 (IntKind.u64.wrap x) (6148914691236517205 : Int))) (3689348814741910323 : Int)))) (1085102592571150095 : Int) / (2 : Int) ^ (8 : Nat)) / (2 : Int) ^ (16 : Nat)) + IntKind.u64.wrap (IntKind.u64.wrap (bits BinOp.and IntKind.u64 (IntKind.u64.wrap (IntKind.u64.wrap (bits BinOp.and IntKind.u64 (IntKind.u64.wrap (bits BinOp.and IntKind.u64 (IntKind.u64.wrap x / (2 : Int) ^ (1 : Nat)) (6148914691236517205 : Int) + bits BinOp.and IntKind.u64 (IntKind.u64.wrap x) (6148914691236517205 : Int)) / (2 : Int) ^ (2 : Nat)) (3689348814741910323 : Int) + bits BinOp.and IntKind.u64 (IntKind.u64.wrap (bits BinOp.and IntKind.u64 (IntKind.u64.wrap x / (2 : Int) ^ (1 : Nat)) (6148914691236517205 : Int) + bits BinOp.and IntKind.u64 (IntKind.u64.wrap x) (6148914691236517205 : Int))) (3689348814741910323 : Int)) / (2 : Int) ^ (4 : Nat) + IntKind.u64.wrap (bits BinOp.and IntKind.u64 (IntKind.u64.wrap (bits BinOp.and IntKind.u64 (IntKind.u64.wrap x / (2 : Int) ^ (1 : Nat)) (6148914691236517205 : Int) + bits BinOp.and IntKind.u64 (IntKind.u64.wrap x) (6148914691236517205 : Int)) / (2 : Int) ^ (2 : Nat)) (3689348814741910323 : Int) + bits BinOp.and IntKind.u64 (IntKind.u64.wrap (bits BinOp.and IntKind.u64 (IntKind.u64.wrap x / (2 : Int) ^ (1 : Nat)) (6148914691236517205 : Int) + bits BinOp.and IntKind.u64 (IntKind.u64.wrap x) (6148914691236517205 : Int))) (3689348814741910323 : Int)))) (1085102592571150095 : Int) + bits BinOp.and IntKind.u64 (IntKind.u64.wrap (IntKind.u64.wrap (bits BinOp.and IntKind.u64 (IntKind.u64.wrap (bits BinOp.and IntKind.u64 (IntKind.u64.wrap x / (2 : Int) ^ (1 : Nat)) (6148914691236517205 : Int) + bits BinOp.and IntKind.u64 (IntKind.u64.wrap x) (6148914691236517205 : Int)) / (2 : Int) ^ (2 : Nat)) (3689348814741910323 : Int) + bits BinOp.and IntKind.u64 (IntKind.u64.wrap (bits BinOp.and IntKind.u64 (IntKind.u64.wrap x / (2 : Int) ^ (1 : Nat)) (6148914691236517205 : Int) + bits BinOp.and IntKind.u64 (IntKind.u64.wrap x) (6148914691236517205 : Int))) (3689348814741910323 : Int)) / (2 : Int) ^ (4 : Nat) + IntKind.u64.wrap (bits BinOp.and IntKind.u64 (IntKind.u64.wrap (bits BinOp.and IntKind.u64 (IntKind.u64.wrap x / (2 : Int) ^ (1 : Nat)) (6148914691236517205 : Int) + bits BinOp.and IntKind.u64 (IntKind.u64.wrap x) (6148914691236517205 : Int)) / (2 : Int) ^ (2 : Nat)) (3689348814741910323 : Int) + bits BinOp.and IntKind.u64 (IntKind.u64.wrap (bits BinOp.and IntKind.u64 (IntKind.u64.wrap x / (2 : Int) ^ (1 : Nat)) (6148914691236517205 : Int) + bits BinOp.and IntKind.u64 (IntKind.u64.wrap x) (6148914691236517205 : Int))) (3689348814741910323 : Int)))) (1085102592571150095 : Int) / (2 : Int) ^ (8 : Nat)) + IntKind.u64.wrap (bits BinOp.and IntKind.u64 (IntKind.u64.wrap (IntKind.u64.wrap (bits BinOp.and IntKind.u64 (IntKind.u64.wrap (bits BinOp.and IntKind.u64 (IntKind.u64.wrap x / (2 : Int) ^ (1 : Nat)) (6148914691236517205 : Int) + bits BinOp.and IntKind.u64 (IntKind.u64.wrap x) (6148914691236517205 : Int)) / (2 : Int) ^ (2 : Nat)) (3689348814741910323 : Int) + bits BinOp.and IntKind.u64 (IntKind.u64.wrap (bits BinOp.and IntKind.u64 (IntKind.u64.wrap x / (2 : Int) ^ (1 : Nat)) (6148914691236517205 : Int) + bits BinOp.and IntKind.u64 (IntKind.u64.wrap x) (6148914691236517205 : Int))) (3689348814741910323 : Int)) / (2 : Int) ^ (4 : Nat) + IntKind.u64.wrap (bits BinOp.and IntKind.u64 (IntKind.u64.wrap (bits BinOp.and IntKind.u64 (IntKind.u64.wrap x / (2 : Int) ^ (1 : Nat)) (6148914691236517205 : Int) + bits BinOp.and IntKind.u64 (IntKind.u64.wrap x) (6148914691236517205 : Int)) / (2 : Int) ^ (2 : Nat)) (3689348814741910323 : Int) + bits BinOp.and IntKind.u64 (IntKind.u64.wrap (bits BinOp.and IntKind.u64 (IntKind.u64.wrap x / (2 : Int) ^ (1 : Nat)) (6148914691236517205 : Int) + bits BinOp.and IntKind.u64 (IntKind.u64.wrap x) (6148914691236517205 : Int))) (3689348814741910323 : Int)))) (1085102592571150095 : Int) + bits BinOp.and IntKind.u64 (IntKind.u64.wrap (IntKind.u64.wrap (bits BinOp.and IntKind.u64 (IntKind.u64.wrap (bits BinOp.and IntKind.u64 (IntKind.u64.wrap x / (2 : Int) ^ (1 : Nat)) (6148914691236517205 : Int) + bits BinOp.and IntKind.u64 (IntKind.u64.wrap x) (6148914691236517205 : Int)) / (2 : Int) ^ (2 : Nat)) (3689348814741910323 : Int) + bits BinOp.and IntKind.u64 (IntKind.u64.wrap (bits BinOp.and IntKind.u64 (IntKind.u64.wrap x / (2 : Int) ^ (1 : Nat)) (6148914691236517205 : Int) + bits BinOp.and IntKind.u64 (IntKind.u64.wrap x) (6148914691236517205 : Int))) (3689348814741910323 : Int)) / (2 : Int) ^ (4 : Nat) + IntKind.u64.wrap (bits BinOp.and IntKind.u64 (IntKind.u64.wrap (bits BinOp.and IntKind.u64 (IntKind.u64.wrap x / (2 : Int) ^ (1 : Nat)) (6148914691236517205 : Int) + bits BinOp.and IntKind.u64 (IntKind.u64.wrap x) (6148914691236517205 : Int)) / (2 : Int) ^ (2 : Nat)) (3689348814741910323 : Int) + bits BinOp.and IntKind.u64 (IntKind.u64.wrap (bits BinOp.and IntKind.u64 (IntKind.u64.wrap x / (2 : Int) ^ (1 : Nat)) (6148914691236517205 : Int) + bits BinOp.and IntKind.u64 (IntKind.u64.wrap x) (6148914691236517205 : Int))) (3689348814741910323 : Int)))) (1085102592571150095 : Int) / (2 : Int) ^ (8 : Nat)) / (2 : Int) ^ (16 : Nat)) / (2 : Int) ^ (32 : Nat)))) (127 : Int))))) := by kernel_rfl
theorem f80 (n : Nat) (R : ARes → Prop) : (vx.call 80 [I n] (retK R) ⟨.nil, 0⟩ ((3, .val (.int .i64 (IntKind.i64.wrap ((1 : Int) * (2 : Int) ^ n)))) :: [])) =
(((((((0 : Int) ≤ (↑n : Int))) ∧ (((↑n : Int) ≤ (↑(64 : Nat) : Int)))) ∧ (((.int .i64 (IntKind.i64.wrap ((1 : Int) * (2 : Int) ^ n))) : Value) = (.int .i64 (IntKind.i64.wrap ((1 : Int) * (2 : Int) ^ n))))) ∧
R (.ret (.int .i64 (IntKind.i64.wrap (IntKind.i64.wrap ((1 : Int) * (2 : Int) ^ n) - (1 : Int))))))) := by kernel_rfl
theorem b88 (i : Nat) (s : Int) (o : Nat → Int) (R : Nat → AExit → Hw → Prop) : (vx.code none (.l p88) (leafW [T88, R88] R) (T88.inst (st88 o s i)) ([(0, .split ((2, .val (.int .i64 (o i))) :: (8, .val (.int .i64 (s / (2 : Int) ^ i))) :: [(1, .split ([(5, .split ([(3, .tm 1 [])]) ([(4, .tm 0 [])]))]) ([(6, .tm 0 [])]))]) ([(1, .tm 0 [])]))])) =
((((decide ((↑i : Int) < (7 : Int))) = true → ((((((0 : Int) ≤ (↑i : Int))) ∧ (((↑i : Int) < (↑(7 : Nat) : Int)))) ∧ ((partV Try.prog ((7 : Nat), (83 : Nat)).snd [Value.int .i64 (o (0 : Nat)), Value.int .i64 (o (1 : Nat)), Value.int .i64 (o (2 : Nat)), Value.int .i64 (o (3 : Nat)), Value.int .i64 (o (4 : Nat)), Value.int .i64 (o (5 : Nat)), Value.int .i64 (o (6 : Nat))] ((↑i : Int).toNat * (fun x => x.size) Try.prog.types[((7 : Nat), (83 : Nat)).snd]) = some (.int .i64 (o i))))) ∧
((((((0 : Int) ≤ (↑i : Int))) ∧ (((↑i : Int) ≤ (↑(64 : Nat) : Int)))) ∧ (((.int .i64 (s / (2 : Int) ^ i)) : Value) = (.int .i64 (s / (2 : Int) ^ i)))) ∧
(((bits BinOp.and IntKind.i64 (s / (2 : Int) ^ i) (1 : Int) == (1 : Int)) = true → (((bits BinOp.and IntKind.i64 s (o i) != (0 : Int)) = true → R 1 .ret ⟨⟨[(.bool false)], []⟩, [], []⟩) ∧
((bits BinOp.and IntKind.i64 s (o i) != (0 : Int)) = false → R 0 .normal ⟨⟨[(.int .i64 s), (.int .i64 (o (0 : Nat))), (.int .i64 (o (1 : Nat))), (.int .i64 (o (2 : Nat))), (.int .i64 (o (3 : Nat))), (.int .i64 (o (4 : Nat))), (.int .i64 (o (5 : Nat))), (.int .i64 (o (6 : Nat))), (.int .i64 (IntKind.i64.wrap ((↑i : Int) + (1 : Int))))], []⟩, [], []⟩))) ∧
((bits BinOp.and IntKind.i64 (s / (2 : Int) ^ i) (1 : Int) == (1 : Int)) = false → R 0 .normal ⟨⟨[(.int .i64 s), (.int .i64 (o (0 : Nat))), (.int .i64 (o (1 : Nat))), (.int .i64 (o (2 : Nat))), (.int .i64 (o (3 : Nat))), (.int .i64 (o (4 : Nat))), (.int .i64 (o (5 : Nat))), (.int .i64 (o (6 : Nat))), (.int .i64 (IntKind.i64.wrap ((↑i : Int) + (1 : Int))))], []⟩, [], []⟩))))) ∧
((decide ((↑i : Int) < (7 : Int))) = false → R 0 (.exit ((0 : Nat))) ⟨⟨[(.int .i64 s), (.int .i64 (o (0 : Nat))), (.int .i64 (o (1 : Nat))), (.int .i64 (o (2 : Nat))), (.int .i64 (o (3 : Nat))), (.int .i64 (o (4 : Nat))), (.int .i64 (o (5 : Nat))), (.int .i64 (o (6 : Nat))), (.int .i64 i)], []⟩, [], []⟩))) := by kernel_rfl
theorem f88t (s : Int) (o : Nat → Int) (R : ARes → Prop) : (vx.call 88 [.agg ⟨ints 7 o⟩, I s] (retK R) ⟨.nil, 0⟩ ((5, .loopW T88 (AExit.exit (0 : Nat)) T88 fun x => st88 o s (7 : Nat)) :: [])) =
(((ClW ⟨⟨[(.int .i64 s), (.int .i64 (o (0 : Nat))), (.int .i64 (o (1 : Nat))), (.int .i64 (o (2 : Nat))), (.int .i64 (o (3 : Nat))), (.int .i64 (o (4 : Nat))), (.int .i64 (o (5 : Nat))), (.int .i64 (o (6 : Nat))), (.int .i64 0)], []⟩, [], []⟩) ∧ (LoopOW Try.prog .none p88 (T88) ⟨⟨[(.int .i64 s), (.int .i64 (o (0 : Nat))), (.int .i64 (o (1 : Nat))), (.int .i64 (o (2 : Nat))), (.int .i64 (o (3 : Nat))), (.int .i64 (o (4 : Nat))), (.int .i64 (o (5 : Nat))), (.int .i64 (o (6 : Nat))), (.int .i64 0)], []⟩, [], []⟩ (.exit ((0 : Nat))) (T88) ⟨⟨[(.int .i64 s), (.int .i64 (o (0 : Nat))), (.int .i64 (o (1 : Nat))), (.int .i64 (o (2 : Nat))), (.int .i64 (o (3 : Nat))), (.int .i64 (o (4 : Nat))), (.int .i64 (o (5 : Nat))), (.int .i64 (o (6 : Nat))), (.int .i64 ((↑(7 : Nat) : Int)))], []⟩, [], []⟩) ∧
R (.ret (.bool true)))) := by kernel_rfl
theorem f88f (s : Int) (o : Nat → Int) (R : ARes → Prop) : (vx.call 88 [.agg ⟨ints 7 o⟩, I s] (retK R) ⟨.nil, 0⟩ ((5, .loopW T88 AExit.ret R88 fun x => { hs := { vs := [Value.bool false], ns := [] }, ls := [], es := [] }) :: [])) =
(((ClW ⟨⟨[(.int .i64 s), (.int .i64 (o (0 : Nat))), (.int .i64 (o (1 : Nat))), (.int .i64 (o (2 : Nat))), (.int .i64 (o (3 : Nat))), (.int .i64 (o (4 : Nat))), (.int .i64 (o (5 : Nat))), (.int .i64 (o (6 : Nat))), (.int .i64 0)], []⟩, [], []⟩) ∧ (LoopOW Try.prog .none p88 (T88) ⟨⟨[(.int .i64 s), (.int .i64 (o (0 : Nat))), (.int .i64 (o (1 : Nat))), (.int .i64 (o (2 : Nat))), (.int .i64 (o (3 : Nat))), (.int .i64 (o (4 : Nat))), (.int .i64 (o (5 : Nat))), (.int .i64 (o (6 : Nat))), (.int .i64 0)], []⟩, [], []⟩ .ret (R88) ⟨⟨[(.bool false)], []⟩, [], []⟩) ∧
R (.ret (.bool false)))) := by kernel_rfl
theorem f89 (a b : Nat) (R : ARes → Prop) : (vx.call 89 [I a, I b] (retK R) ⟨.nil, 0⟩ ((3, .con (C82 a)) :: (1, .con (C82 b)) :: [(0, .split ([]) ([]))])) =
(((ConOK Try.prog 82 (C82 a)) ∧ (Con.pre (C82 a) ⟨⟨[(.int .i64 a)], []⟩, []⟩) ∧
((ConOK Try.prog 82 (C82 b)) ∧ (Con.pre (C82 b) ⟨⟨[(.int .i64 b)], []⟩, []⟩) ∧
(((decide ((↑(popN a) : Int) > (↑(popN b) : Int))) = true → R (.ret (.bool true))) ∧
((decide ((↑(popN a) : Int) > (↑(popN b) : Int))) = false → R (.ret (.bool false))))))) := by kernel_rfl
theorem b93 (N i found : Nat) (bg : Bool) (o : Nat → Int) (R : Nat → AExit → Hw → Prop) : (vx.code none (.l p93) (leafW [T93] R) (T93.inst (st93 o N i found bg)) ([(0, .split ((9, .con (C88 o (↑i : Int))) :: [(0, .split ([(0, .split ((6, .con (C89 i found)) :: [(0, .split ([(9, .tm 0 [])]) ([(6, .tm 0 [])]))]) ([(12, .tm 0 [])]))]) ([(6, .tm 0 [])]))]) ([(1, .tm 0 [])]))])) =
((((decide ((↑i : Int) < (↑N : Int))) = true → ((ConOK Try.prog (OfNat.ofNat (88 : Nat)) (C88 o (↑i : Int))) ∧ (Con.pre (C88 o (↑i : Int)) ⟨⟨[(.int .i64 (o (0 : Nat))), (.int .i64 (o (1 : Nat))), (.int .i64 (o (2 : Nat))), (.int .i64 (o (3 : Nat))), (.int .i64 (o (4 : Nat))), (.int .i64 (o (5 : Nat))), (.int .i64 (o (6 : Nat))), (.int .i64 i)], []⟩, []⟩) ∧
(((allFrom (apartI o (↑i : Int)) (7 : Nat) (0 : Nat)) = true → (((bg) = true → ((ConOK Try.prog (OfNat.ofNat (89 : Nat)) (C89 i found)) ∧ (Con.pre (C89 i found) ⟨⟨[(.int .i64 i), (.int .i64 found)], []⟩, []⟩) ∧
(((match false with | true => true | false => decide ((↑(popN i) : Int) > (↑(popN found) : Int))) = true → R 0 .normal ⟨⟨[(.int .i64 N), (.int .i64 (IntKind.i64.wrap ((↑i : Int) + (1 : Int)))), (.int .i64 (o (0 : Nat))), (.int .i64 (o (1 : Nat))), (.int .i64 (o (2 : Nat))), (.int .i64 (o (3 : Nat))), (.int .i64 (o (4 : Nat))), (.int .i64 (o (5 : Nat))), (.int .i64 (o (6 : Nat)))], []⟩, [[(.int .i64 i)], [(.bool true)]], []⟩) ∧
((match false with | true => true | false => decide ((↑(popN i) : Int) > (↑(popN found) : Int))) = false → R 0 .normal ⟨⟨[(.int .i64 N), (.int .i64 (IntKind.i64.wrap ((↑i : Int) + (1 : Int)))), (.int .i64 (o (0 : Nat))), (.int .i64 (o (1 : Nat))), (.int .i64 (o (2 : Nat))), (.int .i64 (o (3 : Nat))), (.int .i64 (o (4 : Nat))), (.int .i64 (o (5 : Nat))), (.int .i64 (o (6 : Nat)))], []⟩, [[(.int .i64 found)], [(.bool bg)]], []⟩)))) ∧
((bg) = false → R 0 .normal ⟨⟨[(.int .i64 N), (.int .i64 (IntKind.i64.wrap ((↑i : Int) + (1 : Int)))), (.int .i64 (o (0 : Nat))), (.int .i64 (o (1 : Nat))), (.int .i64 (o (2 : Nat))), (.int .i64 (o (3 : Nat))), (.int .i64 (o (4 : Nat))), (.int .i64 (o (5 : Nat))), (.int .i64 (o (6 : Nat)))], []⟩, [[(.int .i64 i)], [(.bool true)]], []⟩))) ∧
((allFrom (apartI o (↑i : Int)) (7 : Nat) (0 : Nat)) = false → R 0 .normal ⟨⟨[(.int .i64 N), (.int .i64 (IntKind.i64.wrap ((↑i : Int) + (1 : Int)))), (.int .i64 (o (0 : Nat))), (.int .i64 (o (1 : Nat))), (.int .i64 (o (2 : Nat))), (.int .i64 (o (3 : Nat))), (.int .i64 (o (4 : Nat))), (.int .i64 (o (5 : Nat))), (.int .i64 (o (6 : Nat)))], []⟩, [[(.int .i64 found)], [(.bool bg)]], []⟩)))) ∧
((decide ((↑i : Int) < (↑N : Int))) = false → R 0 (.exit ((0 : Nat))) ⟨⟨[(.int .i64 N), (.int .i64 i), (.int .i64 (o (0 : Nat))), (.int .i64 (o (1 : Nat))), (.int .i64 (o (2 : Nat))), (.int .i64 (o (3 : Nat))), (.int .i64 (o (4 : Nat))), (.int .i64 (o (5 : Nat))), (.int .i64 (o (6 : Nat)))], []⟩, [[(.int .i64 found)], [(.bool bg)]], []⟩))) := by kernel_rfl
theorem f87 (n N found : Nat) (o : Nat → Int) (R : ARes → Prop) : (vx.call 87 [fitV o, .func (.func 93) ⟨[]⟩ ⟨[pN 0]⟩] (retK R) ⟨fillX [.cells [I n] 3 .ro] 0 .nil, 1⟩ ((12, .val (.int .i64 (IntKind.i64.wrap ((1 : Int) * (2 : Int) ^ n)))) :: (4, .loopW T93 (AExit.exit (0 : Nat)) T93 fun x => st93 o N N found true) :: [])) =
(((((((0 : Int) ≤ (↑n : Int))) ∧ (((↑n : Int) ≤ (↑(64 : Nat) : Int)))) ∧ (((.int .i64 (IntKind.i64.wrap ((1 : Int) * (2 : Int) ^ n))) : Value) = (.int .i64 (IntKind.i64.wrap ((1 : Int) * (2 : Int) ^ n))))) ∧
((ClW ⟨⟨[(.int .i64 (IntKind.i64.wrap (IntKind.i64.wrap (IntKind.i64.wrap ((1 : Int) * (2 : Int) ^ n) - (1 : Int)) + (1 : Int)))), (.int .i64 0), (.int .i64 (o (0 : Nat))), (.int .i64 (o (1 : Nat))), (.int .i64 (o (2 : Nat))), (.int .i64 (o (3 : Nat))), (.int .i64 (o (4 : Nat))), (.int .i64 (o (5 : Nat))), (.int .i64 (o (6 : Nat)))], []⟩, [[(.int .i64 0)], [(.bool false)]], []⟩) ∧ (LoopOW Try.prog .none p93 (T93) ⟨⟨[(.int .i64 (IntKind.i64.wrap (IntKind.i64.wrap (IntKind.i64.wrap ((1 : Int) * (2 : Int) ^ n) - (1 : Int)) + (1 : Int)))), (.int .i64 0), (.int .i64 (o (0 : Nat))), (.int .i64 (o (1 : Nat))), (.int .i64 (o (2 : Nat))), (.int .i64 (o (3 : Nat))), (.int .i64 (o (4 : Nat))), (.int .i64 (o (5 : Nat))), (.int .i64 (o (6 : Nat)))], []⟩, [[(.int .i64 0)], [(.bool false)]], []⟩ (.exit ((0 : Nat))) (T93) ⟨⟨[(.int .i64 N), (.int .i64 N), (.int .i64 (o (0 : Nat))), (.int .i64 (o (1 : Nat))), (.int .i64 (o (2 : Nat))), (.int .i64 (o (3 : Nat))), (.int .i64 (o (4 : Nat))), (.int .i64 (o (5 : Nat))), (.int .i64 (o (6 : Nat)))], []⟩, [[(.int .i64 found)], [(.bool true)]], []⟩) ∧
R (.ret (.int .i64 found))))) := by kernel_rfl
theorem pops : ((List.range 128).all fun x => decide (popI (x : Nat) = (popN x : Nat))) = true := by kernel_rfl
theorem popI_eq {x : Nat} (h : x < 128) : popI (x : Nat) = (popN x : Nat) := by
  have := List.all_eq_true.1 pops x (List.mem_range.2 h)
  exact of_decide_eq_true this
theorem C82_ok {x : Nat} (h : x < 128) : ConOK Try.prog 82 (C82 x) := by
  refine con_of vx_sound _ (fun y hy => ?_) rfl (fun y _ => rfl) (fun y hy => ?_) rfl (Nat.le_of_ble_eq_true rfl) (by rw [nglob]; exact Nat.zero_le _)
  · cases hy
    refine ⟨_, (f82 (x : Nat) _).mpr ?_⟩
    show ARes.ret (.int .i64 (popI (x : Nat))) = .ret (I (popN x : Nat))
    rw [popI_eq h]; rfl
  · cases hy
    intro cs hcs
    cases hcs
theorem C89_ok {a b : Nat} (ha : a < 128) (hb : b < 128) : ConOK Try.prog 89 (C89 a b) := by
  refine con_of vx_sound _ (fun y hy => ?_) rfl (fun y _ => rfl) (fun y hy => ?_) rfl (Nat.le_of_ble_eq_true rfl) (by rw [nglob]; exact Nat.zero_le _)
  · cases hy
    have key : ∀ R : ARes → Prop, (∀ v, decide ((popN a : Int) > (popN b : Int)) = v → R (.ret (.bool v))) → ∃ hs, vx.call 89 [I a, I b] (retK R) ⟨.nil, 0⟩ hs := fun R hR =>
      ⟨_, (f89 a b R).mpr ⟨C82_ok ha, rfl, C82_ok hb, rfl, fun h => hR _ h, fun h => hR _ h⟩⟩
    obtain ⟨hs, h⟩ := key (fun r => r = .ret (.bool (decide ((popN a : Int) > (popN b : Int))))) fun v hv => by rw [hv]
    exact ⟨hs, h⟩
  · cases hy
    intro cs hcs
    cases hcs
section
variable {o : Nat → Int}
theorem cl88 (s : Int) (i : Nat) : ClW (st88 o s i) := ⟨fun cs h => (by cases h), fun cs h => (by cases h)⟩
noncomputable def ex88 (o : Nat → Int) (s : Int) (i : Nat) : Option (AExit × Nat × Hw) := if apartI o s i = true then none else some (.ret, 1, ⟨⟨[.bool false], []⟩, [], []⟩)
theorem agg83 : tAgg Try.prog 83 = some false := by kernel_rfl
theorem part88 {i : Nat} (hi : i < 7) : partV Try.prog 83 [I (o 0), I (o 1), I (o 2), I (o 3), I (o 4), I (o 5), I (o 6)] (i * 1) = some (I (o i)) := by
  simp only [partV, agg83]
  have := ints_get (n := 7) o hi
  rw [Nat.zero_add] at this
  exact this
theorem loop88 (s : Int) {T1 : Tw} (h1 : [T88, R88][(runX (ex88 o s) (.exit 0, 0, st88 o s 7) 7 0).2.1]? = some T1) :
    LoopOW Try.prog none p88 T88 (st88 o s 0) (runX (ex88 o s) (.exit 0, 0, st88 o s 7) 7 0).1 T1 (runX (ex88 o s) (.exit 0, 0, st88 o s 7) 7 0).2.2 := by
  refine loop_untilW (Ts := [T88, R88]) (k := 1) (n := 7) (st := fun i => (0, st88 o s i)) (e := .exit 0) (ex := ex88 o s) rfl vx_sound ?_ (by rw [nglob]; omega) ⟨by simp, trivial⟩ (fun i _ => cl88 s i) (fun i x hi hx => ?_) (fun i hi R h1 h2 => ?_) (fun R hR => ?_) (Nat.zero_le 7) rfl (Nat.le_of_ble_eq_true rfl) (by decide) h1
  · intro T hT
    simp only [List.mem_cons, List.not_mem_nil, or_false] at hT
    rcases hT with rfl | rfl <;> rfl
  · unfold ex88 at hx
    split at hx
    · cases hx
    · cases hx
      exact ⟨by simp, trivial, fun cs h => (by cases h), fun cs h => (by cases h)⟩
  · have hw : IntKind.i64.wrap ((i : Int) + 1) = ((i + 1 : Nat) : Int) := wrapI (by omega) (by omega)
    refine ⟨T88, _, rfl, (b88 i s o R).mpr ⟨fun _ => ⟨⟨⟨by omega, by omega⟩, part88 hi⟩, ⟨⟨by omega, by omega⟩, rfl⟩, fun hA => ⟨fun hB => ?_, fun hB => ?_⟩, fun hA => ?_⟩, fun h => absurd (show ((i : Nat) : Int) < 7 by omega) (of_decide_eq_false h)⟩⟩
    · have hA : hasI s i = true := hA
      exact h2 (.ret, 1, _) (by simp only [ex88, apartI, hA, hB, Bool.true_and, Bool.not_true, Bool.false_eq_true, if_false])
    · have hA : hasI s i = true := hA
      rw [hw]
      exact h1 (by simp only [ex88, apartI, hA, hB, Bool.true_and, Bool.not_false, if_true])
    · have hA : hasI s i = false := hA
      rw [hw]
      exact h1 (by simp only [ex88, apartI, hA, Bool.false_and, Bool.not_false, if_true])
  · exact ⟨T88, _, rfl, (b88 7 s o R).mpr ⟨fun h => absurd (of_decide_eq_true h) (by omega), fun _ => hR⟩⟩
theorem run88 (s : Int) (fin : AExit × Nat × Hw) (r : Nat) : ∀ i, runX (ex88 o s) fin r i = if allFrom (apartI o s) r i then fin else (.ret, 1, ⟨⟨[.bool false], []⟩, [], []⟩) := by
  induction r with
  | zero => intro i; rfl
  | succ r ih =>
    intro i
    simp only [runX, ex88, allFrom]
    by_cases h : apartI o s i = true
    · rw [if_pos h]
      simp only [h, Bool.true_and]
      exact ih (i + 1)
    · rw [if_neg h]
      have h2 : apartI o s i = false := by simpa using h
      simp only [h2, Bool.false_and, Bool.false_eq_true, if_false]
theorem C88_ok (s : Int) : ConOK Try.prog 88 (C88 o s) := by
  refine con_of vx_sound _ (fun x hx => ?_) rfl (fun x _ => rfl) (fun x hx => ?_) rfl (Nat.le_of_ble_eq_true rfl) (by rw [nglob]; exact Nat.zero_le _)
  · cases hx
    have hl := fun T1 => loop88 (o := o) (T1 := T1) s
    rw [run88] at hl
    show ∃ hs, vx.call 88 [.agg ⟨ints 7 o⟩, I s] (retK fun r => r = .ret (.bool (allFrom (apartI o s) 7 0))) ⟨.nil, 0⟩ hs
    cases hb : allFrom (apartI o s) 7 0 with
    | true =>
      rw [hb] at hl
      exact ⟨_, (f88t s o _).mpr ⟨cl88 s 0, hl T88 rfl, rfl⟩⟩
    | false =>
      rw [hb] at hl
      exact ⟨_, (f88f s o _).mpr ⟨cl88 s 0, hl R88 rfl, rfl⟩⟩
  · cases hx
    intro cs hcs
    cases hcs
def bestF (o : Nat → Int) : Nat → Nat
  | 0 => 0
  | s + 1 => if allFrom (apartI o (s : Int)) 7 0 && decide (popN (bestF o s) < popN s) then s else bestF o s
theorem bestF_lt (s N : Nat) (h : s ≤ N) (hN : 0 < N) : bestF o s < N := by
  induction s with
  | zero => exact hN
  | succ s ih =>
    simp only [bestF]
    split
    · omega
    · exact ih (by omega)
theorem clB (N i found : Nat) (bg : Bool) : ClW (st93 o N i found bg) := by
  refine ⟨fun cs hcs v hv => ?_, fun es hes => (by cases hes)⟩
  simp only [st93, List.mem_cons, List.not_mem_nil, or_false] at hcs
  rcases hcs with rfl | rfl
  · simp only [List.mem_cons, List.not_mem_nil, or_false] at hv; subst hv; rfl
  · simp only [List.mem_cons, List.not_mem_nil, or_false] at hv; subst hv; rfl
theorem apart0 (i : Nat) : apartI o 0 i = true := by
  have h0 : hasI 0 i = false := by
    have := hasI_mask 0 i (by decide)
    simpa using this
  simp only [apartI, h0, Bool.false_and, Bool.not_false]
theorem loop93 {N : Nat} (hN : N ≤ 128) (h0 : 0 < N) : LoopOW Try.prog none p93 T93 (st93 o N 0 0 false) (.exit 0) T93 (st93 o N N (bestF o N) true) := by
  have hend : st93 o N N (bestF o N) true = st93 o N N (bestF o N) (decide (0 < N)) := by simp [h0]
  rw [hend]
  refine loop_forW (Ts := [T93]) (k := 6) (n := N) (e := .exit 0) (st := fun j => (0, st93 o N j (bestF o j) (decide (0 < j)))) rfl vx_sound ?_ (by rw [nglob]; omega) ⟨by simp, trivial⟩ (fun j _ => clB N j _ _) (fun j hj R hR => ?_) (fun R hR => ?_) rfl (Nat.le_of_ble_eq_true rfl) (by decide) rfl
  · intro T hT; simp only [List.mem_singleton] at hT; subst hT; rfl
  · have hw : IntKind.i64.wrap ((j : Int) + 1) = ((j + 1 : Nat) : Int) := wrapI (by omega) (by omega)
    have hb := bestF_lt (o := o) j N (by omega) h0
    have hR2 : R 0 .normal (st93 o N (j + 1) (bestF o (j + 1)) true) := by
      have : decide (0 < j + 1) = true := by simp
      rw [← this]; exact hR
    refine ⟨T93, _, rfl, (b93 N j (bestF o j) (decide (0 < j)) o R).mpr ⟨fun _ => ⟨C88_ok _, rfl, fun hA => ⟨fun hB => ⟨C89_ok (by omega) (by omega), rfl, fun hC => ?_, fun hC => ?_⟩, fun hB => ?_⟩, fun hA => ?_⟩, fun h => absurd (by omega) (of_decide_eq_false h)⟩⟩
    · rw [hw]
      have hC : decide ((popN j : Int) > (popN (bestF o j) : Int)) = true := hC
      have hC := of_decide_eq_true hC
      have : bestF o (j + 1) = j := by
        simp only [bestF, hA, Bool.true_and]
        rw [if_pos (decide_eq_true (by omega))]
      rw [this] at hR2
      exact hR2
    · rw [hw]
      have hC : decide ((popN j : Int) > (popN (bestF o j) : Int)) = false := hC
      have hC := of_decide_eq_false hC
      have : bestF o (j + 1) = bestF o j := by
        simp only [bestF, hA, Bool.true_and]
        rw [if_neg (by simp; omega)]
      rw [this] at hR2
      have e : decide (0 < j) = true := hB
      rw [e]
      exact hR2
    · rw [hw]
      have e : ¬ 0 < j := of_decide_eq_false hB
      have e0 : j = 0 := by omega
      subst e0
      have : bestF o (0 + 1) = 0 := by simp [bestF]
      rw [this] at hR2
      exact hR2
    · rw [hw]
      have e0 : 0 < j := by
        rcases Nat.eq_zero_or_pos j with h | h
        · subst h
          have : allFrom (apartI o ((0 : Nat) : Int)) 7 0 = true := by
            simp only [allFrom, Int.natCast_zero, apart0, Bool.true_and]
          rw [this] at hA; cases hA
        · exact h
      have : bestF o (j + 1) = bestF o j := by simp [bestF, hA]
      rw [this] at hR2
      have e : decide (0 < j) = true := by simp [e0]
      rw [e]
      exact hR2
  · exact ⟨T93, _, rfl, (b93 N N (bestF o N) (decide (0 < N)) o R).mpr ⟨fun h => absurd (of_decide_eq_true h) (by omega), fun _ => hR⟩⟩
end
end Go.Ab
/- package horse: Proof, and Fewest. -/
set_option maxRecDepth 100000
namespace Go.Ab
open Go Go.RowKit Go.Proofs
theorem f25t (p : Int) (n c found : Nat) (f : Nat → Mv) (R : ARes → Prop) : (vx.call 25 [hV p n c, .bool true] (retK R) (m1 (mvs n f)) ((19, .con (C68t p n c f)) :: (19, .again) :: (0, .con (C44 true p n c f)) :: (0, .again) :: (16, .again) :: (0, .con (C87 n (ordF true p n f n) found)) :: [])) =
(((ConOK Try.prog 68 (C68t p n c f)) ∧ (Con.pre (C68t p n c f) ⟨⟨[(.int .i64 p)], [⟨n, c⟩]⟩, [(mvs n f)]⟩) ∧
((((((2 : Nat) ≤ (2 : Nat))) ∧ (((.agg ⟨[(.int .i64 p), (.slice (.some ⟨0, 0, .none⟩) (n) (c))]⟩) : Value) = (.agg ⟨[(.int .i64 p), (.slice (.some ⟨0, 0, .none⟩) (n) (c))]⟩))) ∧ (((((2 : Nat) ≤ (2 : Nat))) ∧ (((.agg ⟨[(.int .i64 p), (.slice (.some ⟨0, 0, .none⟩) (n) (c))]⟩) : Value) = (.agg ⟨[(.int .i64 p), (.slice (.some ⟨0, 0, .none⟩) (n) (c))]⟩))) ∧ (True))) ∧
((ConOK Try.prog 44 (C44 true p n c f)) ∧ (Con.pre (C44 true p n c f) ⟨⟨[(.int .i64 p)], [⟨n, c⟩]⟩, [(mvs n f)]⟩) ∧
((((((2 : Nat) ≤ (2 : Nat))) ∧ (((.agg ⟨[(.int .i64 p), (.slice (.some ⟨0, 0, .none⟩) (n) (c))]⟩) : Value) = (.agg ⟨[(.int .i64 p), (.slice (.some ⟨0, 0, .none⟩) (n) (c))]⟩))) ∧ (True)) ∧
((((((7 : Nat) ≤ (7 : Nat))) ∧ (((.agg ⟨[(.int .i64 (ordF true p n f n (0 : Nat))), (.int .i64 (ordF true p n f n (1 : Nat))), (.int .i64 (ordF true p n f n (2 : Nat))), (.int .i64 (ordF true p n f n (3 : Nat))), (.int .i64 (ordF true p n f n (4 : Nat))), (.int .i64 (ordF true p n f n (5 : Nat))), (.int .i64 (ordF true p n f n (6 : Nat)))]⟩) : Value) = (.agg ⟨[(.int .i64 (ordF true p n f n (0 : Nat))), (.int .i64 (ordF true p n f n (1 : Nat))), (.int .i64 (ordF true p n f n (2 : Nat))), (.int .i64 (ordF true p n f n (3 : Nat))), (.int .i64 (ordF true p n f n (4 : Nat))), (.int .i64 (ordF true p n f n (5 : Nat))), (.int .i64 (ordF true p n f n (6 : Nat)))]⟩))) ∧ (True)) ∧
((ConOK Try.prog 87 (C87 n (ordF true p n f n) found)) ∧ (Con.pre (C87 n (ordF true p n f n) found) ⟨⟨[(.int .i64 (ordF true p n f n (0 : Nat))), (.int .i64 (ordF true p n f n (1 : Nat))), (.int .i64 (ordF true p n f n (2 : Nat))), (.int .i64 (ordF true p n f n (3 : Nat))), (.int .i64 (ordF true p n f n (4 : Nat))), (.int .i64 (ordF true p n f n (5 : Nat))), (.int .i64 (ordF true p n f n (6 : Nat))), (.int .i64 n)], []⟩, []⟩) ∧
R (.ret (.tuple ⟨[(.int .i64 found), (.int .i64 0)]⟩))))))))) := by kernel_rfl
theorem f25f (p : Int) (n c found : Nat) (f : Nat → Mv) (R : ARes → Prop) : (vx.call 25 [hV p n c, .bool false] (retK R) (m1 (mvs n f)) ((19, .con (C68t p n c f)) :: (19, .again) :: (0, .con (C44 false p n c f)) :: (0, .again) :: (16, .again) :: (0, .con (C87 n (ordF false p n f n) found)) :: [])) =
(((ConOK Try.prog 68 (C68t p n c f)) ∧ (Con.pre (C68t p n c f) ⟨⟨[(.int .i64 p)], [⟨n, c⟩]⟩, [(mvs n f)]⟩) ∧
((((((2 : Nat) ≤ (2 : Nat))) ∧ (((.agg ⟨[(.int .i64 p), (.slice (.some ⟨0, 0, .none⟩) (n) (c))]⟩) : Value) = (.agg ⟨[(.int .i64 p), (.slice (.some ⟨0, 0, .none⟩) (n) (c))]⟩))) ∧ (((((2 : Nat) ≤ (2 : Nat))) ∧ (((.agg ⟨[(.int .i64 p), (.slice (.some ⟨0, 0, .none⟩) (n) (c))]⟩) : Value) = (.agg ⟨[(.int .i64 p), (.slice (.some ⟨0, 0, .none⟩) (n) (c))]⟩))) ∧ (True))) ∧
((ConOK Try.prog 44 (C44 false p n c f)) ∧ (Con.pre (C44 false p n c f) ⟨⟨[(.int .i64 p)], [⟨n, c⟩]⟩, [(mvs n f)]⟩) ∧
((((((2 : Nat) ≤ (2 : Nat))) ∧ (((.agg ⟨[(.int .i64 p), (.slice (.some ⟨0, 0, .none⟩) (n) (c))]⟩) : Value) = (.agg ⟨[(.int .i64 p), (.slice (.some ⟨0, 0, .none⟩) (n) (c))]⟩))) ∧ (True)) ∧
((((((7 : Nat) ≤ (7 : Nat))) ∧ (((.agg ⟨[(.int .i64 (ordF false p n f n (0 : Nat))), (.int .i64 (ordF false p n f n (1 : Nat))), (.int .i64 (ordF false p n f n (2 : Nat))), (.int .i64 (ordF false p n f n (3 : Nat))), (.int .i64 (ordF false p n f n (4 : Nat))), (.int .i64 (ordF false p n f n (5 : Nat))), (.int .i64 (ordF false p n f n (6 : Nat)))]⟩) : Value) = (.agg ⟨[(.int .i64 (ordF false p n f n (0 : Nat))), (.int .i64 (ordF false p n f n (1 : Nat))), (.int .i64 (ordF false p n f n (2 : Nat))), (.int .i64 (ordF false p n f n (3 : Nat))), (.int .i64 (ordF false p n f n (4 : Nat))), (.int .i64 (ordF false p n f n (5 : Nat))), (.int .i64 (ordF false p n f n (6 : Nat)))]⟩))) ∧ (True)) ∧
((ConOK Try.prog 87 (C87 n (ordF false p n f n) found)) ∧ (Con.pre (C87 n (ordF false p n f n) found) ⟨⟨[(.int .i64 (ordF false p n f n (0 : Nat))), (.int .i64 (ordF false p n f n (1 : Nat))), (.int .i64 (ordF false p n f n (2 : Nat))), (.int .i64 (ordF false p n f n (3 : Nat))), (.int .i64 (ordF false p n f n (4 : Nat))), (.int .i64 (ordF false p n f n (5 : Nat))), (.int .i64 (ordF false p n f n (6 : Nat))), (.int .i64 n)], []⟩, []⟩) ∧
R (.ret (.tuple ⟨[(.int .i64 found), (.int .i64 0)]⟩))))))))) := by kernel_rfl
theorem f24t (p : Int) (n c many : Nat) (f : Nat → Mv) (pl : List Value) (R : Hx → Prop) : (vx.call 24 [hV p n c, .bool true] (retN (rowT3 1 3) R) (m1 (mvs n f)) ((20, .con (C68t p n c f)) :: (19, .again) :: (0, .con (C44 true p n c f)) :: (0, .again) :: (7, .conN (C49 p n c f)) :: (0, .again) :: (0, .con (C83c (ordF true p n f n) n n (jobsC n f) many)) :: (5, .conN (C86c p n c (mvs n f) (ordF true p n f n) many pl)) :: [(21, .tm (0 : Nat) [((1 : Nat), (13 : Nat))])])) =
(((ConOK Try.prog 68 (C68t p n c f)) ∧ (Con.pre (C68t p n c f) ⟨⟨[(.int .i64 p)], [⟨n, c⟩]⟩, [(mvs n f)]⟩) ∧
((((((2 : Nat) ≤ (2 : Nat))) ∧ (((.agg ⟨[(.int .i64 p), (.slice (.some ⟨0, 0, .none⟩) (n) (c))]⟩) : Value) = (.agg ⟨[(.int .i64 p), (.slice (.some ⟨0, 0, .none⟩) (n) (c))]⟩))) ∧ (((((2 : Nat) ≤ (2 : Nat))) ∧ (((.agg ⟨[(.int .i64 p), (.slice (.some ⟨0, 0, .none⟩) (n) (c))]⟩) : Value) = (.agg ⟨[(.int .i64 p), (.slice (.some ⟨0, 0, .none⟩) (n) (c))]⟩))) ∧ (True))) ∧
((ConOK Try.prog 44 (C44 true p n c f)) ∧ (Con.pre (C44 true p n c f) ⟨⟨[(.int .i64 p)], [⟨n, c⟩]⟩, [(mvs n f)]⟩) ∧
((((((2 : Nat) ≤ (2 : Nat))) ∧ (((.agg ⟨[(.int .i64 p), (.slice (.some ⟨0, 0, .none⟩) (n) (c))]⟩) : Value) = (.agg ⟨[(.int .i64 p), (.slice (.some ⟨0, 0, .none⟩) (n) (c))]⟩))) ∧ (True)) ∧
((ConNOK Try.prog 49 (C49 p n c f)) ∧ (ConN.pre (C49 p n c f) ⟨⟨[(.int .i64 p)], [⟨n, c⟩]⟩, [(mvs n f)]⟩) ∧
((((((7 : Nat) ≤ (7 : Nat))) ∧ (((.agg ⟨[(.int .i64 (ordF true p n f n (0 : Nat))), (.int .i64 (ordF true p n f n (1 : Nat))), (.int .i64 (ordF true p n f n (2 : Nat))), (.int .i64 (ordF true p n f n (3 : Nat))), (.int .i64 (ordF true p n f n (4 : Nat))), (.int .i64 (ordF true p n f n (5 : Nat))), (.int .i64 (ordF true p n f n (6 : Nat)))]⟩) : Value) = (.agg ⟨[(.int .i64 (ordF true p n f n (0 : Nat))), (.int .i64 (ordF true p n f n (1 : Nat))), (.int .i64 (ordF true p n f n (2 : Nat))), (.int .i64 (ordF true p n f n (3 : Nat))), (.int .i64 (ordF true p n f n (4 : Nat))), (.int .i64 (ordF true p n f n (5 : Nat))), (.int .i64 (ordF true p n f n (6 : Nat)))]⟩))) ∧ (True)) ∧
((ConOK Try.prog 83 (C83c (ordF true p n f n) n n (jobsC n f) many)) ∧ (Con.pre (C83c (ordF true p n f n) n n (jobsC n f) many) ⟨⟨[(.int .i64 (ordF true p n f n (0 : Nat))), (.int .i64 (ordF true p n f n (1 : Nat))), (.int .i64 (ordF true p n f n (2 : Nat))), (.int .i64 (ordF true p n f n (3 : Nat))), (.int .i64 (ordF true p n f n (4 : Nat))), (.int .i64 (ordF true p n f n (5 : Nat))), (.int .i64 (ordF true p n f n (6 : Nat)))], [⟨n, n⟩]⟩, [(jobsC n f)]⟩) ∧
((ConNOK Try.prog 86 (C86c p n c (mvs n f) (ordF true p n f n) many pl)) ∧ (ConN.pre (C86c p n c (mvs n f) (ordF true p n f n) many pl) ⟨⟨[(.int .i64 p), (.int .i64 (ordF true p n f n (0 : Nat))), (.int .i64 (ordF true p n f n (1 : Nat))), (.int .i64 (ordF true p n f n (2 : Nat))), (.int .i64 (ordF true p n f n (3 : Nat))), (.int .i64 (ordF true p n f n (4 : Nat))), (.int .i64 (ordF true p n f n (5 : Nat))), (.int .i64 (ordF true p n f n (6 : Nat))), (.int .i64 many)], [⟨n, c⟩]⟩, [(mvs n f)]⟩) ∧
R ⟨⟨[(.int .i64 many), (.int .i64 0)], [⟨n, n⟩]⟩, [(pl)]⟩))))))))) := by kernel_rfl
theorem f24f (p : Int) (n c many : Nat) (f : Nat → Mv) (pl : List Value) (R : Hx → Prop) : (vx.call 24 [hV p n c, .bool false] (retN (rowT3 1 3) R) (m1 (mvs n f)) ((20, .con (C68t p n c f)) :: (19, .again) :: (0, .con (C44 false p n c f)) :: (0, .again) :: (7, .conN (C49 p n c f)) :: (0, .again) :: (0, .con (C83c (ordF false p n f n) n n (jobsC n f) many)) :: (5, .conN (C86c p n c (mvs n f) (ordF false p n f n) many pl)) :: [(21, .tm (0 : Nat) [((1 : Nat), (13 : Nat))])])) =
(((ConOK Try.prog 68 (C68t p n c f)) ∧ (Con.pre (C68t p n c f) ⟨⟨[(.int .i64 p)], [⟨n, c⟩]⟩, [(mvs n f)]⟩) ∧
((((((2 : Nat) ≤ (2 : Nat))) ∧ (((.agg ⟨[(.int .i64 p), (.slice (.some ⟨0, 0, .none⟩) (n) (c))]⟩) : Value) = (.agg ⟨[(.int .i64 p), (.slice (.some ⟨0, 0, .none⟩) (n) (c))]⟩))) ∧ (((((2 : Nat) ≤ (2 : Nat))) ∧ (((.agg ⟨[(.int .i64 p), (.slice (.some ⟨0, 0, .none⟩) (n) (c))]⟩) : Value) = (.agg ⟨[(.int .i64 p), (.slice (.some ⟨0, 0, .none⟩) (n) (c))]⟩))) ∧ (True))) ∧
((ConOK Try.prog 44 (C44 false p n c f)) ∧ (Con.pre (C44 false p n c f) ⟨⟨[(.int .i64 p)], [⟨n, c⟩]⟩, [(mvs n f)]⟩) ∧
((((((2 : Nat) ≤ (2 : Nat))) ∧ (((.agg ⟨[(.int .i64 p), (.slice (.some ⟨0, 0, .none⟩) (n) (c))]⟩) : Value) = (.agg ⟨[(.int .i64 p), (.slice (.some ⟨0, 0, .none⟩) (n) (c))]⟩))) ∧ (True)) ∧
((ConNOK Try.prog 49 (C49 p n c f)) ∧ (ConN.pre (C49 p n c f) ⟨⟨[(.int .i64 p)], [⟨n, c⟩]⟩, [(mvs n f)]⟩) ∧
((((((7 : Nat) ≤ (7 : Nat))) ∧ (((.agg ⟨[(.int .i64 (ordF false p n f n (0 : Nat))), (.int .i64 (ordF false p n f n (1 : Nat))), (.int .i64 (ordF false p n f n (2 : Nat))), (.int .i64 (ordF false p n f n (3 : Nat))), (.int .i64 (ordF false p n f n (4 : Nat))), (.int .i64 (ordF false p n f n (5 : Nat))), (.int .i64 (ordF false p n f n (6 : Nat)))]⟩) : Value) = (.agg ⟨[(.int .i64 (ordF false p n f n (0 : Nat))), (.int .i64 (ordF false p n f n (1 : Nat))), (.int .i64 (ordF false p n f n (2 : Nat))), (.int .i64 (ordF false p n f n (3 : Nat))), (.int .i64 (ordF false p n f n (4 : Nat))), (.int .i64 (ordF false p n f n (5 : Nat))), (.int .i64 (ordF false p n f n (6 : Nat)))]⟩))) ∧ (True)) ∧
((ConOK Try.prog 83 (C83c (ordF false p n f n) n n (jobsC n f) many)) ∧ (Con.pre (C83c (ordF false p n f n) n n (jobsC n f) many) ⟨⟨[(.int .i64 (ordF false p n f n (0 : Nat))), (.int .i64 (ordF false p n f n (1 : Nat))), (.int .i64 (ordF false p n f n (2 : Nat))), (.int .i64 (ordF false p n f n (3 : Nat))), (.int .i64 (ordF false p n f n (4 : Nat))), (.int .i64 (ordF false p n f n (5 : Nat))), (.int .i64 (ordF false p n f n (6 : Nat)))], [⟨n, n⟩]⟩, [(jobsC n f)]⟩) ∧
((ConNOK Try.prog 86 (C86c p n c (mvs n f) (ordF false p n f n) many pl)) ∧ (ConN.pre (C86c p n c (mvs n f) (ordF false p n f n) many pl) ⟨⟨[(.int .i64 p), (.int .i64 (ordF false p n f n (0 : Nat))), (.int .i64 (ordF false p n f n (1 : Nat))), (.int .i64 (ordF false p n f n (2 : Nat))), (.int .i64 (ordF false p n f n (3 : Nat))), (.int .i64 (ordF false p n f n (4 : Nat))), (.int .i64 (ordF false p n f n (5 : Nat))), (.int .i64 (ordF false p n f n (6 : Nat))), (.int .i64 many)], [⟨n, c⟩]⟩, [(mvs n f)]⟩) ∧
R ⟨⟨[(.int .i64 many), (.int .i64 0)], [⟨n, n⟩]⟩, [(pl)]⟩))))))))) := by kernel_rfl
theorem f86_1 (p : Int) (c many : Nat) (b : Bool) (ms : List Value) (o D2 P2 : Nat → Int) (R : Hx → Prop) : (vx.call 86 [hV p 1 c, .agg ⟨ints 7 o⟩, I many] (retN (rowT 1 3) R) (m1 ms) ((11, .conW (CW96 p (1 : Nat) c many o (0 : Int) (ints (7 : Nat) fun x => (0 : Int)) (ints (7 : Nat) fun x => (0 : Int)) b (ints (7 : Nat) D2) (ints (7 : Nat) P2))) :: [(11, .tm (0 : Nat) [((1 : Nat), (7 : Nat))])])) =
(((ConWOK Try.prog ((96 : Nat)) (CW96 p (1 : Nat) c many o (0 : Int) [Value.int .i64 (0 : Int), Value.int .i64 (0 : Int), Value.int .i64 (0 : Int), Value.int .i64 (0 : Int), Value.int .i64 (0 : Int), Value.int .i64 (0 : Int), Value.int .i64 (0 : Int)] [Value.int .i64 (0 : Int), Value.int .i64 (0 : Int), Value.int .i64 (0 : Int), Value.int .i64 (0 : Int), Value.int .i64 (0 : Int), Value.int .i64 (0 : Int), Value.int .i64 (0 : Int)] b [Value.int .i64 (D2 (0 : Nat)), Value.int .i64 (D2 (1 : Nat)), Value.int .i64 (D2 (2 : Nat)), Value.int .i64 (D2 (3 : Nat)), Value.int .i64 (D2 (4 : Nat)), Value.int .i64 (D2 (5 : Nat)), Value.int .i64 (D2 (6 : Nat))] [Value.int .i64 (P2 (0 : Nat)), Value.int .i64 (P2 (1 : Nat)), Value.int .i64 (P2 (2 : Nat)), Value.int .i64 (P2 (3 : Nat)), Value.int .i64 (P2 (4 : Nat)), Value.int .i64 (P2 (5 : Nat)), Value.int .i64 (P2 (6 : Nat))])) ∧ (ConW.pre (CW96 p (1 : Nat) c many o (0 : Int) [Value.int .i64 (0 : Int), Value.int .i64 (0 : Int), Value.int .i64 (0 : Int), Value.int .i64 (0 : Int), Value.int .i64 (0 : Int), Value.int .i64 (0 : Int), Value.int .i64 (0 : Int)] [Value.int .i64 (0 : Int), Value.int .i64 (0 : Int), Value.int .i64 (0 : Int), Value.int .i64 (0 : Int), Value.int .i64 (0 : Int), Value.int .i64 (0 : Int), Value.int .i64 (0 : Int)] b [Value.int .i64 (D2 (0 : Nat)), Value.int .i64 (D2 (1 : Nat)), Value.int .i64 (D2 (2 : Nat)), Value.int .i64 (D2 (3 : Nat)), Value.int .i64 (D2 (4 : Nat)), Value.int .i64 (D2 (5 : Nat)), Value.int .i64 (D2 (6 : Nat))] [Value.int .i64 (P2 (0 : Nat)), Value.int .i64 (P2 (1 : Nat)), Value.int .i64 (P2 (2 : Nat)), Value.int .i64 (P2 (3 : Nat)), Value.int .i64 (P2 (4 : Nat)), Value.int .i64 (P2 (5 : Nat)), Value.int .i64 (P2 (6 : Nat))]) ⟨⟨[(.int .i64 0), (.int .i64 p), (.int .i64 many), (.int .i64 (o (0 : Nat))), (.int .i64 (o (1 : Nat))), (.int .i64 (o (2 : Nat))), (.int .i64 (o (3 : Nat))), (.int .i64 (o (4 : Nat))), (.int .i64 (o (5 : Nat))), (.int .i64 (o (6 : Nat)))], [⟨1, c⟩]⟩, [[(.int .i64 0), (.int .i64 0), (.int .i64 0), (.int .i64 0), (.int .i64 0), (.int .i64 0), (.int .i64 0)], [(.int .i64 0), (.int .i64 0), (.int .i64 0), (.int .i64 0), (.int .i64 0), (.int .i64 0), (.int .i64 0)]], []⟩) ∧
R ⟨⟨[], [⟨((1 : Nat)), ((1 : Nat))⟩]⟩, [[(.int .i64 (P2 (0 : Nat)))]]⟩)) := by kernel_rfl
theorem f86_2 (p : Int) (c many : Nat) (b : Bool) (ms : List Value) (o D2 P2 : Nat → Int) (R : Hx → Prop) : (vx.call 86 [hV p 2 c, .agg ⟨ints 7 o⟩, I many] (retN (rowT 1 3) R) (m1 ms) ((11, .conW (CW96 p (2 : Nat) c many o (0 : Int) (ints (7 : Nat) fun x => (0 : Int)) (ints (7 : Nat) fun x => (0 : Int)) b (ints (7 : Nat) D2) (ints (7 : Nat) P2))) :: [(11, .tm (0 : Nat) [((1 : Nat), (7 : Nat))])])) =
(((ConWOK Try.prog ((96 : Nat)) (CW96 p (2 : Nat) c many o (0 : Int) [Value.int .i64 (0 : Int), Value.int .i64 (0 : Int), Value.int .i64 (0 : Int), Value.int .i64 (0 : Int), Value.int .i64 (0 : Int), Value.int .i64 (0 : Int), Value.int .i64 (0 : Int)] [Value.int .i64 (0 : Int), Value.int .i64 (0 : Int), Value.int .i64 (0 : Int), Value.int .i64 (0 : Int), Value.int .i64 (0 : Int), Value.int .i64 (0 : Int), Value.int .i64 (0 : Int)] b [Value.int .i64 (D2 (0 : Nat)), Value.int .i64 (D2 (1 : Nat)), Value.int .i64 (D2 (2 : Nat)), Value.int .i64 (D2 (3 : Nat)), Value.int .i64 (D2 (4 : Nat)), Value.int .i64 (D2 (5 : Nat)), Value.int .i64 (D2 (6 : Nat))] [Value.int .i64 (P2 (0 : Nat)), Value.int .i64 (P2 (1 : Nat)), Value.int .i64 (P2 (2 : Nat)), Value.int .i64 (P2 (3 : Nat)), Value.int .i64 (P2 (4 : Nat)), Value.int .i64 (P2 (5 : Nat)), Value.int .i64 (P2 (6 : Nat))])) ∧ (ConW.pre (CW96 p (2 : Nat) c many o (0 : Int) [Value.int .i64 (0 : Int), Value.int .i64 (0 : Int), Value.int .i64 (0 : Int), Value.int .i64 (0 : Int), Value.int .i64 (0 : Int), Value.int .i64 (0 : Int), Value.int .i64 (0 : Int)] [Value.int .i64 (0 : Int), Value.int .i64 (0 : Int), Value.int .i64 (0 : Int), Value.int .i64 (0 : Int), Value.int .i64 (0 : Int), Value.int .i64 (0 : Int), Value.int .i64 (0 : Int)] b [Value.int .i64 (D2 (0 : Nat)), Value.int .i64 (D2 (1 : Nat)), Value.int .i64 (D2 (2 : Nat)), Value.int .i64 (D2 (3 : Nat)), Value.int .i64 (D2 (4 : Nat)), Value.int .i64 (D2 (5 : Nat)), Value.int .i64 (D2 (6 : Nat))] [Value.int .i64 (P2 (0 : Nat)), Value.int .i64 (P2 (1 : Nat)), Value.int .i64 (P2 (2 : Nat)), Value.int .i64 (P2 (3 : Nat)), Value.int .i64 (P2 (4 : Nat)), Value.int .i64 (P2 (5 : Nat)), Value.int .i64 (P2 (6 : Nat))]) ⟨⟨[(.int .i64 0), (.int .i64 p), (.int .i64 many), (.int .i64 (o (0 : Nat))), (.int .i64 (o (1 : Nat))), (.int .i64 (o (2 : Nat))), (.int .i64 (o (3 : Nat))), (.int .i64 (o (4 : Nat))), (.int .i64 (o (5 : Nat))), (.int .i64 (o (6 : Nat)))], [⟨2, c⟩]⟩, [[(.int .i64 0), (.int .i64 0), (.int .i64 0), (.int .i64 0), (.int .i64 0), (.int .i64 0), (.int .i64 0)], [(.int .i64 0), (.int .i64 0), (.int .i64 0), (.int .i64 0), (.int .i64 0), (.int .i64 0), (.int .i64 0)]], []⟩) ∧
R ⟨⟨[], [⟨((2 : Nat)), ((2 : Nat))⟩]⟩, [[(.int .i64 (P2 (0 : Nat))), (.int .i64 (P2 (1 : Nat)))]]⟩)) := by kernel_rfl
theorem f86_3 (p : Int) (c many : Nat) (b : Bool) (ms : List Value) (o D2 P2 : Nat → Int) (R : Hx → Prop) : (vx.call 86 [hV p 3 c, .agg ⟨ints 7 o⟩, I many] (retN (rowT 1 3) R) (m1 ms) ((11, .conW (CW96 p (3 : Nat) c many o (0 : Int) (ints (7 : Nat) fun x => (0 : Int)) (ints (7 : Nat) fun x => (0 : Int)) b (ints (7 : Nat) D2) (ints (7 : Nat) P2))) :: [(11, .tm (0 : Nat) [((1 : Nat), (7 : Nat))])])) =
(((ConWOK Try.prog ((96 : Nat)) (CW96 p (3 : Nat) c many o (0 : Int) [Value.int .i64 (0 : Int), Value.int .i64 (0 : Int), Value.int .i64 (0 : Int), Value.int .i64 (0 : Int), Value.int .i64 (0 : Int), Value.int .i64 (0 : Int), Value.int .i64 (0 : Int)] [Value.int .i64 (0 : Int), Value.int .i64 (0 : Int), Value.int .i64 (0 : Int), Value.int .i64 (0 : Int), Value.int .i64 (0 : Int), Value.int .i64 (0 : Int), Value.int .i64 (0 : Int)] b [Value.int .i64 (D2 (0 : Nat)), Value.int .i64 (D2 (1 : Nat)), Value.int .i64 (D2 (2 : Nat)), Value.int .i64 (D2 (3 : Nat)), Value.int .i64 (D2 (4 : Nat)), Value.int .i64 (D2 (5 : Nat)), Value.int .i64 (D2 (6 : Nat))] [Value.int .i64 (P2 (0 : Nat)), Value.int .i64 (P2 (1 : Nat)), Value.int .i64 (P2 (2 : Nat)), Value.int .i64 (P2 (3 : Nat)), Value.int .i64 (P2 (4 : Nat)), Value.int .i64 (P2 (5 : Nat)), Value.int .i64 (P2 (6 : Nat))])) ∧ (ConW.pre (CW96 p (3 : Nat) c many o (0 : Int) [Value.int .i64 (0 : Int), Value.int .i64 (0 : Int), Value.int .i64 (0 : Int), Value.int .i64 (0 : Int), Value.int .i64 (0 : Int), Value.int .i64 (0 : Int), Value.int .i64 (0 : Int)] [Value.int .i64 (0 : Int), Value.int .i64 (0 : Int), Value.int .i64 (0 : Int), Value.int .i64 (0 : Int), Value.int .i64 (0 : Int), Value.int .i64 (0 : Int), Value.int .i64 (0 : Int)] b [Value.int .i64 (D2 (0 : Nat)), Value.int .i64 (D2 (1 : Nat)), Value.int .i64 (D2 (2 : Nat)), Value.int .i64 (D2 (3 : Nat)), Value.int .i64 (D2 (4 : Nat)), Value.int .i64 (D2 (5 : Nat)), Value.int .i64 (D2 (6 : Nat))] [Value.int .i64 (P2 (0 : Nat)), Value.int .i64 (P2 (1 : Nat)), Value.int .i64 (P2 (2 : Nat)), Value.int .i64 (P2 (3 : Nat)), Value.int .i64 (P2 (4 : Nat)), Value.int .i64 (P2 (5 : Nat)), Value.int .i64 (P2 (6 : Nat))]) ⟨⟨[(.int .i64 0), (.int .i64 p), (.int .i64 many), (.int .i64 (o (0 : Nat))), (.int .i64 (o (1 : Nat))), (.int .i64 (o (2 : Nat))), (.int .i64 (o (3 : Nat))), (.int .i64 (o (4 : Nat))), (.int .i64 (o (5 : Nat))), (.int .i64 (o (6 : Nat)))], [⟨3, c⟩]⟩, [[(.int .i64 0), (.int .i64 0), (.int .i64 0), (.int .i64 0), (.int .i64 0), (.int .i64 0), (.int .i64 0)], [(.int .i64 0), (.int .i64 0), (.int .i64 0), (.int .i64 0), (.int .i64 0), (.int .i64 0), (.int .i64 0)]], []⟩) ∧
R ⟨⟨[], [⟨((3 : Nat)), ((3 : Nat))⟩]⟩, [[(.int .i64 (P2 (0 : Nat))), (.int .i64 (P2 (1 : Nat))), (.int .i64 (P2 (2 : Nat)))]]⟩)) := by kernel_rfl
theorem f86_4 (p : Int) (c many : Nat) (b : Bool) (ms : List Value) (o D2 P2 : Nat → Int) (R : Hx → Prop) : (vx.call 86 [hV p 4 c, .agg ⟨ints 7 o⟩, I many] (retN (rowT 1 3) R) (m1 ms) ((11, .conW (CW96 p (4 : Nat) c many o (0 : Int) (ints (7 : Nat) fun x => (0 : Int)) (ints (7 : Nat) fun x => (0 : Int)) b (ints (7 : Nat) D2) (ints (7 : Nat) P2))) :: [(11, .tm (0 : Nat) [((1 : Nat), (7 : Nat))])])) =
(((ConWOK Try.prog ((96 : Nat)) (CW96 p (4 : Nat) c many o (0 : Int) [Value.int .i64 (0 : Int), Value.int .i64 (0 : Int), Value.int .i64 (0 : Int), Value.int .i64 (0 : Int), Value.int .i64 (0 : Int), Value.int .i64 (0 : Int), Value.int .i64 (0 : Int)] [Value.int .i64 (0 : Int), Value.int .i64 (0 : Int), Value.int .i64 (0 : Int), Value.int .i64 (0 : Int), Value.int .i64 (0 : Int), Value.int .i64 (0 : Int), Value.int .i64 (0 : Int)] b [Value.int .i64 (D2 (0 : Nat)), Value.int .i64 (D2 (1 : Nat)), Value.int .i64 (D2 (2 : Nat)), Value.int .i64 (D2 (3 : Nat)), Value.int .i64 (D2 (4 : Nat)), Value.int .i64 (D2 (5 : Nat)), Value.int .i64 (D2 (6 : Nat))] [Value.int .i64 (P2 (0 : Nat)), Value.int .i64 (P2 (1 : Nat)), Value.int .i64 (P2 (2 : Nat)), Value.int .i64 (P2 (3 : Nat)), Value.int .i64 (P2 (4 : Nat)), Value.int .i64 (P2 (5 : Nat)), Value.int .i64 (P2 (6 : Nat))])) ∧ (ConW.pre (CW96 p (4 : Nat) c many o (0 : Int) [Value.int .i64 (0 : Int), Value.int .i64 (0 : Int), Value.int .i64 (0 : Int), Value.int .i64 (0 : Int), Value.int .i64 (0 : Int), Value.int .i64 (0 : Int), Value.int .i64 (0 : Int)] [Value.int .i64 (0 : Int), Value.int .i64 (0 : Int), Value.int .i64 (0 : Int), Value.int .i64 (0 : Int), Value.int .i64 (0 : Int), Value.int .i64 (0 : Int), Value.int .i64 (0 : Int)] b [Value.int .i64 (D2 (0 : Nat)), Value.int .i64 (D2 (1 : Nat)), Value.int .i64 (D2 (2 : Nat)), Value.int .i64 (D2 (3 : Nat)), Value.int .i64 (D2 (4 : Nat)), Value.int .i64 (D2 (5 : Nat)), Value.int .i64 (D2 (6 : Nat))] [Value.int .i64 (P2 (0 : Nat)), Value.int .i64 (P2 (1 : Nat)), Value.int .i64 (P2 (2 : Nat)), Value.int .i64 (P2 (3 : Nat)), Value.int .i64 (P2 (4 : Nat)), Value.int .i64 (P2 (5 : Nat)), Value.int .i64 (P2 (6 : Nat))]) ⟨⟨[(.int .i64 0), (.int .i64 p), (.int .i64 many), (.int .i64 (o (0 : Nat))), (.int .i64 (o (1 : Nat))), (.int .i64 (o (2 : Nat))), (.int .i64 (o (3 : Nat))), (.int .i64 (o (4 : Nat))), (.int .i64 (o (5 : Nat))), (.int .i64 (o (6 : Nat)))], [⟨4, c⟩]⟩, [[(.int .i64 0), (.int .i64 0), (.int .i64 0), (.int .i64 0), (.int .i64 0), (.int .i64 0), (.int .i64 0)], [(.int .i64 0), (.int .i64 0), (.int .i64 0), (.int .i64 0), (.int .i64 0), (.int .i64 0), (.int .i64 0)]], []⟩) ∧
R ⟨⟨[], [⟨((4 : Nat)), ((4 : Nat))⟩]⟩, [[(.int .i64 (P2 (0 : Nat))), (.int .i64 (P2 (1 : Nat))), (.int .i64 (P2 (2 : Nat))), (.int .i64 (P2 (3 : Nat)))]]⟩)) := by kernel_rfl
theorem f86_5 (p : Int) (c many : Nat) (b : Bool) (ms : List Value) (o D2 P2 : Nat → Int) (R : Hx → Prop) : (vx.call 86 [hV p 5 c, .agg ⟨ints 7 o⟩, I many] (retN (rowT 1 3) R) (m1 ms) ((11, .conW (CW96 p (5 : Nat) c many o (0 : Int) (ints (7 : Nat) fun x => (0 : Int)) (ints (7 : Nat) fun x => (0 : Int)) b (ints (7 : Nat) D2) (ints (7 : Nat) P2))) :: [(11, .tm (0 : Nat) [((1 : Nat), (7 : Nat))])])) =
(((ConWOK Try.prog ((96 : Nat)) (CW96 p (5 : Nat) c many o (0 : Int) [Value.int .i64 (0 : Int), Value.int .i64 (0 : Int), Value.int .i64 (0 : Int), Value.int .i64 (0 : Int), Value.int .i64 (0 : Int), Value.int .i64 (0 : Int), Value.int .i64 (0 : Int)] [Value.int .i64 (0 : Int), Value.int .i64 (0 : Int), Value.int .i64 (0 : Int), Value.int .i64 (0 : Int), Value.int .i64 (0 : Int), Value.int .i64 (0 : Int), Value.int .i64 (0 : Int)] b [Value.int .i64 (D2 (0 : Nat)), Value.int .i64 (D2 (1 : Nat)), Value.int .i64 (D2 (2 : Nat)), Value.int .i64 (D2 (3 : Nat)), Value.int .i64 (D2 (4 : Nat)), Value.int .i64 (D2 (5 : Nat)), Value.int .i64 (D2 (6 : Nat))] [Value.int .i64 (P2 (0 : Nat)), Value.int .i64 (P2 (1 : Nat)), Value.int .i64 (P2 (2 : Nat)), Value.int .i64 (P2 (3 : Nat)), Value.int .i64 (P2 (4 : Nat)), Value.int .i64 (P2 (5 : Nat)), Value.int .i64 (P2 (6 : Nat))])) ∧ (ConW.pre (CW96 p (5 : Nat) c many o (0 : Int) [Value.int .i64 (0 : Int), Value.int .i64 (0 : Int), Value.int .i64 (0 : Int), Value.int .i64 (0 : Int), Value.int .i64 (0 : Int), Value.int .i64 (0 : Int), Value.int .i64 (0 : Int)] [Value.int .i64 (0 : Int), Value.int .i64 (0 : Int), Value.int .i64 (0 : Int), Value.int .i64 (0 : Int), Value.int .i64 (0 : Int), Value.int .i64 (0 : Int), Value.int .i64 (0 : Int)] b [Value.int .i64 (D2 (0 : Nat)), Value.int .i64 (D2 (1 : Nat)), Value.int .i64 (D2 (2 : Nat)), Value.int .i64 (D2 (3 : Nat)), Value.int .i64 (D2 (4 : Nat)), Value.int .i64 (D2 (5 : Nat)), Value.int .i64 (D2 (6 : Nat))] [Value.int .i64 (P2 (0 : Nat)), Value.int .i64 (P2 (1 : Nat)), Value.int .i64 (P2 (2 : Nat)), Value.int .i64 (P2 (3 : Nat)), Value.int .i64 (P2 (4 : Nat)), Value.int .i64 (P2 (5 : Nat)), Value.int .i64 (P2 (6 : Nat))]) ⟨⟨[(.int .i64 0), (.int .i64 p), (.int .i64 many), (.int .i64 (o (0 : Nat))), (.int .i64 (o (1 : Nat))), (.int .i64 (o (2 : Nat))), (.int .i64 (o (3 : Nat))), (.int .i64 (o (4 : Nat))), (.int .i64 (o (5 : Nat))), (.int .i64 (o (6 : Nat)))], [⟨5, c⟩]⟩, [[(.int .i64 0), (.int .i64 0), (.int .i64 0), (.int .i64 0), (.int .i64 0), (.int .i64 0), (.int .i64 0)], [(.int .i64 0), (.int .i64 0), (.int .i64 0), (.int .i64 0), (.int .i64 0), (.int .i64 0), (.int .i64 0)]], []⟩) ∧
R ⟨⟨[], [⟨((5 : Nat)), ((5 : Nat))⟩]⟩, [[(.int .i64 (P2 (0 : Nat))), (.int .i64 (P2 (1 : Nat))), (.int .i64 (P2 (2 : Nat))), (.int .i64 (P2 (3 : Nat))), (.int .i64 (P2 (4 : Nat)))]]⟩)) := by kernel_rfl
theorem f86_6 (p : Int) (c many : Nat) (b : Bool) (ms : List Value) (o D2 P2 : Nat → Int) (R : Hx → Prop) : (vx.call 86 [hV p 6 c, .agg ⟨ints 7 o⟩, I many] (retN (rowT 1 3) R) (m1 ms) ((11, .conW (CW96 p (6 : Nat) c many o (0 : Int) (ints (7 : Nat) fun x => (0 : Int)) (ints (7 : Nat) fun x => (0 : Int)) b (ints (7 : Nat) D2) (ints (7 : Nat) P2))) :: [(11, .tm (0 : Nat) [((1 : Nat), (7 : Nat))])])) =
(((ConWOK Try.prog ((96 : Nat)) (CW96 p (6 : Nat) c many o (0 : Int) [Value.int .i64 (0 : Int), Value.int .i64 (0 : Int), Value.int .i64 (0 : Int), Value.int .i64 (0 : Int), Value.int .i64 (0 : Int), Value.int .i64 (0 : Int), Value.int .i64 (0 : Int)] [Value.int .i64 (0 : Int), Value.int .i64 (0 : Int), Value.int .i64 (0 : Int), Value.int .i64 (0 : Int), Value.int .i64 (0 : Int), Value.int .i64 (0 : Int), Value.int .i64 (0 : Int)] b [Value.int .i64 (D2 (0 : Nat)), Value.int .i64 (D2 (1 : Nat)), Value.int .i64 (D2 (2 : Nat)), Value.int .i64 (D2 (3 : Nat)), Value.int .i64 (D2 (4 : Nat)), Value.int .i64 (D2 (5 : Nat)), Value.int .i64 (D2 (6 : Nat))] [Value.int .i64 (P2 (0 : Nat)), Value.int .i64 (P2 (1 : Nat)), Value.int .i64 (P2 (2 : Nat)), Value.int .i64 (P2 (3 : Nat)), Value.int .i64 (P2 (4 : Nat)), Value.int .i64 (P2 (5 : Nat)), Value.int .i64 (P2 (6 : Nat))])) ∧ (ConW.pre (CW96 p (6 : Nat) c many o (0 : Int) [Value.int .i64 (0 : Int), Value.int .i64 (0 : Int), Value.int .i64 (0 : Int), Value.int .i64 (0 : Int), Value.int .i64 (0 : Int), Value.int .i64 (0 : Int), Value.int .i64 (0 : Int)] [Value.int .i64 (0 : Int), Value.int .i64 (0 : Int), Value.int .i64 (0 : Int), Value.int .i64 (0 : Int), Value.int .i64 (0 : Int), Value.int .i64 (0 : Int), Value.int .i64 (0 : Int)] b [Value.int .i64 (D2 (0 : Nat)), Value.int .i64 (D2 (1 : Nat)), Value.int .i64 (D2 (2 : Nat)), Value.int .i64 (D2 (3 : Nat)), Value.int .i64 (D2 (4 : Nat)), Value.int .i64 (D2 (5 : Nat)), Value.int .i64 (D2 (6 : Nat))] [Value.int .i64 (P2 (0 : Nat)), Value.int .i64 (P2 (1 : Nat)), Value.int .i64 (P2 (2 : Nat)), Value.int .i64 (P2 (3 : Nat)), Value.int .i64 (P2 (4 : Nat)), Value.int .i64 (P2 (5 : Nat)), Value.int .i64 (P2 (6 : Nat))]) ⟨⟨[(.int .i64 0), (.int .i64 p), (.int .i64 many), (.int .i64 (o (0 : Nat))), (.int .i64 (o (1 : Nat))), (.int .i64 (o (2 : Nat))), (.int .i64 (o (3 : Nat))), (.int .i64 (o (4 : Nat))), (.int .i64 (o (5 : Nat))), (.int .i64 (o (6 : Nat)))], [⟨6, c⟩]⟩, [[(.int .i64 0), (.int .i64 0), (.int .i64 0), (.int .i64 0), (.int .i64 0), (.int .i64 0), (.int .i64 0)], [(.int .i64 0), (.int .i64 0), (.int .i64 0), (.int .i64 0), (.int .i64 0), (.int .i64 0), (.int .i64 0)]], []⟩) ∧
R ⟨⟨[], [⟨((6 : Nat)), ((6 : Nat))⟩]⟩, [[(.int .i64 (P2 (0 : Nat))), (.int .i64 (P2 (1 : Nat))), (.int .i64 (P2 (2 : Nat))), (.int .i64 (P2 (3 : Nat))), (.int .i64 (P2 (4 : Nat))), (.int .i64 (P2 (5 : Nat)))]]⟩)) := by kernel_rfl
theorem f86_7 (p : Int) (c many : Nat) (b : Bool) (ms : List Value) (o D2 P2 : Nat → Int) (R : Hx → Prop) : (vx.call 86 [hV p 7 c, .agg ⟨ints 7 o⟩, I many] (retN (rowT 1 3) R) (m1 ms) ((11, .conW (CW96 p (7 : Nat) c many o (0 : Int) (ints (7 : Nat) fun x => (0 : Int)) (ints (7 : Nat) fun x => (0 : Int)) b (ints (7 : Nat) D2) (ints (7 : Nat) P2))) :: [(11, .tm (0 : Nat) [((1 : Nat), (7 : Nat))])])) =
(((ConWOK Try.prog ((96 : Nat)) (CW96 p (7 : Nat) c many o (0 : Int) [Value.int .i64 (0 : Int), Value.int .i64 (0 : Int), Value.int .i64 (0 : Int), Value.int .i64 (0 : Int), Value.int .i64 (0 : Int), Value.int .i64 (0 : Int), Value.int .i64 (0 : Int)] [Value.int .i64 (0 : Int), Value.int .i64 (0 : Int), Value.int .i64 (0 : Int), Value.int .i64 (0 : Int), Value.int .i64 (0 : Int), Value.int .i64 (0 : Int), Value.int .i64 (0 : Int)] b [Value.int .i64 (D2 (0 : Nat)), Value.int .i64 (D2 (1 : Nat)), Value.int .i64 (D2 (2 : Nat)), Value.int .i64 (D2 (3 : Nat)), Value.int .i64 (D2 (4 : Nat)), Value.int .i64 (D2 (5 : Nat)), Value.int .i64 (D2 (6 : Nat))] [Value.int .i64 (P2 (0 : Nat)), Value.int .i64 (P2 (1 : Nat)), Value.int .i64 (P2 (2 : Nat)), Value.int .i64 (P2 (3 : Nat)), Value.int .i64 (P2 (4 : Nat)), Value.int .i64 (P2 (5 : Nat)), Value.int .i64 (P2 (6 : Nat))])) ∧ (ConW.pre (CW96 p (7 : Nat) c many o (0 : Int) [Value.int .i64 (0 : Int), Value.int .i64 (0 : Int), Value.int .i64 (0 : Int), Value.int .i64 (0 : Int), Value.int .i64 (0 : Int), Value.int .i64 (0 : Int), Value.int .i64 (0 : Int)] [Value.int .i64 (0 : Int), Value.int .i64 (0 : Int), Value.int .i64 (0 : Int), Value.int .i64 (0 : Int), Value.int .i64 (0 : Int), Value.int .i64 (0 : Int), Value.int .i64 (0 : Int)] b [Value.int .i64 (D2 (0 : Nat)), Value.int .i64 (D2 (1 : Nat)), Value.int .i64 (D2 (2 : Nat)), Value.int .i64 (D2 (3 : Nat)), Value.int .i64 (D2 (4 : Nat)), Value.int .i64 (D2 (5 : Nat)), Value.int .i64 (D2 (6 : Nat))] [Value.int .i64 (P2 (0 : Nat)), Value.int .i64 (P2 (1 : Nat)), Value.int .i64 (P2 (2 : Nat)), Value.int .i64 (P2 (3 : Nat)), Value.int .i64 (P2 (4 : Nat)), Value.int .i64 (P2 (5 : Nat)), Value.int .i64 (P2 (6 : Nat))]) ⟨⟨[(.int .i64 0), (.int .i64 p), (.int .i64 many), (.int .i64 (o (0 : Nat))), (.int .i64 (o (1 : Nat))), (.int .i64 (o (2 : Nat))), (.int .i64 (o (3 : Nat))), (.int .i64 (o (4 : Nat))), (.int .i64 (o (5 : Nat))), (.int .i64 (o (6 : Nat)))], [⟨7, c⟩]⟩, [[(.int .i64 0), (.int .i64 0), (.int .i64 0), (.int .i64 0), (.int .i64 0), (.int .i64 0), (.int .i64 0)], [(.int .i64 0), (.int .i64 0), (.int .i64 0), (.int .i64 0), (.int .i64 0), (.int .i64 0), (.int .i64 0)]], []⟩) ∧
R ⟨⟨[], [⟨((7 : Nat)), ((7 : Nat))⟩]⟩, [[(.int .i64 (P2 (0 : Nat))), (.int .i64 (P2 (1 : Nat))), (.int .i64 (P2 (2 : Nat))), (.int .i64 (P2 (3 : Nat))), (.int .i64 (P2 (4 : Nat))), (.int .i64 (P2 (5 : Nat))), (.int .i64 (P2 (6 : Nat)))]]⟩)) := by kernel_rfl
theorem two_pow_lt {n : Nat} (hn : n ≤ 7) : 2 ^ n ≤ 128 ∧ 0 < 2 ^ n := by
  have : n = 0 ∨ n = 1 ∨ n = 2 ∨ n = 3 ∨ n = 4 ∨ n = 5 ∨ n = 6 ∨ n = 7 := by omega
  rcases this with rfl | rfl | rfl | rfl | rfl | rfl | rfl | rfl <;> decide
theorem wrap_sets {n : Nat} (hn : n ≤ 7) : IntKind.i64.wrap (IntKind.i64.wrap (IntKind.i64.wrap ((1 : Int) * (2 : Int) ^ n) - 1) + 1) = ((2 ^ n : Nat) : Int) := by
  obtain ⟨h1, h2⟩ := two_pow_lt hn
  have e : (1 : Int) * 2 ^ n = ((2 ^ n : Nat) : Int) := by simp
  rw [e]
  generalize 2 ^ n = z at h1 h2
  rw [wrapI (x := (z : Int)) (by omega) (by omega), wrapI (x := (z : Int) - 1) (by omega) (by omega), wrapI (by omega) (by omega)]
  omega
theorem C87_ok {n : Nat} {o : Nat → Int} (hn : n ≤ 7) : ConOK Try.prog 87 (C87 n o (bestF o (2 ^ n))) := by
  refine con_of vx_sound _ (fun y hy => ?_) rfl (fun y _ => rfl) (fun y hy => ?_) rfl (Nat.le_of_ble_eq_true rfl) (by rw [nglob]; exact Nat.zero_le _)
  · cases hy
    obtain ⟨h1, h2⟩ := two_pow_lt hn
    have hl := loop93 (o := o) h1 h2
    refine ⟨_, (f87 n (2 ^ n) (bestF o (2 ^ n)) o _).mpr ⟨⟨⟨by omega, by omega⟩, rfl⟩, ?_⟩⟩
    rw [wrap_sets hn]
    exact ⟨clB (2 ^ n) 0 0 false, hl, rfl⟩
  · cases hy
    intro cs hcs
    cases hcs
section
variable {p : Int} {n c : Nat} {f : Nat → Mv}
theorem C25_ok (sure : Bool) (hok : okH p n f = true) (hn : n ≤ 7) : ConOK Try.prog 25 (C25 sure p n c f (bestF (ordF sure p n f n) (2 ^ n))) := by
  refine con_of vx_sound _ (fun y hy => ?_) rfl (fun y _ => rfl) (fun y hy => ?_) rfl (Nat.le_of_ble_eq_true rfl) (by rw [nglob]; exact Nat.zero_le _)
  · cases hy
    cases sure
    · exact ⟨_, (f25f p n c _ f _).mpr ⟨C68t_ok p n c f (by omega), ⟨rfl, hok⟩, ⟨⟨Nat.le_refl _, rfl⟩, ⟨Nat.le_refl _, rfl⟩, trivial⟩, C44_ok _ p n c f hn, rfl, ⟨⟨Nat.le_refl _, rfl⟩, trivial⟩, ⟨⟨Nat.le_refl _, rfl⟩, trivial⟩, C87_ok hn, rfl, rfl⟩⟩
    · exact ⟨_, (f25t p n c _ f _).mpr ⟨C68t_ok p n c f (by omega), ⟨rfl, hok⟩, ⟨⟨Nat.le_refl _, rfl⟩, ⟨Nat.le_refl _, rfl⟩, trivial⟩, C44_ok _ p n c f hn, rfl, ⟨⟨Nat.le_refl _, rfl⟩, trivial⟩, ⟨⟨Nat.le_refl _, rfl⟩, trivial⟩, C87_ok hn, rfl, rfl⟩⟩
  · cases hy
    exact mvs_atoms n f
def planF (o : Nat → Int) (n many : Nat) : Bool × Gs := giveF (fitsN o n) n many 8 0 ⟨fun _ => 0, fun _ => 0⟩
theorem C86_ok {o : Nat → Int} {many : Nat} (hn : n ≤ 7) (h0 : 0 < n) (hm : many ≤ 7) : ConNOK Try.prog 86 (C86c p n c (mvs n f) o many (ints n fun i => ((planF o n many).2.P i : Int))) := by
  refine conRow_of rfl vx_sound (C := C86c p n c (mvs n f) o many (ints n fun i => ((planF o n many).2.P i : Int))) (n := n) (cells := ints n fun i => ((planF o n many).2.P i : Int)) (e := 3) ⟨⟨I p :: ints 7 o ++ [I many], [(n, c)]⟩, [mvs n f]⟩ (fun x => Iff.rfl) rfl rfl rfl ?_ (mvs_atoms n f) (ints_atoms n _ _ List.mem_cons_self) rfl (Nat.le_of_ble_eq_true rfl) (by rw [nglob]; exact Nat.zero_le _)
  have hC := C96_ok (p := p) (o := o) (c := c) hn hm 8 0 ⟨fun _ => 0, fun _ => 0⟩ (Nat.zero_le n) (by omega) (fun h => Nat.zero_lt_succ _)
  have hC : ConWOK Try.prog 96 (C96 p o n c many 0 ⟨fun _ => 0, fun _ => 0⟩ (planF o n many)) := hC
  generalize planF o n many = r at hC
  obtain ⟨b, σ⟩ := r
  have hn' : n = 1 ∨ n = 2 ∨ n = 3 ∨ n = 4 ∨ n = 5 ∨ n = 6 ∨ n = 7 := by omega
  rcases hn' with rfl | rfl | rfl | rfl | rfl | rfl | rfl
  · exact ⟨_, (f86_1 p c many b (mvs 1 f) o (fun i => (σ.D i : Int)) (fun i => (σ.P i : Int)) _).mpr ⟨hC, rfl, rfl⟩⟩
  · exact ⟨_, (f86_2 p c many b (mvs 2 f) o (fun i => (σ.D i : Int)) (fun i => (σ.P i : Int)) _).mpr ⟨hC, rfl, rfl⟩⟩
  · exact ⟨_, (f86_3 p c many b (mvs 3 f) o (fun i => (σ.D i : Int)) (fun i => (σ.P i : Int)) _).mpr ⟨hC, rfl, rfl⟩⟩
  · exact ⟨_, (f86_4 p c many b (mvs 4 f) o (fun i => (σ.D i : Int)) (fun i => (σ.P i : Int)) _).mpr ⟨hC, rfl, rfl⟩⟩
  · exact ⟨_, (f86_5 p c many b (mvs 5 f) o (fun i => (σ.D i : Int)) (fun i => (σ.P i : Int)) _).mpr ⟨hC, rfl, rfl⟩⟩
  · exact ⟨_, (f86_6 p c many b (mvs 6 f) o (fun i => (σ.D i : Int)) (fun i => (σ.P i : Int)) _).mpr ⟨hC, rfl, rfl⟩⟩
  · exact ⟨_, (f86_7 p c many b (mvs 7 f) o (fun i => (σ.D i : Int)) (fun i => (σ.P i : Int)) _).mpr ⟨hC, rfl, rfl⟩⟩
theorem fewN_le (o : Nat → Int) (hn : n ≤ 7) : fewN (canO o id) id n ≤ 7 := Nat.le_trans (fewS_ok (can := canO o id) (q := id) (n := n) (fun s hs => by show s < 7; omega) n (Nat.le_refl n)).2 hn
def fewH (sure : Bool) (p : Int) (n : Nat) (f : Nat → Mv) : Nat := fewN (canO (ordF sure p n f n) id) id n
theorem C24_ok (sure : Bool) (hok : okH p n f = true) (hn : n ≤ 7) (h0 : 0 < n) : ConNOK Try.prog 24 (C24 sure p n c f (fewH sure p n f) (planF (ordF sure p n f n) n (fewH sure p n f)).2.P) := by
  refine conRow3_of rfl vx_sound (C := C24 sure p n c f (fewH sure p n f) (planF (ordF sure p n f n) n (fewH sure p n f)).2.P) (n := n) (cells := ints n fun i => ((planF (ordF sure p n f n) n (fewH sure p n f)).2.P i : Int)) (e := 3) (y0 := fewH sure p n f) (z := 0) ⟨⟨[I p, .bool sure], [(n, c)]⟩, [mvs n f]⟩ (fun x => Iff.rfl) rfl rfl rfl ?_ (mvs_atoms n f) (ints_atoms n _ _ List.mem_cons_self) rfl (Nat.le_of_ble_eq_true rfl) (by rw [nglob]; exact Nat.zero_le _)
  have hid : ∀ i j, i < n → j < n → id i = id j → i = j := fun i j _ _ h => h
  have h83 : ConOK Try.prog 83 (C83c (ordF sure p n f n) n n (jobsC n f) (fewH sure p n f)) := C83_ok (o := ordF sure p n f n) (c := n) (f := f) (q := id) hn hid (fun i hi => by show i < 7; omega)
  have h86 := C86_ok (p := p) (c := c) (f := f) (o := ordF sure p n f n) hn h0 (fewN_le (ordF sure p n f n) hn)
  cases sure
  · exact ⟨_, (f24f p n c _ f _ _).mpr ⟨C68t_ok p n c f (by omega), ⟨rfl, hok⟩, ⟨⟨Nat.le_refl _, rfl⟩, ⟨Nat.le_refl _, rfl⟩, trivial⟩, C44_ok _ p n c f hn, rfl, ⟨⟨Nat.le_refl _, rfl⟩, trivial⟩, C49_ok p n c f h0 (by omega), rfl, ⟨⟨Nat.le_refl _, rfl⟩, trivial⟩, h83, rfl, h86, rfl, rfl⟩⟩
  · exact ⟨_, (f24t p n c _ f _ _).mpr ⟨C68t_ok p n c f (by omega), ⟨rfl, hok⟩, ⟨⟨Nat.le_refl _, rfl⟩, ⟨Nat.le_refl _, rfl⟩, trivial⟩, C44_ok _ p n c f hn, rfl, ⟨⟨Nat.le_refl _, rfl⟩, trivial⟩, C49_ok p n c f h0 (by omega), rfl, ⟨⟨Nat.le_refl _, rfl⟩, trivial⟩, h83, rfl, h86, rfl, rfl⟩⟩
end
end Go.Ab
/- the law HorseProof: its loops. -/
set_option maxRecDepth 100000
namespace Go.Ab
open Go Go.RowKit Go.Proofs
theorem b29 (x a : Nat) (R : Nat → AExit → Hw → Prop) : (vx.code none (.l p29) (leafW [T29] R) (T29.inst ⟨⟨[I x, I a], []⟩, [], []⟩) ([(1, .split ([(9, .tm 0 [])]) ([(1, .tm 0 [])]))])) =
((((decide ((↑x : Int) > (0 : Int))) = true → R 0 .normal ⟨⟨[(.int .i64 (IntKind.i64.wrap ((↑x : Int).tdiv (2 : Int)))), (.int .i64 (IntKind.i64.wrap ((↑a : Int) + (↑x : Int).tmod (2 : Int))))], []⟩, [], []⟩) ∧
((decide ((↑x : Int) > (0 : Int))) = false → R 0 (.exit ((0 : Nat))) ⟨⟨[(.int .i64 x), (.int .i64 a)], []⟩, [], []⟩))) := by kernel_rfl
theorem f29 (x a : Nat) (R : ARes → Prop) : (vx.call 29 [I x] (retK R) ⟨.nil, 0⟩ ((3, .loopW T29 (AExit.exit (0 : Nat)) T29 fun x => { hs := { vs := [I (0 : Int), I (↑a : Int)], ns := [] }, ls := [], es := [] }) :: [])) =
(((ClW ⟨⟨[(.int .i64 x), (.int .i64 0)], []⟩, [], []⟩) ∧ (LoopOW Try.prog .none p29 (T29) ⟨⟨[(.int .i64 x), (.int .i64 0)], []⟩, [], []⟩ (.exit ((0 : Nat))) (T29) ⟨⟨[(.int .i64 0), (.int .i64 a)], []⟩, [], []⟩) ∧
R (.ret (.int .i64 a)))) := by kernel_rfl
theorem popHalf : ((List.range 128).all fun x => decide (popN x = x % 2 + popN (x / 2))) = true := by kernel_rfl
theorem popN_half {x : Nat} (h : x < 128) : popN x = x % 2 + popN (x / 2) := by
  have := List.all_eq_true.1 popHalf x (List.mem_range.2 h)
  exact of_decide_eq_true this
theorem popN_le (x : Nat) : popN x ≤ 7 := by
  have := List.length_filter_le (fun i => x.testBit i) (List.range 7)
  rwa [List.length_range] at this
theorem cl29 (x a : Nat) : ClW ⟨⟨[I x, I a], []⟩, [], []⟩ := ⟨fun cs h => (by cases h), fun cs h => (by cases h)⟩
theorem loop29 {x : Nat} (h : x < 128) : LoopOW Try.prog none p29 T29 ⟨⟨[I x, I (0 : Nat)], []⟩, [], []⟩ (.exit 0) T29 ⟨⟨[I (0 : Nat), I (popN x : Nat)], []⟩, [], []⟩ := by
  have hl := loop_vcW (P := Try.prog) (ro := none) (p := p29) (Ts := [T29]) (k := 0) (X := Nat × Nat) (inv := fun y => y.1 < 128 ∧ y.2 ≤ 1000 * (128 - y.1)) (μ := fun y => y.1) (st := fun y => (0, ⟨⟨[I y.1, I y.2], []⟩, [], []⟩)) (out := fun y => (.exit 0, 0, ⟨⟨[I (0 : Nat), I (y.2 + popN y.1 : Nat)], []⟩, [], []⟩)) rfl vx_sound (by intro T hT; simp only [List.mem_singleton] at hT; subst hT; rfl) (by rw [nglob]; omega) (fun y hy => by
    obtain ⟨x, a⟩ := y
    obtain ⟨hx, ha⟩ := hy
    have hx : x < 128 := hx
    have ha : a ≤ 1000 * (128 - x) := ha
    refine ⟨T29, _, rfl, (b29 x a _).mpr ⟨fun hp => ?_, fun hp => ?_⟩⟩
    · have hp : (x : Int) > 0 := of_decide_eq_true hp
      have e1 : IntKind.i64.wrap ((x : Int).tdiv 2) = ((x / 2 : Nat) : Int) := by
        have : (x : Int).tdiv 2 = ((x / 2 : Nat) : Int) := rfl
        rw [this]; exact wrapI (by omega) (by omega)
      have e2 : IntKind.i64.wrap ((a : Int) + (x : Int).tmod 2) = ((a + x % 2 : Nat) : Int) := by
        have : (x : Int).tmod 2 = ((x % 2 : Nat) : Int) := rfl
        rw [this, wrapI (by omega) (by omega)]; omega
      rw [e1, e2]
      refine ⟨⟨cl29 _ _, trivial⟩, .inl ⟨rfl, (x / 2, a + x % 2), ⟨by show x / 2 < 128; omega, by show a + x % 2 ≤ 1000 * (128 - x / 2); omega⟩, by show x / 2 < x; omega, rfl, ?_⟩⟩
      have := popN_half hx
      show (AExit.exit 0, 0, (⟨⟨[I (0 : Nat), I (a + x % 2 + popN (x / 2) : Nat)], []⟩, [], []⟩ : Hw)) = (AExit.exit 0, 0, ⟨⟨[I (0 : Nat), I (a + popN x : Nat)], []⟩, [], []⟩)
      rw [this, Nat.add_assoc]
    · have hp := of_decide_eq_false hp
      have e0 : x = 0 := by omega
      subst e0
      exact ⟨⟨cl29 _ _, trivial⟩, .inr ⟨by simp, by
        show (AExit.exit 0, 0, (⟨⟨[I (0 : Nat), I (a + popN 0 : Nat)], []⟩, [], []⟩ : Hw)) = _
        have e : popN 0 = 0 := by decide
        rw [e, Nat.add_zero]
        rfl⟩⟩) (x := (x, 0)) ⟨h, by show 0 ≤ 1000 * (128 - x); omega⟩ (T0 := T29) (T1 := T29) rfl (Nat.le_of_ble_eq_true rfl) (by decide) rfl
  have e : 0 + popN x = popN x := Nat.zero_add _
  simp only [e] at hl
  exact hl
theorem C29_ok {x : Nat} (h : x < 128) : ConOK Try.prog 29 (C29 x) := by
  refine con_of vx_sound _ (fun y hy => ?_) rfl (fun y _ => rfl) (fun y hy => ?_) rfl (Nat.le_of_ble_eq_true rfl) (by rw [nglob]; exact Nat.zero_le _)
  · cases hy
    exact ⟨_, (f29 x (popN x) _).mpr ⟨cl29 x 0, loop29 h, rfl⟩⟩
  · cases hy
    intro cs hcs
    cases hcs
def nb (own i : Nat) : Bool := bits .and .i64 ((own : Int) / 2 ^ i) 1 == 0
theorem nb_eq {own i : Nat} (h : own < 2 ^ 62) : nb own i = !own.testBit i := by
  have e : (own : Int) / 2 ^ i = ((own / 2 ^ i : Nat) : Int) := by simp
  have hd : own / 2 ^ i < 2 ^ 62 := Nat.lt_of_le_of_lt (Nat.div_le_self _ _) h
  simp only [nb, e]
  have h1 := and_nat (own / 2 ^ i) 1 hd (by decide)
  rw [show ((1 : Nat) : Int) = 1 from rfl] at h1
  rw [h1, Nat.testBit_eq_decide_div_mod_eq, Nat.and_one_is_mod]
  have hmod : own / 2 ^ i % 2 = 0 ∨ own / 2 ^ i % 2 = 1 := by omega
  rcases hmod with h | h <;> simp [h]
section
variable {p : Int} {n c : Nat} {f : Nat → Mv}
end
end Go.Ab
/- package horse: the proof has as many moves as horses are needed; without a move. -/
set_option maxRecDepth 100000
namespace Go.Ab
open Go Go.RowKit Go.Proofs
theorem popN_cnt (x : Nat) : popN x = cnt x.testBit 7 := by
  have key : ∀ n, ((List.range n).filter fun i => x.testBit i).length = cnt x.testBit n := by
    intro n
    induction n with
    | zero => rfl
    | succ n ih =>
      rw [List.range_succ, List.filter_append, List.length_append, ih]
      simp only [cnt]
      by_cases h : x.testBit n = true
      · rw [if_pos h]; simp [h]
      · rw [if_neg h]; simp [h]
  exact key 7
theorem cnt_ext {P : Nat → Bool} {n : Nat} (h : ∀ i, n ≤ i → P i = false) : ∀ m, n ≤ m → cnt P m = cnt P n := by
  intro m
  induction m with
  | zero => intro hm; have : n = 0 := by omega
            subst this; rfl
  | succ m ih =>
    intro hm
    by_cases e : n = m + 1
    · subst e; rfl
    · simp only [cnt, ih (by omega), h m (by omega)]
      simp
theorem bit_lt {x n i : Nat} (hx : x < 2 ^ n) (hi : n ≤ i) : x.testBit i = false := Nat.testBit_lt_two_pow (Nat.lt_of_lt_of_le hx (Nat.pow_le_pow_right (by omega) hi))
theorem popN_n {x n : Nat} (hn : n ≤ 7) (hx : x < 2 ^ n) : popN x = cnt x.testBit n := by
  rw [popN_cnt]
  exact cnt_ext (fun i hi => bit_lt hx hi) 7 hn
theorem popN_mask (X : Nat → Bool) {n : Nat} (hn : n ≤ 7) : popN (maskN X n) = cnt X n := by
  rw [popN_n hn (maskN_lt X n)]
  exact cnt_congr fun i hi => by rw [maskN_bit]; simp [hi]
section
variable {p : Int} {n : Nat} {f : Nat → Mv} {sure : Bool}
theorem ord_lt (hn : n ≤ 7) {i : Nat} (hi : i < n) : ordF sure p n f n i = (maskN (canB sure p f i) n : Nat) := by
  simp only [ordF, if_pos hi]
  exact rowI_mask _ n (by omega)
theorem apart_iff (hn : n ≤ 7) {s : Nat} (hs : s < 2 ^ n) : allFrom (apartI (ordF sure p n f n) (s : Int)) 7 0 = true ↔ Anti (canB sure p f) n s.testBit := by
  have hs7 : s < 2 ^ 7 := Nat.lt_of_lt_of_le hs (Nat.pow_le_pow_right (by omega) hn)
  have bitI : ∀ i, hasI (s : Int) i = s.testBit i := fun i => hasI_mask s i (by omega)
  have each : ∀ i, i < n → (apartI (ordF sure p n f n) (s : Int) i = true ↔ (s.testBit i = true → ∀ j, j < n → s.testBit j = true → canB sure p f i j = false)) := fun i hi => by
    have hm := maskN_lt (canB sure p f i) n
    have hm7 : maskN (canB sure p f i) n < 2 ^ 7 := Nat.lt_of_lt_of_le hm (Nat.pow_le_pow_right (by omega) hn)
    simp only [apartI, bitI, ord_lt hn hi]
    rw [and_nat s _ (by omega) (by omega)]
    cases hb : s.testBit i with
    | false => simp
    | true =>
      simp only [Bool.true_and, Bool.not_eq_true', true_implies]
      constructor
      · intro h0 j hj hbj
        have h0 : ((s &&& maskN (canB sure p f i) n : Nat) : Int) = 0 := by simpa using h0
        have h0 : s &&& maskN (canB sure p f i) n = 0 := by omega
        have := congrArg (fun z => z.testBit j) h0
        simp only [Nat.testBit_and, hbj, maskN_bit, hj, decide_true, Bool.true_and, Nat.zero_testBit] at this
        exact this
      · intro h
        have h0 : s &&& maskN (canB sure p f i) n = 0 := by
          refine Nat.eq_of_testBit_eq fun j => ?_
          rw [Nat.testBit_and, maskN_bit, Nat.zero_testBit]
          by_cases hj : j < n
          · cases hbj : s.testBit j with
            | false => rfl
            | true => rw [h j hj hbj]; simp
          · rw [bit_lt hs (by omega)]; rfl
        rw [h0]; rfl
  constructor
  · intro h i j hi hj hbi hbj
    exact (each i hi).1 (allFrom_iff _ 7 0 h i (by omega) (by omega)) hbi j hj hbj
  · intro h
    have key : ∀ r m, (∀ i, m ≤ i → i < m + r → apartI (ordF sure p n f n) (s : Int) i = true) → allFrom (apartI (ordF sure p n f n) (s : Int)) r m = true := by
      intro r
      induction r with
      | zero => intro m _; rfl
      | succ r ih =>
        intro m hm
        simp only [allFrom, hm m (by omega) (by omega), Bool.true_and]
        exact ih (m + 1) fun i h1 h2 => hm i (by omega) (by omega)
    refine key 7 0 fun i _ _ => ?_
    by_cases hi : i < n
    · exact (each i hi).2 fun hbi j hj hbj => h i j hi hj hbi hbj
    · simp only [apartI, bitI, bit_lt hs (show n ≤ i by omega), Bool.false_and, Bool.not_false]
theorem best_inv (o : Nat → Int) (s : Nat) : (0 < s → allFrom (apartI o ((bestF o s : Nat) : Int)) 7 0 = true) ∧ ∀ t, t < s → allFrom (apartI o (t : Int)) 7 0 = true → popN t ≤ popN (bestF o s) ∧ (popN t = popN (bestF o s) → bestF o s ≤ t) := by
  have h00 : allFrom (apartI o ((0 : Nat) : Int)) 7 0 = true := by simp only [allFrom, Int.natCast_zero, apart0, Bool.true_and]
  induction s with
  | zero => exact ⟨fun h => by omega, fun t ht => by omega⟩
  | succ s ih =>
    obtain ⟨h1, h2⟩ := ih
    simp only [bestF]
    split
    · rename_i hc
      simp only [Bool.and_eq_true, decide_eq_true_eq] at hc
      refine ⟨fun _ => hc.1, fun t ht hA => ?_⟩
      by_cases e : t = s
      · subst e; exact ⟨Nat.le_refl _, fun _ => Nat.le_refl _⟩
      · obtain ⟨a, b⟩ := h2 t (by omega) hA
        exact ⟨by omega, fun e => by omega⟩
    · rename_i hc
      have hb0 : bestF o 0 = 0 := rfl
      refine ⟨fun _ => ?_, fun t ht hA => ?_⟩
      · rcases Nat.eq_zero_or_pos s with h | h
        · subst h; exact h00
        · exact h1 h
      · by_cases e : t = s
        · subst e
          simp only [hA, Bool.true_and, decide_eq_true_eq] at hc
          refine ⟨by omega, fun _ => ?_⟩
          have := bestF_lt (o := o) t (t + 1) (by omega) (by omega)
          omega
        · exact h2 t (by omega) hA
theorem can_irr (h : HOK p n f) {i : Nat} (hi : i < n) : canB sure p f i i = false := by
  cases hc : canB sure p f i i with
  | false => rfl
  | true => have := both_can h sure sure hi hi hc; rw [hc] at this; cases this
theorem can_mu (h : HOK p n f) {i j : Nat} (hi : i < n) (hj : j < n) (hc : canB sure p f i j = true) : (f i).at_.toNat < (f j).at_.toNat := by
  rw [canB_eq h sure hi hj] at hc
  have hc := of_decide_eq_true hc
  have ha := h.mv i hi
  have hb := h.mv j hj
  have a0 := ha.at0; have a5 := ha.lo1; have a6 := ha.lohi; have b0 := hb.at0
  have hm := mul_bounds h.p0 h.p3 (distI_bounds ha hb).1 (distI_bounds ha hb).2
  generalize p * distI (f i) (f j) = w at hm hc
  have hL : 1 ≤ cond sure (f i).hi (f i).lo := by cases sure <;> simp only [cond_true, cond_false] <;> omega
  omega
theorem can_trans (h : HOK p n f) {i j k : Nat} (hi : i < n) (hj : j < n) (hk : k < n) (h1 : canB sure p f i j = true) (h2 : canB sure p f j k = true) : canB sure p f i k = true := by
  rw [canB_eq h sure hi hj] at h1
  rw [canB_eq h sure hj hk] at h2
  rw [canB_eq h sure hi hk]
  have h1 := of_decide_eq_true h1
  have h2 := of_decide_eq_true h2
  have hL : 1 ≤ cond sure (f j).hi (f j).lo := by
    have a5 := (h.mv j hj).lo1; have a6 := (h.mv j hj).lohi
    cases sure <;> simp only [cond_true, cond_false] <;> omega
  have hd : distI (f i) (f k) ≤ distI (f i) (f j) + distI (f j) (f k) := by
    simp only [distI]
    split <;> split <;> split <;> omega
  have hp0 := h.p0
  have hmul : p * distI (f i) (f k) ≤ p * distI (f i) (f j) + p * distI (f j) (f k) := by
    have := Int.mul_le_mul_of_nonneg_left hd hp0
    rw [Int.mul_add] at this
    exact this
  exact decide_eq_true (by omega)
theorem canO_eq (h : HOK p n f) {i j : Nat} (hi : i < n) (hj : j < n) : canO (ordF sure p n f n) id i j = canB sure p f i j := hasI_ord sure p f h.n7 hi hj
theorem few_ex (h : HOK p n f) : ∃ X, Anti (canB sure p f) n X ∧ fewH sure p n f ≤ cnt X n := by
  obtain ⟨X, h1, h2⟩ := anti_ex (can := canO (ordF sure p n f n) id) (q := id) (n := n) (fun i j _ _ e => e) h.n7
  exact ⟨X, fun i j hi hj hx hy => by rw [← canO_eq (sure := sure) h hi hj]; exact h1 i j hi hj hx hy, h2⟩
theorem few_le (h : HOK p n f) {X : Nat → Bool} (hX : Anti (canB sure p f) n X) : cnt X n ≤ fewH sure p n f := by
  refine anti_le (can := canO (ordF sure p n f n) id) (q := id) (n := n) (fun i j _ _ e => e) h.n7 (fun i => (f i).at_.toNat) (fun i j hi hj hc => ?_) (fun i j k hi hj hk h1 h2 => ?_) (fun i j hi hj hx hy => ?_)
  · rw [canO_eq h hi hj] at hc; exact can_mu h hi hj hc
  · rw [canO_eq h hi hj] at h1
    rw [canO_eq h hj hk] at h2
    rw [canO_eq h hi hk]
    exact can_trans h hi hj hk h1 h2
  · rw [canO_eq h hi hj]; exact hX i j hi hj hx hy
def proofH (sure : Bool) (p : Int) (n : Nat) (f : Nat → Mv) : Nat := bestF (ordF sure p n f n) (2 ^ n)
theorem proof_lt (hn : n ≤ 7) : proofH sure p n f < 2 ^ n := bestF_lt _ _ (Nat.le_refl _) (two_pow_lt hn).2
theorem proof_anti (hn : n ≤ 7) : Anti (canB sure p f) n (proofH sure p n f).testBit := (apart_iff hn (proof_lt hn)).1 ((best_inv _ (2 ^ n)).1 (two_pow_lt hn).2)
theorem proof_best (hn : n ≤ 7) {t : Nat} (ht : t < 2 ^ n) (hA : Anti (canB sure p f) n t.testBit) : popN t ≤ popN (proofH sure p n f) ∧ (popN t = popN (proofH sure p n f) → proofH sure p n f ≤ t) :=
  (best_inv _ (2 ^ n)).2 t ht ((apart_iff hn ht).2 hA)
theorem proof_few (h : HOK p n f) : fewH sure p n f = popN (proofH sure p n f) := by
  have hn := h.n7
  obtain ⟨X, h1, h2⟩ := few_ex (sure := sure) h
  have h3 := few_le (sure := sure) h (proof_anti hn)
  rw [← popN_n hn (proof_lt hn)] at h3
  have h4 := (proof_best (sure := sure) (p := p) (f := f) hn (maskN_lt X n) (fun i j hi hj hx hy => by
    rw [maskN_bit] at hx hy
    simp only [hi, hj, decide_true, Bool.true_and] at hx hy
    exact h1 i j hi hj hx hy)).1
  rw [popN_mask X hn] at h4
  omega
end
end Go.Ab
