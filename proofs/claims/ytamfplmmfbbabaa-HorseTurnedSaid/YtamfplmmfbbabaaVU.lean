/- the law HorseMore: forms, where there are no moves. -/
import Derived.Test.YtamfplmmfbbabaaVP
import Derived.Test.YtamfplmmfbbabaaVG
set_option maxRecDepth 100000
namespace Go.Ab
open Go Go.RowKit Go.Proofs
noncomputable def hC (p : Int) (c : Nat) : Value := .agg ⟨[I p, .slice (some ⟨0, 0, none⟩) 0 c]⟩
noncomputable def m1v (b : XB) : Mem := ⟨fillX [b] 0 .nil, 1⟩
noncomputable def m2v (a b : XB) : Mem := ⟨fillX [a, b] 0 .nil, 2⟩
noncomputable def C23w (sure : Bool) (p mz : Int) (c : Nat) : Con where
  A := .agg (.hole (.slice 0 0 .nil)) (.hole (.hole .nil))
  bs := [.dead]
  pre x := x = ⟨⟨[I p, I mz, .bool sure], [(0, c)]⟩, []⟩
  res _ := .ret (.tuple ⟨[I 0, I 0]⟩)
noncomputable def C24w (sure : Bool) (p : Int) (c : Nat) : ConN where
  A := .agg (.hole (.slice 0 0 .nil)) (.hole .nil)
  bs := [.dead]
  pre x := x = ⟨⟨[I p, .bool sure], [(0, c)]⟩, []⟩
  news _ := [([], 3)]
  one := false
  res _ := [.cv (I 0), .sl 0 0, .cv (I 0)]
noncomputable def C27n (sure : Bool) (p : Int) : Con where
  A := .agg (.hole (.val nilS .nil)) (.val nilS (.hole .nil))
  bs := []
  pre x := x = ⟨⟨[I p, .bool sure], []⟩, []⟩
  res _ := .ret (.bool true)
noncomputable def C27w (sure : Bool) (p : Int) (c : Nat) : Con where
  A := .agg (.hole (.slice 0 0 .nil)) (.val nilS (.hole .nil))
  bs := [.dead]
  pre x := x = ⟨⟨[I p, .bool sure], [(0, c)]⟩, []⟩
  res _ := .ret (.bool true)
end Go.Ab
set_option maxRecDepth 100000
namespace Go.Ab
open Go Go.RowKit Go.Proofs
noncomputable def C25n (sure : Bool) (p : Int) : Con where
  A := .agg (.hole (.val nilS .nil)) (.hole .nil)
  bs := []
  pre x := x = ⟨⟨[I p, .bool sure], []⟩, []⟩
  res _ := .ret (.tuple ⟨[I 0, I 0]⟩)
noncomputable def C25w (sure : Bool) (p : Int) (c : Nat) : Con where
  A := .agg (.hole (.slice 0 0 .nil)) (.hole .nil)
  bs := [.dead]
  pre x := x = ⟨⟨[I p, .bool sure], [(0, c)]⟩, []⟩
  res _ := .ret (.tuple ⟨[I 0, I 0]⟩)
noncomputable def C19n (p m be : Int) : Con where
  A := .agg (.hole (.val nilS .nil)) (.hole .nil)
  bs := []
  pre x := x = ⟨⟨[I p, I m], []⟩, []⟩
  res _ := .ret (.tuple ⟨[.agg ⟨[I 0, I 0]⟩, I be]⟩)
noncomputable def C19w (p m be : Int) (c : Nat) : Con where
  A := .agg (.hole (.slice 0 0 .nil)) (.hole .nil)
  bs := [.dead]
  pre x := x = ⟨⟨[I p, I m], [(0, c)]⟩, []⟩
  res _ := .ret (.tuple ⟨[.agg ⟨[I 0, I 0]⟩, I be]⟩)
noncomputable def C27m (sure : Bool) (p : Int) : Con where
  A := .agg (.hole (.val nilS .nil)) (.slice 0 0 (.hole .nil))
  bs := [.dead]
  pre x := x = ⟨⟨[I p, .bool sure], [(0, 0)]⟩, []⟩
  res _ := .ret (.bool true)
end Go.Ab
