import Derived.Test.YtabicgbnloabnaaVFq
namespace Go.Proofs.Ytabicgbnloabnaa
set_option maxRecDepth 100000
set_option linter.unusedSimpArgs false
open Go.RowKit
def Rk.sup (r:Rk):Int:=if 0≤r.x then r.x else if 0≤r.ow∧r.ow≠(r.hn:Int)∧r.sh r.ow.toNat=true then r.ow else if r.sh r.hn=true then -1 else low r.sh
def Rk.find (r:Rk):Rk:= { r with su:=r.sup }
def Rk.wt1 (r:Rk) (x:Int):Rk:= { r with wt:=x }
def Rk.on (r:Rk):Rk×List Od:=(r.wt1 2,if r.su<0 then [⟨1,r.hn,r.op,2,0,0⟩] else [⟨3,r.su,r.op,0,r.hn,0⟩])
end Go.Proofs.Ytabicgbnloabnaa
