import Derived.Test.YtabicgbnloabnaaVRa
import Derived.Test.YtabicgbnloabnaaVPa
namespace Go.Proofs.Ytabicgbnloabnaa
set_option maxRecDepth 100000
set_option linter.unusedSimpArgs false
open Go.RowKit
def Rk.setPa (r:Rk) (n:Nat) (v:Bool):Rk:= { r with pa:=upd r.pa n v }
def Rk.clr (r:Rk):Rk:= { r with hn:=0,hk:=0,wt:=0,su:= -1,gn:=no8 }
def Rk.take (r:Rk) (x:Wi):Rk:= { r with hn:=x.n,hk:=x.k,op:=r.op+1 }
def Rk.og (r:Rk) (i:Nat):Bool:=r.sh i&& !decide ((i:Int)=(r.hn:Int))&& !decide ((i:Int)=r.su)
def Rk.gnTo (r:Rk) (j:Nat):Rk:= { r with gn:=fun i=>if i<j then r.og i else r.gn i }
def Rk.dropTo (r:Rk):Nat→List Od
 | 0=> []
 | j+1=>r.dropTo j++(if r.og j then [⟨4,j,r.op,0,0,0⟩] else [])
def rbeg (D:Rk→Rk×List Wi×List Od) (r:Rk) (L:List Wi):Rk×List Wi×List Od:=
 if r.hk=1 then
   (if r.x=(r.hn:Int)∨r.sh r.hn=true then D r else (r.find.wt1 2,L,if r.find.su<0 then [⟨1,r.hn,r.op,1,0,0⟩] else [⟨2,r.find.su,r.op,0,r.hn,0⟩]))
 else if r.hk=2 then
   (if r.x=(r.hn:Int) then D r else if r.find.dropTo 8= [] then ((r.find.gnTo 8).on.1,L,(r.find.gnTo 8).on.2) else ((r.find.gnTo 8).wt1 1,L,r.find.dropTo 8))
 else if r.ow<0 then ((D ((r.setPa r.hn true).setPa r.hn false)).1,(D ((r.setPa r.hn true).setPa r.hn false)).2.1,[⟨6,r.hn,0,0,0,2147483647⟩]++(D ((r.setPa r.hn true).setPa r.hn false)).2.2)
 else ((r.setPa r.hn true).wt1 3,L,[⟨5,r.ow,r.op,0,0,0⟩])
def rdone (r:Rk):List Wi→Rk×List Wi×List Od
 | []=>(r.clr,[],[])
 | x::l=>rbeg (fun r'=>rdone r' l) (r.clr.take x) l
end Go.Proofs.Ytabicgbnloabnaa
namespace Go.Proofs.Ytabicgbnloabnaa
set_option maxRecDepth 100000
set_option linter.unusedSimpArgs false
open Go.RowKit
def rneed (D:Rk→Rk×List Wi×List Od) (r:Rk):Rk×List Wi×List Od:=((D (r.setPa r.hn false)).1,(D (r.setPa r.hn false)).2.1,[⟨6,r.hn,0,0,0,2147483647⟩]++(D (r.setPa r.hn false)).2.2)
section
variable {ops:Array Oper} {rest:List Oper} {op:Oper} {a:Act} {w:World} {Q:Exit→Act→World→Prop}
end
def rbegP (r:Rk) (L:List Wi):Rk×List Wi×List Od:=rbeg (fun r'=>rdone r' L) r L
end Go.Proofs.Ytabicgbnloabnaa
namespace Go.Proofs.Ytabicgbnloabnaa
set_option maxRecDepth 100000
set_option linter.unusedSimpArgs false
open Go.RowKit
def rwishP (r:Rk) (L:List Wi) (x:Wi):Rk×List Wi×List Od:=if (r.wt≠0∧r.wi=x)∨x∈L then (r,L,[]) else if r.wt≠0 then (r,L++ [x],[]) else rdone r (L++ [x])
def rwishI (s:Rk) (L:List Wi) (m k:Int):Rk×List Wi×List Od:=if isN m then rwishP s L ⟨m.toNat,k⟩ else (s,L,[])
def rwantP (s:Rk) (L:List Wi) (m md:Int):Rk×List Wi×List Od:=if md=1 then rwishI s L m 1 else if md=2 then rwishI s L m 2 else (s,L,[])
end Go.Proofs.Ytabicgbnloabnaa
namespace Go.Proofs.Ytabicgbnloabnaa
set_option maxRecDepth 100000
set_option linter.unusedSimpArgs false
open Go.RowKit
def Rk.aw (r:Rk) (n:Nat):Rk:= { r with gn:=upd r.gn n false,sh:=upd r.sh n false,ops:=upd r.ops n 0 }
def raway (r:Rk) (L:List Wi) (n:Nat):Rk×List Wi×List Od:=if emp (r.aw n).gn then rbegP (r.aw n) L else (r.aw n,L,[])
def rwentP (r:Rk) (L:List Wi) (m c:Int):Rk×List Wi×List Od:=if isN m=true∧r.wt=1∧c=r.op∧r.gn m.toNat=true then raway r L m.toNat else (r,L,[])
def Rk.sup1 (r:Rk) (m:Nat):Rk:= { r with sh:=upd r.sh m true,ops:=upd r.ops m r.op,x:= -1 }
def Rk.put1 (r:Rk) (n:Nat):Rk:= { r with sh:=upd r.sh n true,ops:=upd r.ops n r.op }
def Rk.gotSh (r:Rk):Rk:=if 0≤r.su∧(r.x=r.su∨r.sh r.su.toNat=true) then (r.sup1 r.su.toNat).put1 r.hn else r.put1 r.hn
def Rk.alone (r:Rk):Rk:= { r with sh:=no8,ops:=upd ze8 r.hn r.op,x:=r.hn,ow:=r.hn }
def Rk.gotEx (r:Rk):Rk:=if 0≤r.su∧r.su=r.ow then (r.setPa r.su.toNat true).alone else r.alone
def rgotP (r:Rk) (L:List Wi) (m c:Int):Rk×List Wi×List Od:=if isN m=true∧r.wt=2∧c=r.op∧m=(r.hn:Int) then (if r.hk=1 then rdone r.gotSh L else rdone r.gotEx L) else (r,L,[])
end Go.Proofs.Ytabicgbnloabnaa
namespace Go.Proofs.Ytabicgbnloabnaa
set_option maxRecDepth 100000
set_option linter.unusedSimpArgs false
open Go.RowKit
def Rk.opUp (r:Rk):Rk:= { r with op:=r.op+1 }
def Rk.rel (r:Rk) (n:Nat):Rk:= { r with sh:=upd r.sh n false,ops:=upd r.ops n 0,x:=if r.x=(n:Int) then -1 else r.x,ow:=if r.ow=(n:Int) then -1 else r.ow }
def rrelN (r:Rk) (L:List Wi) (n:Nat) (c:Int):Rk×List Wi×List Od:=
 if r.wt=1∧r.gn n=true then raway (r.rel n) L n
 else if r.wt=2∧r.su=(n:Int)∧c<r.op then rbegP (r.rel n).opUp L
 else if r.wt=3∧r.ow=(n:Int) then rneed (fun r'=>rdone r' L) (r.rel n)
 else (r.rel n,L,[])
def rrelP (r:Rk) (L:List Wi) (m c:Int):Rk×List Wi×List Od:=if isN m then rrelN r L m.toNat c else (r,L,[])
end Go.Proofs.Ytabicgbnloabnaa
namespace Go.Proofs.Ytabicgbnloabnaa
set_option maxRecDepth 100000
set_option linter.unusedSimpArgs false
open Go.RowKit
def Rk.discTo (r:Rk) (p:Int) (j:Nat):List Od:=(lstTo r.pa j).map fun n=>(⟨6,n,0,0,0,p⟩:Od)
def Rk.noPa (r:Rk):Rk:= { r with pa:=no8 }
def Rk.noOw1 (r:Rk):Rk:= { r with ow:= -1 }
def rmore (O:List Od) (r:Rk×List Wi×List Od):Rk×List Wi×List Od:=(r.1,r.2.1,O++r.2.2)
def rwroteN (r:Rk) (L:List Wi) (n:Nat) (c p:Int):Rk×List Wi×List Od:=
 if r.ow=(n:Int)∧r.ops n=c then
   (if r.x=(n:Int) then (if r.wt=3 then rmore (r.discTo p 8) (rdone r.noPa L) else (r.noPa,L,r.discTo p 8))
   else (if r.wt=3 then rmore (r.discTo p 8) (rdone r.noPa.noOw1 L) else (r.noPa.noOw1,L,r.discTo p 8)))
 else (r,L,r.discTo p 8)
def rwroteP (r:Rk) (L:List Wi) (m c p:Int):Rk×List Wi×List Od:=if isN m=true∧0≤p∧p≤2147483647 then rwroteN r L m.toNat c p else (r,L,[])
end Go.Proofs.Ytabicgbnloabnaa
