import Derived.WalkKit
import Derived.WalkSpells
import Derived.Deep.MidRow
namespace Go.Proofs.Ytbigongmlpoahaa
open Go.RowKit
theorem hi9 {A:Nat→Prop} {B C:Nat→Nat→Prop} (h:∀i t:Nat,A i→B i t→C i t) (i t:Nat) (ha:A i:=by kernel_rfl) (hb:B i t:=by kernel_rfl):C i t:=h i t ha hb
theorem ho9 {A B:Nat→Prop} (h:∀t:Nat,A t→B t) (t:Nat) (ha:A t:=by kernel_rfl):B t:=h t ha
theorem Oj9 {α:Type} {a b:α} (h:some a=some b):a=b:=Option.some.inj h
theorem hide {p:Prop} (h:p):Hid p:=h
theorem unhide {p:Prop} (h:Hid p):p:=h
structure Kept (X:List Nat) (w w':World):Prop where
 os:w'.os=w.os
 tape:w'.tape=w.tape
 output:w'.output=w.output
 size:w.heap.size≤w'.heap.size
 block:∀k,k<w.heap.size→k∉X→w'.heap[k]?=w.heap[k]?
theorem Kept.refl (X:List Nat) (w:World):Kept X w w:=⟨rfl,rfl,rfl,Nat.le_refl _,fun _ _ _=>rfl⟩
theorem Kept.trans {X:List Nat} {a b c:World} (h:Kept X a b) (k:Kept X b c):Kept X a c:=
 ⟨k.os.trans h.os,k.tape.trans h.tape,k.output.trans h.output,Nat.le_trans h.size k.size,fun i hi hx=>(k.block i (Nat.lt_of_lt_of_le hi h.size) hx).trans (h.block i hi hx)⟩
theorem Kept.mono {X Y:List Nat} {a b:World} (h:Kept X a b) (hxy:∀k∈X,k∈Y):Kept Y a b:=⟨h.os,h.tape,h.output,h.size,fun i hi hx=>h.block i hi (fun hk=>hx (hxy i hk))⟩
theorem Kept.fresh {X Y:List Nat} {a b c:World} (h:Kept Y a b) (k:Kept X b c) (hX:∀i∈X,i<a.heap.size→i∈Y):Kept Y a c:=
 ⟨k.os.trans h.os,k.tape.trans h.tape,k.output.trans h.output,Nat.le_trans h.size k.size,fun i hi hx=>(k.block i (Nat.lt_of_lt_of_le hi h.size) (fun hk=>hx (hX i hk hi))).trans (h.block i hi hx)⟩
theorem Kept.drew {X:List Nat} {a w:World} (h:Kept X a w):Kept X a w.drew:=⟨h.os,h.tape,h.output,h.size,h.block⟩
theorem Kept.alloc {X:List Nat} {a w:World} (h:Kept X a w) (o:Obj):Kept X a (w.alloc o):=
 h.trans ⟨rfl,rfl,rfl,by simp,fun k hk _=>Below.heap_alloc _ _ _ hk⟩
theorem Kept.setCell {X:List Nat} {a w:World} (h:Kept X a w) {p:Addr} (hp:p.block<a.heap.size→p.block∈X) (u:Value):Kept X a (w.setCell p u):=
 ⟨h.os,h.tape,h.output,Nat.le_trans h.size (by simp [World.setCell]),fun k hk hx=>(Below.heap_setCell _ _ _ _ (fun e=>hx (by rw [e];exact hp (by rw [← e];exact hk)))).trans (h.block k hk hx)⟩
theorem Kept.to_below {w w':World} (h:Kept [] w w'):Below w.heap.size w w':=⟨h.os,h.tape,h.output,h.size,fun i hi=>h.block i hi (by simp)⟩
theorem Kept.of_grown {w w':World} {row:Option Nat} {X:List Nat} (h:w.grownBy w' row) (hr:∀k,row=some k→k<w.heap.size→k∈X):Kept X w w':=
 ⟨h.os,h.tape,h.output,h.size,fun i hi hx=>h.block i hi (fun e=>hx (hr i e.symm hi))⟩
theorem Kept.cell {X:List Nat} {w w':World} (h:Kept X w w') {a:Addr} {v:Value} (hc:w.cell? a=some v) (hx:a.block∉X):w'.cell? a=some v:=by
 rw [World.cell?_of_block (w:=w) (h.block _ (World.block_lt_of_cell? w a hc) hx)];exact hc
theorem Kept.heap {X:List Nat} {w w':World} (h:Kept X w w') {b:Nat} {o:Obj} (hc:w.heap[b]?=some o) (hx:b∉X):w'.heap[b]?=some o:=by
 rw [h.block _ (Array.getElem?_eq_some_iff.1 hc).1 hx];exact hc
theorem cell_of_block {w:World} {b:Nat} {cs:Array Value} {t:TypeId} {p:Nat×Nat} (h:w.heap[b]?=some (.cells cs t p)) (i:Nat):w.cell? ⟨b,i,none⟩=cs[i]?:=cell_of_row w b i cs t p h
theorem frozen_of_block {w:World} {b:Nat} {cs:Array Value} {t:TypeId} (h:w.heap[b]?=some (.cells cs t (0,0))) (i:Nat):w.frozen? ⟨b,i,none⟩=false:=by simp [World.frozen?,h]
theorem lt_of_block {w:World} {b:Nat} {o:Obj} (h:w.heap[b]?=some o):b<w.heap.size:=(Array.getElem?_eq_some_iff.1 h).1
theorem heap_set {w:World} {b i:Nat} {u:Value} {cs:Array Value} {t:TypeId} {p:Nat×Nat} (h:w.heap[b]?=some (.cells cs t p)):(w.setCell ⟨b,i,none⟩ u).heap[b]?=some (.cells (cs.setIfInBounds i u) t p):=by
 simp only [World.setCell,Array.getElem?_modify,if_true,h,Option.map_some]
 rfl
theorem heap_alloc_old {w:World} {b:Nat} {o o':Obj} (h:w.heap[b]?=some o):(w.alloc o').heap[b]?=some o:=by
 rw [Below.heap_alloc _ _ _ (lt_of_block h)];exact h
theorem heap_sets {b:Nat} {t:TypeId} {p:Nat×Nat} :∀(vs:List Value) (w:World) (o:Nat) (pre mid post:List Value),w.heap[b]?=some (.cells (pre++mid++post).toArray t p)→pre.length=o→mid.length=vs.length→(w.setCells b o vs).heap[b]?=some (.cells (pre++vs++post).toArray t p):=by
 intro vs
 induction vs with
 | nil=>
   intro w o pre mid post h _ hm
   obtain rfl:mid= []:=List.eq_nil_of_length_eq_zero hm
   exact h
 | cons v vs ih=>
   intro w o pre mid post h ho hm
   cases mid with
   | nil=>simp at hm
   | cons m mid=>
     have h1:(w.setCell ⟨b,o,none⟩ v).heap[b]?=some (.cells ((pre++ [v])++mid++post).toArray t p):=by
       rw [heap_set h]
       congr 2
       subst ho
       simp [List.setIfInBounds_toArray]
     have:=ih (w.setCell ⟨b,o,none⟩ v) (o+1) (pre++ [v]) mid post h1 (by simp [ho]) (by simpa using hm)
     have hs:w.setCells b o (v::vs)=(w.setCell ⟨b,o,none⟩ v).setCells b (o+1) vs:=rfl
     rw [hs,this]
     simp
theorem Kept.setCells {X:List Nat} {b:Nat} :∀(vs:List Value) {a w:World} (o:Nat),Kept X a w→(b<a.heap.size→b∈X)→Kept X a (w.setCells b o vs):=by
 intro vs
 induction vs with
 | nil=>intro a w o h _;exact h
 | cons v vs ih=>
   intro a w o h hb
   exact ih (w:=w.setCell ⟨b,o,none⟩ v) (o+1) (h.setCell (p:=⟨b,o,none⟩) hb v) hb
end Go.Proofs.Ytbigongmlpoahaa
