import Derived.Test.YtabicgbnloabnaaUPc
namespace Go.Proofs.Ytabicgbnloabnaa
set_option maxRecDepth 100000
set_option linter.unusedSimpArgs false
open Go.RowKit
variable {s:Lo} {r:Rk} {l:List Wi}
theorem busy_f (h:s.hk=0) (h2:s.hn=0):s.busy=false:=by
 unfold Lo.busy Lo.wi wi0
 simp [h,h2]
theorem lst_emp {f:Nat→Bool} :lst f= []↔emp f=true:=by
 constructor
 · intro h
   have key:∀j,lstTo f j= []→∀i,i<j→f i=false:=by
     intro j
     induction j with
     | zero=>intro _ i hi;omega
     | succ j ih=>
       intro e i hi
       rw [lstTo,List.append_eq_nil_iff] at e
       by_cases hij:i=j
       · subst hij
         cases hf:f i with
         | false=>rfl
         | true=>rw [hf] at e;simp at e
       · exact ih e.1 i (by omega)
   unfold emp like
   exact decide_eq_true (fun i hi=>by rw [key 8 h i (by simpa using hi)];rfl)
 · intro h
   exact lst_none 8 f (fun i hi=>emp_at h i hi)
end Go.Proofs.Ytabicgbnloabnaa
