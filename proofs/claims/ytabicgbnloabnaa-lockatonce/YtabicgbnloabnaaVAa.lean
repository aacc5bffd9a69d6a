import Derived.Test.YtabicgbnloabnaaVPc
import Derived.Test.YtabicgbnloabnaaVKn
import Derived.Test.YtabicgbnloabnaaVFq
namespace Go.Proofs.Ytabicgbnloabnaa
set_option maxRecDepth 100000
set_option linter.unusedSimpArgs false
open Go.RowKit
def ndC (b:Nat) (m o:Nat→Int):List Value:= [P0 b,.int .i64 (m 0),.int .i64 (m 1),.int .i64 (m 2),.int .i64 (m 3),.int .i64 (m 4),.int .i64 (m 5),.int .i64 (m 6),.int .i64 (m 7),.int .i64 (o 0),.int .i64 (o 1),.int .i64 (o 2),.int .i64 (o 3),.int .i64 (o 4),.int .i64 (o 5),.int .i64 (o 6),.int .i64 (o 7)]
theorem nd_m (b:Nat) (m o:Nat→Int) (n:Nat) (h:n<8):(ndC b m o)[1+n]?=some (.int .i64 (m n)):=by
 match n,h with
 | 0,_ | 1,_ | 2,_ | 3,_ | 4,_ | 5,_ | 6,_ | 7,_=>rfl
theorem nd_o (b:Nat) (m o:Nat→Int) (n:Nat) (h:n<8):(ndC b m o)[9+n]?=some (.int .i64 (o n)):=by
 match n,h with
 | 0,_ | 1,_ | 2,_ | 3,_ | 4,_ | 5,_ | 6,_ | 7,_=>rfl
theorem nd_setM (b:Nat) (m o:Nat→Int) (n:Nat) (h:n<8) (v:Int):(ndC b m o).set (1+n) (.int .i64 v)=ndC b (upd m n v) o:=by
 match n,h with
 | 0,_ | 1,_ | 2,_ | 3,_ | 4,_ | 5,_ | 6,_ | 7,_=>rfl
theorem nd_setO (b:Nat) (m o:Nat→Int) (n:Nat) (h:n<8) (v:Int):(ndC b m o).set (9+n) (.int .i64 v)=ndC b m (upd o n v):=by
 match n,h with
 | 0,_ | 1,_ | 2,_ | 3,_ | 4,_ | 5,_ | 6,_ | 7,_=>rfl
def cnt (f:Nat→Bool):Nat→Nat
 | 0=>0
 | j+1=>cnt f j+(if f j then 1 else 0)
theorem cnt_le (f:Nat→Bool):∀j,cnt f j≤j
 | 0=>by simp [cnt]
 | j+1=>by have:=cnt_le f j;rw [cnt];split <;> omega
def isX (m:Nat→Int) (i:Nat):Bool:=decide (m i=2)
def isH (m:Nat→Int) (i:Nat):Bool:= !decide (m i=0)
def rightB (m:Nat→Int):Bool:=decide (cnt (isX m) 8≤1∧(cnt (isX m) 8=0∨cnt (isH m) 8=1))
set_option maxHeartbeats 2000000 in
theorem right56 (z b:Nat) (m o:Nat→Int) (w:World) (h:Blk w z 55 (ndC b m o)):Calls Try.prog 56 #[P0 z] w fun e w'=>e= .returned (.bool (rightB m))∧w'=w:=by
 have HB:=hide h
 clear h
 go_enter Try.func56,Try.ntmps56
 go_wp2_with fail
 go_loopw [3,4,5] (fun xx xn xi wr=>∃j:Nat,j≤8∧xi= .int .i64 j∧xx= .int .i64 (cnt (isX m) j)∧xn= .int .i64 (cnt (isH m) j)∧wr=w) (fun _ _ xi _=>8-(intOf xi).toNat)
 case atStart=>exact ⟨0,by omega,rfl,rfl,rfl,rfl⟩
 case round=>
   obtain⟨j,hj,rfl,rfl,rfl,rfl⟩:=hrel
   have hc1:=cnt_le (isX m) j
   have hc2:=cnt_le (isH m) j
   by_cases hlt:j<8
   · have hjI:(j:Int)<8:=by omega
     have hd:decide ((j:Int)<8)=true:=by simpa using hjI
     have cj:wr.cell? ⟨z,1+j,none⟩=some (.int .i64 (m j)):=fits_cell (unhide HB) (1+j) _ (nd_m b m o j hlt)
     have e1:cnt (isX m) (j+1)=cnt (isX m) j+(if isX m j then 1 else 0):=rfl
     have e2:cnt (isH m) (j+1)=cnt (isH m) j+(if isH m j then 1 else 0):=rfl
     unfold isX at e1
     unfold isH at e2
     have HE1:=hide e1
     have HE2:=hide e2
     clear e1 e2
     by_cases h0:m j=0
     · have h2:¬m j=2:=by omega
       have E1:Hid (cnt (isX m) (j+1)=cnt (isX m) j):=by have h9:=unhide HE1;rw [decide_eq_false h2] at h9;exact h9
       have E2:Hid (cnt (isH m) (j+1)=cnt (isH m) j):=by have h9:=unhide HE2;rw [decide_eq_true h0] at h9;exact h9
       have h0a:=eqt_a h0
       have h0b:=eqt_b h0
       have h0c:=eqt_c h0
       have h2a:=nef_a h2
       have h2b:=nef_b h2
       have h2c:=nef_c h2
       clear h0 h2 HE1 HE2
       go_wp2_with fail
       go_roundw
       case rel=>exact ⟨j+1,by omega,by go_num,by rw [unhide E1],by rw [unhide E2],by trivial⟩
       case measure=>simp [intOf];omega
     · by_cases h2:m j=2
       · have E1:Hid (cnt (isX m) (j+1)=cnt (isX m) j+1):=by have h9:=unhide HE1;rw [decide_eq_true h2] at h9;exact h9
         have E2:Hid (cnt (isH m) (j+1)=cnt (isH m) j+1):=by have h9:=unhide HE2;rw [decide_eq_false h0] at h9;exact h9
         have h0a:=nef_a h0
         have h0b:=nef_b h0
         have h0c:=nef_c h0
         have h2a:=eqt_a h2
         have h2b:=eqt_b h2
         have h2c:=eqt_c h2
         clear h0 h2 HE1 HE2
         go_wp2_with fail
         go_roundw
         case rel=>exact ⟨j+1,by omega,by go_num,by rw [unhide E1];go_num,by rw [unhide E2];go_num,by trivial⟩
         case measure=>simp [intOf];omega
       · have E1:Hid (cnt (isX m) (j+1)=cnt (isX m) j):=by have h9:=unhide HE1;rw [decide_eq_false h2] at h9;exact h9
         have E2:Hid (cnt (isH m) (j+1)=cnt (isH m) j+1):=by have h9:=unhide HE2;rw [decide_eq_false h0] at h9;exact h9
         have h0a:=nef_a h0
         have h0b:=nef_b h0
         have h0c:=nef_c h0
         have h2a:=nef_a h2
         have h2b:=nef_b h2
         have h2c:=nef_c h2
         clear h0 h2 HE1 HE2
         go_wp2_with fail
         go_roundw
         case rel=>exact ⟨j+1,by omega,by go_num,by rw [unhide E1],by rw [unhide E2];go_num,by trivial⟩
         case measure=>simp [intOf];omega
   · obtain rfl:j=8:=by omega
     have hd:decide (((8:Nat):Int)<8)=false:=by decide
     have hR:rightB m=decide (cnt (isX m) 8≤1∧(cnt (isX m) 8=0∨cnt (isH m) 8=1)):=rfl
     generalize cnt (isX m) 8=X at*
     generalize cnt (isH m) 8=N at*
     have HR:=hide hR
     clear hR hc1 hc2
     by_cases h1:X≤1
     · have d1:decide ((X:Int)≤1)=true:=by simp;omega
       by_cases h2:X=0
       · subst h2
         go_wp2_with fail
         go_ret
         exact⟨by rw [unhide HR];simp,rfl⟩
       · have d2:decide ((X:Int)=0)=false:=by simp;omega
         have d2b:((X:Int) == 0)=false:=by simp;omega
         have d2c:decide (X=0)=false:=by simp;omega
         by_cases h3:N=1
         · subst h3
           go_wp2_with fail
           go_ret
           exact⟨by rw [unhide HR];simp;omega,rfl⟩
         · have d3:decide ((N:Int)=1)=false:=by simp;omega
           have d3b:((N:Int) == 1)=false:=by simp;omega
           have d3c:decide (N=1)=false:=by simp;omega
           go_wp2_with fail
           go_ret
           exact⟨by rw [unhide HR];simp;omega,rfl⟩
     · have d1:decide ((X:Int)≤1)=false:=by simp;omega
       have d1c:decide (X≤1)=false:=by simp;omega
       go_wp2_with fail
       go_ret
       exact⟨by rw [unhide HR];simp;omega,rfl⟩
end Go.Proofs.Ytabicgbnloabnaa
