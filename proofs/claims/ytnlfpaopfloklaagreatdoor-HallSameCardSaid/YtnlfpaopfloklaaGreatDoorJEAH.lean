/-
  What is read of an argument of the types api.Outline and api.Dim: where its dims and members lie, and what they hold.
-/
import Derived.Deep.Slices
import Derived.Deep.Strs
import Derived.Deep.Fields
import Derived.BigQuiet
import Derived.Test.YtnlfpaopfloklaaGreatDoorJEAF
import Derived.Test.YtnlfpaopfloklaaGreatDoorJEAG
namespace Go.Proofs.YtnlfpaopfloklaaGreatDoor
open Go Go.ChangeShapes Go.WideShapes Go.ChangeAt Go.RowKit Go.Deep
set_option maxRecDepth 100000
section
variable {H:Type} {enc:TypeId×Value→H} {w:World} {held:Bool}
theorem trod_one {P:Program} {base:Nat} {sp:Nat→Bool} {t:TypeId} {fs:Array Field} {fuel:Nat} {cs:List Value} {x:DataW H×List MemPlace} (ht:P.underlying t=some (.struct fs)) (hone:oneCellFields P fs=true) (h:DataW.trod enc P w base sp held fuel t cs=some x) :
  cs.length=P.cellsOf t∧∃ n,∀ (i:Nat) (f:Field) (v:Value),fs[i]?=some f→cs[i]?=some v→∃ y,DataW.trod enc P w base sp held n f.type [v]=some y:=by
 obtain ⟨xs,n,_,_,hl,hxs,hf⟩:=DataW.trod_struct ht h
 refine ⟨hl,n,fun i f v hi hv=>?_⟩
 obtain ⟨ho,hc⟩:=hone_of hone i f hi
 have hlt:i<fs.size:=(Array.getElem?_eq_some_iff.1 hi).1
 have e:=hf i f hi
 rw [ho,hc] at e
 obtain ⟨hi',hv'⟩:=List.getElem?_eq_some_iff.1 hv
 have ed:(cs.drop i).take 1=[v]:=by rw [List.drop_eq_getElem_cons hi',hv'];rfl
 rw [ed,List.getElem?_eq_getElem (by omega)] at e
 exact ⟨_,e⟩
theorem cellsM:Tryz.prog.cellsOf 27=4:=by kernel_rfl
theorem cellsD:Tryz.prog.cellsOf 30=3:=by kernel_rfl
theorem cellsO:Tryz.prog.cellsOf 24=1:=by kernel_rfl
theorem open_member {base:Nat} {sp:Nat→Bool} {fuel:Nat} {cs:List Value} {x:DataW H×List MemPlace} (h:DataW.trod enc Tryz.prog w base sp held fuel 27 cs=some x) :
  ∃ m:Mem,cs=[.string m.name,.int .i64 m.parent,.int .i64 m.sign,.string m.formula]:=by
 obtain ⟨hl,n,hf⟩:=trod_one Tryz.underlying27 (by kernel_rfl) h
 rw [cellsM] at hl
 match cs,hl with
 | [v0,v1,v2,v3],_ =>
  obtain ⟨y0,h0⟩:=hf 0 _ v0 rfl rfl
  obtain ⟨y1,h1⟩:=hf 1 _ v1 rfl rfl
  obtain ⟨y2,h2⟩:=hf 2 _ v2 rfl rfl
  obtain ⟨y3,h3⟩:=hf 3 _ v3 rfl rfl
  obtain ⟨s0,e0,-,-⟩:=DataW.trod_string Tryz.underlying9 h0
  obtain ⟨n1,e1,-,-⟩:=DataW.trod_int Tryz.underlying3 h1
  obtain ⟨n2,e2,-,-⟩:=DataW.trod_int Tryz.underlying3 h2
  obtain ⟨s3,e3,-,-⟩:=DataW.trod_string Tryz.underlying9 h3
  simp at e0 e1 e2 e3
  exact ⟨⟨s0,n1,n2,s3⟩,by rw [e0,e1,e2,e3]⟩
theorem addr_plain {a:Addr} {k:Nat} {v:Value} (h:w.cell? (a.add k)=some v) (hk:k=0):a=⟨a.block,a.off,none⟩:=by
 subst hk
 have e:(a.add 0)=a:=by simp [Addr.add]
 rw [e] at h
 have:=World.cell?_spot h
 cases a
 simp_all
theorem plain_add (b o k:Nat):(⟨b,o,none⟩:Addr).add k=⟨b,o+k,none⟩:=by
 unfold Addr.add
 by_cases hk:k=0
 ·subst hk;simp
 ·rw [if_neg hk]
theorem open_members {fuel:Nat} {cs:List Value} {x:DataW H×List MemPlace} (h:DataW.trod enc Tryz.prog w 0 (fun _=>true) held fuel 28 cs=some x) :
  ∃ (A:Option Addr) (cap n:Nat) (M:Nat→Mem),cs=[.slice A n cap]∧MemsV w A cap n M:=by
 rcases open_slice Tryz.underlying28 h with ⟨rfl,-⟩ | ⟨a,len,cap,m,n,D,Pl,rfl,-,hl,-,hm,-,hx⟩
 ·exact ⟨none,0,0,fun _=>⟨default,0,0,default⟩,rfl,Nat.le_refl _,Or.inl rfl⟩
 rw [cellsM] at hx
 simp at hm
 subst hm
 haveI:Inhabited Mem:=⟨⟨default,0,0,default⟩⟩
 have each:∀ i,i<len→∃ y:Mem,w.cells? 0 (a.add (i*4)) 4=some [.string y.name,.int .i64 y.parent,.int .i64 y.sign,.string y.formula]:=fun i hi=>by
  obtain ⟨cs',h1,h2⟩:=hx i (by omega)
  obtain ⟨y,rfl⟩:=open_member h2
  exact ⟨y,h1⟩
 obtain ⟨M,hM⟩:=choose_lt each
 refine ⟨some a,_,len,M,rfl,hl,?_⟩
 rcases Nat.eq_zero_or_pos len with h0 | h0
 ·exact Or.inl h0
 right
 have c0:=(World.cells?_some (hM 0 h0)).2.2 0 (by omega)
 rw [add_add] at c0
 have hp:=addr_plain c0 (by omega)
 have hb:=World.block_lt_of_cell? _ _ c0
 refine ⟨a.block,a.off,by rw [←hp],by simpa [Addr.add] using hb,fun i hi=>?_⟩
 have hc:=(World.cells?_some (hM i hi)).2.2
 rw [hp] at hc
 simp only [plain_add,Nat.add_assoc] at hc
 refine ⟨?_,?_,?_,?_⟩
 ·have:=hc 0 (by omega);simpa using this
 ·have:=hc 1 (by omega);simpa [Nat.add_assoc] using this
 ·have:=hc 2 (by omega);simpa [Nat.add_assoc] using this
 ·have:=hc 3 (by omega);simpa [Nat.add_assoc] using this
theorem open_dim {fuel:Nat} {cs:List Value} {x:DataW H×List MemPlace} (h:DataW.trod enc Tryz.prog w 0 (fun _=>true) held fuel 30 cs=some x) :
  ∃ (d:Dm) (A:Option Addr) (c:Nat),cs=[.string d.name,.int .i64 d.solve,.slice A d.n c]∧MemsV w A c d.n d.mem:=by
 obtain ⟨hl,n,hf⟩:=trod_one Tryz.underlying30 (by kernel_rfl) h
 rw [cellsD] at hl
 match cs,hl with
 | [v0,v1,v2],_ =>
  obtain ⟨y0,h0⟩:=hf 0 _ v0 rfl rfl
  obtain ⟨y1,h1⟩:=hf 1 _ v1 rfl rfl
  obtain ⟨y2,h2⟩:=hf 2 _ v2 rfl rfl
  obtain ⟨s0,e0,-,-⟩:=DataW.trod_string Tryz.underlying9 h0
  obtain ⟨n1,e1,-,-⟩:=DataW.trod_int Tryz.underlying3 h1
  obtain ⟨A,cap,k,M,e2,hM⟩:=open_members h2
  simp at e0 e1 e2
  exact ⟨⟨s0,n1,k,M⟩,A,cap,by rw [e0,e1,e2],hM⟩
theorem open_dims {fuel:Nat} {cs:List Value} {x:DataW H×List MemPlace} (h:DataW.trod enc Tryz.prog w 0 (fun _=>true) held fuel 22 cs=some x) :
  ∃ (A0:Option Addr) (cap n:Nat) (D:Nat→Dm) (A:Nat→Option Addr) (C:Nat→Nat),cs=[.slice A0 n cap]∧DimsV w A0 cap n D A C:=by
 rcases open_slice Tryz.underlying22 h with ⟨rfl,-⟩ | ⟨a,len,cap,m,n,D,Pl,rfl,-,hl,-,hm,-,hx⟩
 ·exact ⟨none,0,0,fun _=>⟨default,0,0,fun _=>⟨default,0,0,default⟩⟩,fun _=>none,fun _=>0,rfl,Nat.le_refl _,Or.inl rfl⟩
 rw [cellsD] at hx
 simp at hm
 subst hm
 haveI:Inhabited Dm:=⟨⟨default,0,0,fun _=>⟨default,0,0,default⟩⟩⟩
 have each:∀ i,i<len→∃ y:Dm×Option Addr×Nat,w.cells? 0 (a.add (i*3)) 3=some [.string y.1.name,.int .i64 y.1.solve,.slice y.2.1 y.1.n y.2.2]∧MemsV w y.2.1 y.2.2 y.1.n y.1.mem:=fun i hi=>by
  obtain ⟨cs',h1,h2⟩:=hx i (by omega)
  obtain ⟨d,A,c,rfl,hm⟩:=open_dim h2
  exact ⟨(d,A,c),h1,hm⟩
 obtain ⟨Y,hY⟩:=choose_lt each
 refine ⟨some a,_,len,fun i=>(Y i).1,fun i=>(Y i).2.1,fun i=>(Y i).2.2,rfl,hl,?_⟩
 rcases Nat.eq_zero_or_pos len with h0 | h0
 ·exact Or.inl h0
 right
 have c0:=(World.cells?_some (hY 0 h0).1).2.2 0 (by omega)
 rw [add_add] at c0
 have hp:=addr_plain c0 (by omega)
 have hb:=World.block_lt_of_cell? _ _ c0
 refine ⟨a.block,a.off,by rw [←hp],by simpa [Addr.add] using hb,fun i hi=>?_⟩
 have hc:=(World.cells?_some (hY i hi).1).2.2
 rw [hp] at hc
 simp only [plain_add,Nat.add_assoc] at hc
 refine ⟨?_,?_,?_,(hY i hi).2⟩
 ·have:=hc 0 (by omega);simpa using this
 ·have:=hc 1 (by omega);simpa [Nat.add_assoc] using this
 ·have:=hc 2 (by omega);simpa [Nat.add_assoc] using this
theorem arr1 {α:Type} {a:Array α} (h:a.size=1):∃ x,a=#[x]:=by
 rcases a with ⟨l⟩
 match l,h with
 | [x],_=>exact ⟨x,rfl⟩
theorem open_outline {r:Reach} {b0:Nat} {v:Value} {d:DataW H} {p:List MemPlace} (hv:Value.okWide Tryz.prog w r b0 24 v) (h:DataW.Trod enc Tryz.prog w 0 (fun _=>true) held 24 v d p) :
  ∃ (A0:Option Addr) (cap n:Nat) (D:Nat→Dm) (A:Nat→Option Addr) (C:Nat→Nat),v=.agg #[.slice A0 n cap]∧DimsV w A0 cap n D A C:=by
 obtain ⟨cs,rfl,hsz⟩:=okWide_struct Tryz.underlying24 hv
 obtain ⟨c0,rfl⟩:=arr1 (hsz.trans cellsO)
 obtain ⟨fuel,hf⟩:=h
 obtain ⟨-,n,hy⟩:=trod_one Tryz.underlying24 (by kernel_rfl) hf
 obtain ⟨y0,h0⟩:=hy 0 _ c0 rfl rfl
 obtain ⟨A0,cap,k,D,A,C,e,hD⟩:=open_dims h0
 simp at e
 exact ⟨A0,cap,k,D,A,C,by rw [e],hD⟩
end
def NdsAt (w:World) (b o:Nat) (l:List Nd):Prop:=b<w.heap.size∧∀ k,k<l.length→w.cell? ⟨b,o+k*5,none⟩=some (.int .i64 (l.getD k noN).op)∧w.cell? ⟨b,o+k*5+1,none⟩=some (.int .i64 (l.getD k noN).n)∧w.cell? ⟨b,o+k*5+2,none⟩=some (.string (l.getD k noN).name)∧w.cell? ⟨b,o+k*5+3,none⟩=some (.int .i64 (l.getD k noN).left)∧w.cell? ⟨b,o+k*5+4,none⟩=some (.int .i64 (l.getD k noN).right)
theorem NdsAt.later {w w':World} {b o:Nat} {l:List Nd} (h:NdsAt w b o l) (hB:Below w.heap.size w w'):NdsAt w' b o l:=by
 refine ⟨Nat.lt_of_lt_of_le h.1 hB.size,fun k hk=>?_⟩
 obtain ⟨h1,h2,h3,h4,h5⟩:=h.2 k hk
 exact ⟨(hB.cell (p:=⟨b,o+k*5,none⟩) h.1).trans h1,(hB.cell (p:=⟨b,o+k*5+1,none⟩) h.1).trans h2,(hB.cell (p:=⟨b,o+k*5+2,none⟩) h.1).trans h3,(hB.cell (p:=⟨b,o+k*5+3,none⟩) h.1).trans h4,(hB.cell (p:=⟨b,o+k*5+4,none⟩) h.1).trans h5⟩
def NdsV (w:World) (A:Option Addr) (cap:Nat) (l:List Nd):Prop:=l.length≤cap∧cap≤9223372036854775807∧(l=[]∨∃ b o,A=some ⟨b,o,none⟩∧NdsAt w b o l)
theorem NdsV.later {w w':World} {A:Option Addr} {cap:Nat} {l:List Nd} (h:NdsV w A cap l) (hB:Below w.heap.size w w'):NdsV w' A cap l:=by
 obtain ⟨h1,h0,h2 | ⟨b,o,h2,h3⟩⟩:=h
 ·exact ⟨h1,h0,Or.inl h2⟩
 ·exact ⟨h1,h0,Or.inr ⟨b,o,h2,h3.later hB⟩⟩
theorem NdsV.nil (w:World) (A:Option Addr) (cap:Nat) (h:cap≤9223372036854775807):NdsV w A cap []:=⟨Nat.zero_le _,h,Or.inl rfl⟩
end Go.Proofs.YtnlfpaopfloklaaGreatDoor
namespace Go.Proofs.YtnlfpaopfloklaaGreatDoor
open Go.ChangeShapes Go.WideShapes Go.ChangeAt Go.RowKit
set_option maxRecDepth 20000
theorem isdig_any (c:Int) (w:World):Calls Tryz.prog 219 #[.int .u8 c] w fun e w'=>e=.returned (.bool (digB c))∧Below w.heap.size w w':=by
 unfold digB
 by_cases h1:48≤c
 ·go_enter Tryz.func219,Tryz.ntmps219
  go_wp2
  go_ret
  exact ⟨by simp <;> omega,by go_grown⟩
 ·go_enter Tryz.func219,Tryz.ntmps219
  go_wp2
  go_ret
  exact ⟨by simp <;> omega,by go_grown⟩
theorem islet_any (c:Int) (w:World):Calls Tryz.prog 198 #[.int .u8 c] w fun e w'=>e=.returned (.bool (letB c))∧Below w.heap.size w w':=by
 unfold letB
 by_cases h1:97≤c
 ·go_enter Tryz.func198,Tryz.ntmps198
  go_wp2
  go_ret
  exact ⟨by simp <;> omega,by go_grown⟩
 ·go_enter Tryz.func198,Tryz.ntmps198
  go_wp2
  go_ret
  exact ⟨by simp <;> omega,by go_grown⟩
theorem binds_any (op:Int) (w:World):Calls Tryz.prog 183 #[.int .i64 op] w fun e w'=>e=.returned (.int .i64 (bindN op))∧Below w.heap.size w w':=by
 unfold bindN
 by_cases h3:op=3
 ·subst h3
  go_enter Tryz.func183,Tryz.ntmps183
  go_wp2
  go_ret
  exact ⟨by simp,by go_grown⟩
 by_cases h4:op=4
 ·subst h4
  go_enter Tryz.func183,Tryz.ntmps183
  go_wp2
  go_ret
  exact ⟨by simp,by go_grown⟩
 by_cases h5:op=5
 ·subst h5
  go_enter Tryz.func183,Tryz.ntmps183
  go_wp2
  go_ret
  exact ⟨by simp,by go_grown⟩
 by_cases h6:op=6
 ·subst h6
  go_enter Tryz.func183,Tryz.ntmps183
  go_wp2
  go_ret
  exact ⟨by simp,by go_grown⟩
 rw [if_neg (by omega),if_neg (by omega)]
 go_enter Tryz.func183,Tryz.ntmps183
 go_wp2
 go_ret
 exact ⟨rfl,by go_grown⟩
theorem joins_any (op:Int) (w:World):Calls Tryz.prog 160 #[.int .i64 op] w fun e w'=>e=.returned (.bool (decide (op≠1∧op≠2)))∧Below w.heap.size w w':=by
 by_cases h1:op=1
 ·subst h1
  go_enter Tryz.func160,Tryz.ntmps160
  go_wp2
  go_ret
  exact ⟨by simp,by go_grown⟩
 by_cases h2:op=2
 ·subst h2
  go_enter Tryz.func160,Tryz.ntmps160
  go_wp2
  go_ret
  exact ⟨by simp,by go_grown⟩
 go_enter Tryz.func160,Tryz.ntmps160
 go_wp2
 go_ret
 exact ⟨by simp [h1,h2],by go_grown⟩
theorem byteN_get (s:ByteArray) (k:Nat) (h:k<s.size):((s[k]'h).toNat:Int)=byteN s k:=by
 unfold byteN
 rw [List.getD,List.getElem?_eq_getElem (by simpa using h)]
 rfl
theorem lead_miss {p:Int→Bool} {t:ByteArray} {f i:Nat} (h:p (byteN t i)=false):leadTo p t (f+1) i=i:=by simp [leadTo,h]
theorem lead_hit {p:Int→Bool} {t:ByteArray} {f i:Nat} (h:p (byteN t i)=true):leadTo p t (f+1) i=leadTo p t f (i+1):=by simp [leadTo,h]
set_option maxHeartbeats 1000000 in
theorem lead_any (p:Int→Bool) (F:Nat) (hent:∀ (args:Array Value) (w:World),(callFunc F args).run Tryz.prog w=.ok (.enter F args) w) (hF:∀ (c:Int) (w:World),Calls Tryz.prog F #[.int .u8 c] w fun e w'=>e=.returned (.bool (p c))∧Below w.heap.size w w') (t:ByteArray) (w:World) (hs:t.size≤4611686018427387904):Calls Tryz.prog 221 #[.string t,.func (.func F) #[] #[]] w fun e w'=>e=.returned (.int .i64 (leadN p t))∧Below w.heap.size w w':=by
 have HF:Hid (∀ (c:Int) (w:World),Calls Tryz.prog F #[.int .u8 c] w fun e w'=>e=.returned (.bool (p c))∧Below w.heap.size w w'):=hF
 unfold leadN
 clear hF
 go_enter Tryz.func221,Tryz.ntmps221
 go_wp2_with fail
 go_loopg [8] t.size (fun g s8 wr => ∃ (k:Nat),k≤t.size∧g=t.size-k∧s8=.int .i64 k∧leadTo p t (t.size-k) k=leadTo p t t.size 0∧Below w.heap.size w wr)
 case atStart=>exact ⟨0,Nat.zero_le _,rfl,rfl,rfl,Below.refl _ _⟩
 case round =>
  obtain ⟨k,hk,rfl,rfl,hf,hBw⟩:=hrel
  have HQ:Hid (leadTo p t (t.size-k) k=leadTo p t t.size 0):=hf
  have HW:Hid (Below w.heap.size w wr):=hBw
  clear hf hBw
  by_cases hlt:k<t.size
  ·have hki:(k:Int)<(t.size:Int):=by omega
   have hs':(t.size:Int)≤4611686018427387904:=by omega
   have HSK:Hid (t.size-k=(t.size-(k+1))+1):=by show _=_;omega
   have hbd:=HF.out (byteN t k)
   have hby:=byteN_get t k hlt
   cases hb:p (byteN t k)
   ·rw [hb] at hbd
    have HK:Hid (p (byteN t k)=false):=hb
    clear hb
    generalize byteN t k=c at hbd hby
    go_wp2_with fail
    refine (hbd _).mono ?_
    rintro e w1 ⟨rfl,hb1⟩
    go_wp2_with fail
    go_ret
    exact ⟨by rw [←HQ.out,HSK.out,lead_miss HK.out];rfl,onB HW.out hb1⟩
   ·rw [hb] at hbd
    have HK:Hid (p (byteN t k)=true):=hb
    clear hb
    generalize byteN t k=c at hbd hby
    go_wp2_with fail
    refine (hbd _).mono ?_
    rintro e w1 ⟨rfl,hb1⟩
    go_wp2_with fail
    go_roundg (t.size-(k+1))
    case measure=>omega
    case rel=>exact ⟨k+1,by omega,rfl,by go_num,by rw [←HQ.out,HSK.out,lead_hit HK.out],onB HW.out hb1⟩
  ·have hke:k=t.size:=by omega
   subst hke
   go_wp2_with fail
   go_ret
   exact ⟨by rw [←HQ.out,Nat.sub_self];rfl,HW.out⟩
theorem ent_dig (args:Array Value) (w:World):(callFunc 219 args).run Tryz.prog w=.ok (.enter 219 args) w:=by simp [go_sem]
theorem ent_let (args:Array Value) (w:World):(callFunc 198 args).run Tryz.prog w=.ok (.enter 198 args) w:=by simp [go_sem]
theorem leadd_any (t:ByteArray) (w:World) (hs:t.size≤4611686018427387904):Calls Tryz.prog 221 #[.string t,.func (.func 219) #[] #[]] w fun e w'=>e=.returned (.int .i64 (leadN digB t))∧Below w.heap.size w w':=lead_any digB 219 ent_dig isdig_any t w hs
theorem leadl_any (t:ByteArray) (w:World) (hs:t.size≤4611686018427387904):Calls Tryz.prog 221 #[.string t,.func (.func 198) #[] #[]] w fun e w'=>e=.returned (.int .i64 (leadN letB t))∧Below w.heap.size w w':=lead_any letB 198 ent_let islet_any t w hs
end Go.Proofs.YtnlfpaopfloklaaGreatDoor
