/-
  What is read of an argument of the types api.Outline and api.Dim: where its dims and members lie, and what they hold.
-/
import Derived.Deep.Slices
import Derived.Deep.Strs
import Derived.Deep.Fields
import Derived.BigQuiet
import Derived.WalkSmall
import Derived.Deep.AppendLies
import Derived.Deep.RegionLaw
import Derived.Deep.DeepCutAuto
import Derived.Shelf.Small.Strs
import Derived.Lib.Strings
import Derived.Shelf.Pu.Clone
import Derived.Test.YtfngmnhkhfgmjagGreatDoorJAAE
import Derived.Test.YtfngmnhkhfgmjagGreatDoorJAAF
import Derived.Test.YtfngmnhkhfgmjagGreatDoorJAAG
namespace Go.Proofs.YtfngmnhkhfgmjagGreatDoor
open Go Go.ChangeShapes Go.WideShapes Go.ChangeAt Go.RowKit Go.Deep
set_option maxRecDepth 100000
section
variable {H:Type} {enc:TypeId×Value→H} {w:World} {held:Bool}
theorem trod_one {P:Program} {base:Nat} {sp:Nat→Bool} {t:TypeId} {fs:Array Field} {fuel:Nat} {cs:List Value} {x:DataW H×List MemPlace} (ht:P.underlying t=some (.struct fs)) (hone:oneCellFields P fs=true) (h:DataW.trod enc P w base sp held fuel t cs=some x) :
  cs.length=P.cellsOf t∧∃ n,∀ (i:Nat) (f:Field) (v:Value),fs[i]?=some f→cs[i]?=some v→∃ y,DataW.trod enc P w base sp held n f.type [v]=some y:=by
 obtain ⟨xs,n,_,_,hl,hxs,hf⟩:=DataW.trod_struct ht h
 refine ⟨hl,n,fun i f v hi hv=>?_⟩
 obtain ⟨ho,hc⟩:=hone_of hone i f hi
 have hlt:i<fs.size:=(Array.getElem?_eq_some_iff.1 hi).1
 have e:=hf i f hi
 rw [ho,hc] at e
 obtain ⟨hi',hv'⟩:=List.getElem?_eq_some_iff.1 hv
 have ed:(cs.drop i).take 1=[v]:=by rw [List.drop_eq_getElem_cons hi',hv'];rfl
 rw [ed,List.getElem?_eq_getElem (by omega)] at e
 exact ⟨_,e⟩
theorem cellsM:Tryz.prog.cellsOf 40=4:=by kernel_rfl
theorem cellsD:Tryz.prog.cellsOf 43=3:=by kernel_rfl
theorem cellsO:Tryz.prog.cellsOf 29=1:=by kernel_rfl
theorem open_member {base:Nat} {sp:Nat→Bool} {fuel:Nat} {cs:List Value} {x:DataW H×List MemPlace} (h:DataW.trod enc Tryz.prog w base sp held fuel 40 cs=some x) :
  ∃ m:Mem,cs=[.string m.name,.int .i64 m.parent,.int .i64 m.sign,.string m.formula]:=by
 obtain ⟨hl,n,hf⟩:=trod_one Tryz.underlying40 (by kernel_rfl) h
 rw [cellsM] at hl
 match cs,hl with
 | [v0,v1,v2,v3],_ =>
  obtain ⟨y0,h0⟩:=hf 0 _ v0 rfl rfl
  obtain ⟨y1,h1⟩:=hf 1 _ v1 rfl rfl
  obtain ⟨y2,h2⟩:=hf 2 _ v2 rfl rfl
  obtain ⟨y3,h3⟩:=hf 3 _ v3 rfl rfl
  obtain ⟨s0,e0,-,-⟩:=DataW.trod_string Tryz.underlying9 h0
  obtain ⟨n1,e1,-,-⟩:=DataW.trod_int Tryz.underlying3 h1
  obtain ⟨n2,e2,-,-⟩:=DataW.trod_int Tryz.underlying3 h2
  obtain ⟨s3,e3,-,-⟩:=DataW.trod_string Tryz.underlying9 h3
  simp at e0 e1 e2 e3
  exact ⟨⟨s0,n1,n2,s3⟩,by rw [e0,e1,e2,e3]⟩
theorem addr_plain {a:Addr} {k:Nat} {v:Value} (h:w.cell? (a.add k)=some v) (hk:k=0):a=⟨a.block,a.off,none⟩:=by
 subst hk
 have e:(a.add 0)=a:=by simp [Addr.add]
 rw [e] at h
 have:=World.cell?_spot h
 cases a
 simp_all
theorem plain_add (b o k:Nat):(⟨b,o,none⟩:Addr).add k=⟨b,o+k,none⟩:=by
 unfold Addr.add
 by_cases hk:k=0
 ·subst hk;simp
 ·rw [if_neg hk]
theorem open_members {fuel:Nat} {cs:List Value} {x:DataW H×List MemPlace} (h:DataW.trod enc Tryz.prog w 0 (fun _=>true) held fuel 41 cs=some x) :
  ∃ (A:Option Addr) (cap n:Nat) (M:Nat→Mem),cs=[.slice A n cap]∧MemsV w A cap n M:=by
 rcases open_slice Tryz.underlying41 h with ⟨rfl,-⟩ | ⟨a,len,cap,m,n,D,Pl,rfl,-,hl,-,hm,-,hx⟩
 ·exact ⟨none,0,0,fun _=>⟨default,0,0,default⟩,rfl,Nat.le_refl _,Or.inl rfl⟩
 rw [cellsM] at hx
 simp at hm
 subst hm
 haveI:Inhabited Mem:=⟨⟨default,0,0,default⟩⟩
 have each:∀ i,i<len→∃ y:Mem,w.cells? 0 (a.add (i*4)) 4=some [.string y.name,.int .i64 y.parent,.int .i64 y.sign,.string y.formula]:=fun i hi=>by
  obtain ⟨cs',h1,h2⟩:=hx i (by omega)
  obtain ⟨y,rfl⟩:=open_member h2
  exact ⟨y,h1⟩
 obtain ⟨M,hM⟩:=choose_lt each
 refine ⟨some a,_,len,M,rfl,hl,?_⟩
 rcases Nat.eq_zero_or_pos len with h0 | h0
 ·exact Or.inl h0
 right
 have c0:=(World.cells?_some (hM 0 h0)).2.2 0 (by omega)
 rw [add_add] at c0
 have hp:=addr_plain c0 (by omega)
 have hb:=World.block_lt_of_cell? _ _ c0
 refine ⟨a.block,a.off,by rw [←hp],by simpa [Addr.add] using hb,fun i hi=>?_⟩
 have hc:=(World.cells?_some (hM i hi)).2.2
 rw [hp] at hc
 simp only [plain_add,Nat.add_assoc] at hc
 refine ⟨?_,?_,?_,?_⟩
 ·have:=hc 0 (by omega);simpa using this
 ·have:=hc 1 (by omega);simpa [Nat.add_assoc] using this
 ·have:=hc 2 (by omega);simpa [Nat.add_assoc] using this
 ·have:=hc 3 (by omega);simpa [Nat.add_assoc] using this
theorem open_dim {fuel:Nat} {cs:List Value} {x:DataW H×List MemPlace} (h:DataW.trod enc Tryz.prog w 0 (fun _=>true) held fuel 43 cs=some x) :
  ∃ (d:Dm) (A:Option Addr) (c:Nat),cs=[.string d.name,.int .i64 d.solve,.slice A d.n c]∧MemsV w A c d.n d.mem:=by
 obtain ⟨hl,n,hf⟩:=trod_one Tryz.underlying43 (by kernel_rfl) h
 rw [cellsD] at hl
 match cs,hl with
 | [v0,v1,v2],_ =>
  obtain ⟨y0,h0⟩:=hf 0 _ v0 rfl rfl
  obtain ⟨y1,h1⟩:=hf 1 _ v1 rfl rfl
  obtain ⟨y2,h2⟩:=hf 2 _ v2 rfl rfl
  obtain ⟨s0,e0,-,-⟩:=DataW.trod_string Tryz.underlying9 h0
  obtain ⟨n1,e1,-,-⟩:=DataW.trod_int Tryz.underlying3 h1
  obtain ⟨A,cap,k,M,e2,hM⟩:=open_members h2
  simp at e0 e1 e2
  exact ⟨⟨s0,n1,k,M⟩,A,cap,by rw [e0,e1,e2],hM⟩
theorem open_dims {fuel:Nat} {cs:List Value} {x:DataW H×List MemPlace} (h:DataW.trod enc Tryz.prog w 0 (fun _=>true) held fuel 27 cs=some x) :
  ∃ (A0:Option Addr) (cap n:Nat) (D:Nat→Dm) (A:Nat→Option Addr) (C:Nat→Nat),cs=[.slice A0 n cap]∧DimsV w A0 cap n D A C:=by
 rcases open_slice Tryz.underlying27 h with ⟨rfl,-⟩ | ⟨a,len,cap,m,n,D,Pl,rfl,-,hl,-,hm,-,hx⟩
 ·exact ⟨none,0,0,fun _=>⟨default,0,0,fun _=>⟨default,0,0,default⟩⟩,fun _=>none,fun _=>0,rfl,Nat.le_refl _,Or.inl rfl⟩
 rw [cellsD] at hx
 simp at hm
 subst hm
 haveI:Inhabited Dm:=⟨⟨default,0,0,fun _=>⟨default,0,0,default⟩⟩⟩
 have each:∀ i,i<len→∃ y:Dm×Option Addr×Nat,w.cells? 0 (a.add (i*3)) 3=some [.string y.1.name,.int .i64 y.1.solve,.slice y.2.1 y.1.n y.2.2]∧MemsV w y.2.1 y.2.2 y.1.n y.1.mem:=fun i hi=>by
  obtain ⟨cs',h1,h2⟩:=hx i (by omega)
  obtain ⟨d,A,c,rfl,hm⟩:=open_dim h2
  exact ⟨(d,A,c),h1,hm⟩
 obtain ⟨Y,hY⟩:=choose_lt each
 refine ⟨some a,_,len,fun i=>(Y i).1,fun i=>(Y i).2.1,fun i=>(Y i).2.2,rfl,hl,?_⟩
 rcases Nat.eq_zero_or_pos len with h0 | h0
 ·exact Or.inl h0
 right
 have c0:=(World.cells?_some (hY 0 h0).1).2.2 0 (by omega)
 rw [add_add] at c0
 have hp:=addr_plain c0 (by omega)
 have hb:=World.block_lt_of_cell? _ _ c0
 refine ⟨a.block,a.off,by rw [←hp],by simpa [Addr.add] using hb,fun i hi=>?_⟩
 have hc:=(World.cells?_some (hY i hi).1).2.2
 rw [hp] at hc
 simp only [plain_add,Nat.add_assoc] at hc
 refine ⟨?_,?_,?_,(hY i hi).2⟩
 ·have:=hc 0 (by omega);simpa using this
 ·have:=hc 1 (by omega);simpa [Nat.add_assoc] using this
 ·have:=hc 2 (by omega);simpa [Nat.add_assoc] using this
theorem arr1 {α:Type} {a:Array α} (h:a.size=1):∃ x,a=#[x]:=by
 rcases a with ⟨l⟩
 match l,h with
 | [x],_=>exact ⟨x,rfl⟩
theorem open_outline {r:Reach} {b0:Nat} {v:Value} {d:DataW H} {p:List MemPlace} (hv:Value.okWide Tryz.prog w r b0 29 v) (h:DataW.Trod enc Tryz.prog w 0 (fun _=>true) held 29 v d p) :
  ∃ (A0:Option Addr) (cap n:Nat) (D:Nat→Dm) (A:Nat→Option Addr) (C:Nat→Nat),v=.agg #[.slice A0 n cap]∧DimsV w A0 cap n D A C:=by
 obtain ⟨cs,rfl,hsz⟩:=okWide_struct Tryz.underlying29 hv
 obtain ⟨c0,rfl⟩:=arr1 (hsz.trans cellsO)
 obtain ⟨fuel,hf⟩:=h
 obtain ⟨-,n,hy⟩:=trod_one Tryz.underlying29 (by kernel_rfl) hf
 obtain ⟨y0,h0⟩:=hy 0 _ c0 rfl rfl
 obtain ⟨A0,cap,k,D,A,C,e,hD⟩:=open_dims h0
 simp at e
 exact ⟨A0,cap,k,D,A,C,by rw [e],hD⟩
end
def NdsAt (w:World) (b o:Nat) (l:List Nd):Prop:=b<w.heap.size∧∀ k,k<l.length→w.cell? ⟨b,o+k*5,none⟩=some (.int .i64 (l.getD k noN).op)∧w.cell? ⟨b,o+k*5+1,none⟩=some (.int .i64 (l.getD k noN).n)∧w.cell? ⟨b,o+k*5+2,none⟩=some (.string (l.getD k noN).name)∧w.cell? ⟨b,o+k*5+3,none⟩=some (.int .i64 (l.getD k noN).left)∧w.cell? ⟨b,o+k*5+4,none⟩=some (.int .i64 (l.getD k noN).right)
theorem NdsAt.later {w w':World} {b o:Nat} {l:List Nd} (h:NdsAt w b o l) (hB:Below w.heap.size w w'):NdsAt w' b o l:=by
 refine ⟨Nat.lt_of_lt_of_le h.1 hB.size,fun k hk=>?_⟩
 obtain ⟨h1,h2,h3,h4,h5⟩:=h.2 k hk
 exact ⟨(hB.cell (p:=⟨b,o+k*5,none⟩) h.1).trans h1,(hB.cell (p:=⟨b,o+k*5+1,none⟩) h.1).trans h2,(hB.cell (p:=⟨b,o+k*5+2,none⟩) h.1).trans h3,(hB.cell (p:=⟨b,o+k*5+3,none⟩) h.1).trans h4,(hB.cell (p:=⟨b,o+k*5+4,none⟩) h.1).trans h5⟩
def NdsV (w:World) (A:Option Addr) (cap:Nat) (l:List Nd):Prop:=l.length≤cap∧cap≤9223372036854775807∧(l=[]∨∃ b o,A=some ⟨b,o,none⟩∧NdsAt w b o l)
theorem NdsV.later {w w':World} {A:Option Addr} {cap:Nat} {l:List Nd} (h:NdsV w A cap l) (hB:Below w.heap.size w w'):NdsV w' A cap l:=by
 obtain ⟨h1,h0,h2 | ⟨b,o,h2,h3⟩⟩:=h
 ·exact ⟨h1,h0,Or.inl h2⟩
 ·exact ⟨h1,h0,Or.inr ⟨b,o,h2,h3.later hB⟩⟩
theorem NdsV.nil (w:World) (A:Option Addr) (cap:Nat) (h:cap≤9223372036854775807):NdsV w A cap []:=⟨Nat.zero_le _,h,Or.inl rfl⟩
end Go.Proofs.YtfngmnhkhfgmjagGreatDoor
namespace Go.Proofs.YtfngmnhkhfgmjagGreatDoor
open Go.ChangeShapes Go.WideShapes Go.ChangeAt Go.RowKit
set_option maxRecDepth 20000
theorem isdig_any (c:Int) (w:World):Calls Tryz.prog 277 #[.int .u8 c] w fun e w'=>e=.returned (.bool (digB c))∧Below w.heap.size w w':=by
 unfold digB
 by_cases h1:48≤c
 ·go_enter Tryz.func277,Tryz.ntmps277
  go_wp2
  go_ret
  exact ⟨by simp <;> omega,by go_grown⟩
 ·go_enter Tryz.func277,Tryz.ntmps277
  go_wp2
  go_ret
  exact ⟨by simp <;> omega,by go_grown⟩
theorem islet_any (c:Int) (w:World):Calls Tryz.prog 256 #[.int .u8 c] w fun e w'=>e=.returned (.bool (letB c))∧Below w.heap.size w w':=by
 unfold letB
 by_cases h1:97≤c
 ·go_enter Tryz.func256,Tryz.ntmps256
  go_wp2
  go_ret
  exact ⟨by simp <;> omega,by go_grown⟩
 ·go_enter Tryz.func256,Tryz.ntmps256
  go_wp2
  go_ret
  exact ⟨by simp <;> omega,by go_grown⟩
theorem binds_any (op:Int) (w:World):Calls Tryz.prog 241 #[.int .i64 op] w fun e w'=>e=.returned (.int .i64 (bindN op))∧Below w.heap.size w w':=by
 unfold bindN
 by_cases h3:op=3
 ·subst h3
  go_enter Tryz.func241,Tryz.ntmps241
  go_wp2
  go_ret
  exact ⟨by simp,by go_grown⟩
 by_cases h4:op=4
 ·subst h4
  go_enter Tryz.func241,Tryz.ntmps241
  go_wp2
  go_ret
  exact ⟨by simp,by go_grown⟩
 by_cases h5:op=5
 ·subst h5
  go_enter Tryz.func241,Tryz.ntmps241
  go_wp2
  go_ret
  exact ⟨by simp,by go_grown⟩
 by_cases h6:op=6
 ·subst h6
  go_enter Tryz.func241,Tryz.ntmps241
  go_wp2
  go_ret
  exact ⟨by simp,by go_grown⟩
 rw [if_neg (by omega),if_neg (by omega)]
 go_enter Tryz.func241,Tryz.ntmps241
 go_wp2
 go_ret
 exact ⟨rfl,by go_grown⟩
theorem joins_any (op:Int) (w:World):Calls Tryz.prog 223 #[.int .i64 op] w fun e w'=>e=.returned (.bool (decide (op≠1∧op≠2)))∧Below w.heap.size w w':=by
 by_cases h1:op=1
 ·subst h1
  go_enter Tryz.func223,Tryz.ntmps223
  go_wp2
  go_ret
  exact ⟨by simp,by go_grown⟩
 by_cases h2:op=2
 ·subst h2
  go_enter Tryz.func223,Tryz.ntmps223
  go_wp2
  go_ret
  exact ⟨by simp,by go_grown⟩
 go_enter Tryz.func223,Tryz.ntmps223
 go_wp2
 go_ret
 exact ⟨by simp [h1,h2],by go_grown⟩
theorem byteN_get (s:ByteArray) (k:Nat) (h:k<s.size):((s[k]'h).toNat:Int)=byteN s k:=by
 unfold byteN
 rw [List.getD,List.getElem?_eq_getElem (by simpa using h)]
 rfl
theorem lead_miss {p:Int→Bool} {t:ByteArray} {f i:Nat} (h:p (byteN t i)=false):leadTo p t (f+1) i=i:=by simp [leadTo,h]
theorem lead_hit {p:Int→Bool} {t:ByteArray} {f i:Nat} (h:p (byteN t i)=true):leadTo p t (f+1) i=leadTo p t f (i+1):=by simp [leadTo,h]
set_option maxHeartbeats 1000000 in
theorem lead_any (p:Int→Bool) (F:Nat) (hent:∀ (args:Array Value) (w:World),(callFunc F args).run Tryz.prog w=.ok (.enter F args) w) (hF:∀ (c:Int) (w:World),Calls Tryz.prog F #[.int .u8 c] w fun e w'=>e=.returned (.bool (p c))∧Below w.heap.size w w') (t:ByteArray) (w:World) (hs:t.size≤4611686018427387904):Calls Tryz.prog 279 #[.string t,.func (.func F) #[] #[]] w fun e w'=>e=.returned (.int .i64 (leadN p t))∧Below w.heap.size w w':=by
 have HF:Hid (∀ (c:Int) (w:World),Calls Tryz.prog F #[.int .u8 c] w fun e w'=>e=.returned (.bool (p c))∧Below w.heap.size w w'):=hF
 unfold leadN
 clear hF
 go_enter Tryz.func279,Tryz.ntmps279
 go_wp2_with fail
 go_loopg [8] t.size (fun g s8 wr => ∃ (k:Nat),k≤t.size∧g=t.size-k∧s8=.int .i64 k∧leadTo p t (t.size-k) k=leadTo p t t.size 0∧Below w.heap.size w wr)
 case atStart=>exact ⟨0,Nat.zero_le _,rfl,rfl,rfl,Below.refl _ _⟩
 case round =>
  obtain ⟨k,hk,rfl,rfl,hf,hBw⟩:=hrel
  have HQ:Hid (leadTo p t (t.size-k) k=leadTo p t t.size 0):=hf
  have HW:Hid (Below w.heap.size w wr):=hBw
  clear hf hBw
  by_cases hlt:k<t.size
  ·have hki:(k:Int)<(t.size:Int):=by omega
   have hs':(t.size:Int)≤4611686018427387904:=by omega
   have HSK:Hid (t.size-k=(t.size-(k+1))+1):=by show _=_;omega
   have hbd:=HF.out (byteN t k)
   have hby:=byteN_get t k hlt
   cases hb:p (byteN t k)
   ·rw [hb] at hbd
    have HK:Hid (p (byteN t k)=false):=hb
    clear hb
    generalize byteN t k=c at hbd hby
    go_wp2_with fail
    refine (hbd _).mono ?_
    rintro e w1 ⟨rfl,hb1⟩
    go_wp2_with fail
    go_ret
    exact ⟨by rw [←HQ.out,HSK.out,lead_miss HK.out];rfl,onB HW.out hb1⟩
   ·rw [hb] at hbd
    have HK:Hid (p (byteN t k)=true):=hb
    clear hb
    generalize byteN t k=c at hbd hby
    go_wp2_with fail
    refine (hbd _).mono ?_
    rintro e w1 ⟨rfl,hb1⟩
    go_wp2_with fail
    go_roundg (t.size-(k+1))
    case measure=>omega
    case rel=>exact ⟨k+1,by omega,rfl,by go_num,by rw [←HQ.out,HSK.out,lead_hit HK.out],onB HW.out hb1⟩
  ·have hke:k=t.size:=by omega
   subst hke
   go_wp2_with fail
   go_ret
   exact ⟨by rw [←HQ.out,Nat.sub_self];rfl,HW.out⟩
theorem ent_dig (args:Array Value) (w:World):(callFunc 277 args).run Tryz.prog w=.ok (.enter 277 args) w:=by simp [go_sem]
theorem ent_let (args:Array Value) (w:World):(callFunc 256 args).run Tryz.prog w=.ok (.enter 256 args) w:=by simp [go_sem]
theorem leadd_any (t:ByteArray) (w:World) (hs:t.size≤4611686018427387904):Calls Tryz.prog 279 #[.string t,.func (.func 277) #[] #[]] w fun e w'=>e=.returned (.int .i64 (leadN digB t))∧Below w.heap.size w w':=lead_any digB 277 ent_dig isdig_any t w hs
theorem leadl_any (t:ByteArray) (w:World) (hs:t.size≤4611686018427387904):Calls Tryz.prog 279 #[.string t,.func (.func 256) #[] #[]] w fun e w'=>e=.returned (.int .i64 (leadN letB t))∧Below w.heap.size w w':=lead_any letB 256 ent_let islet_any t w hs
theorem below_drewN {B:Nat} {a w:World} (h:Below B a w) (n:Nat):Below B a (w.drewN n):=h.trans ⟨rfl,rfl,rfl,Nat.le_refl _,fun _ _=>rfl⟩
def RdAt (w:World) (q:Nat) (s:ByteArray) (a o:Nat) (tv:Value):Prop:=w.heap[q]?=some (.cells #[.string s,.int .i64 a,.int .i64 o,tv] 317 (0,0))
section
variable {w w':World} {q a o:Nat} {s:ByteArray} {tv:Value}
theorem RdAt.lt (h:RdAt w q s a o tv):q<w.heap.size:=(Array.getElem?_eq_some_iff.1 h).1
theorem RdAt.c0 (h:RdAt w q s a o tv):w.cell? ⟨q,0,none⟩=some (.string s):=by unfold RdAt at h;simp [World.cell?,h]
theorem RdAt.c1 (h:RdAt w q s a o tv):w.cell? ⟨q,1,none⟩=some (.int .i64 a):=by unfold RdAt at h;simp [World.cell?,h]
theorem RdAt.c2 (h:RdAt w q s a o tv):w.cell? ⟨q,2,none⟩=some (.int .i64 o):=by unfold RdAt at h;simp [World.cell?,h]
theorem RdAt.c3 (h:RdAt w q s a o tv):w.cell? ⟨q,3,none⟩=some tv:=by unfold RdAt at h;simp [World.cell?,h]
theorem RdAt.fr (h:RdAt w q s a o tv) (j:Nat):w.frozen? ⟨q,j,none⟩=false:=by unfold RdAt at h;simp [World.frozen?,h]
theorem RdAt.later (h:RdAt w q s a o tv) (hB:Below w.heap.size w w'):RdAt w' q s a o tv:=(hB.block q h.lt).trans h
theorem RdAt.same (h:RdAt w q s a o tv) (hB:w'.heap[q]?=w.heap[q]?):RdAt w' q s a o tv:=hB.trans h
theorem RdAt.set1 (h:RdAt w q s a o tv) (n:Nat):RdAt (w.setCell ⟨q,1,none⟩ (.int .i64 n)) q s n o tv:=by
 unfold RdAt at *
 rw [setCell_eq_setRow w q 1 _ _ (0,0) _ h,setRow_heap w q _ _ _ _ h]
 rfl
theorem RdAt.set2 (h:RdAt w q s a o tv) (n:Nat):RdAt (w.setCell ⟨q,2,none⟩ (.int .i64 n)) q s a n tv:=by
 unfold RdAt at *
 rw [setCell_eq_setRow w q 2 _ _ (0,0) _ h,setRow_heap w q _ _ _ _ h]
 rfl
end
set_option maxHeartbeats 1000000 in
theorem next_any (q a o:Nat) (s:ByteArray) (tv:Value) (w:World) (ha:a≤s.size) (hR:RdAt w q s a o tv):Calls Tryz.prog 275 #[.pointer (some ⟨q,0,none⟩)] w fun e w'=>e=.returned (.int .u8 (nextB s a))∧Below w.heap.size w w':=by
 have c0:=hR.c0
 have c1:=hR.c1
 have hq:=hR.lt
 clear hR
 by_cases he:a=s.size
 ·subst he
  have h0:nextB s s.size=0:=by simp [nextB]
  rw [h0]
  go_enter Tryz.func275,Tryz.ntmps275
  go_wp2_with fail
  go_quiet (fail)
  go_wp2_with fail
  go_ret
  exact ⟨rfl,below_drewN (Below.refl _ _) _⟩
 ·have hlt:a<s.size:=by omega
  have h0:nextB s a=byteN s a:=by simp [nextB,he]
  have hne : ¬ (a:Int)=(s.size:Int):=by omega
  have hby:=byteN_get s a hlt
  rw [h0]
  go_enter Tryz.func275,Tryz.ntmps275
  go_wp2_with fail
  go_quiet (fail)
  go_wp2_with fail
  go_quiet (fail)
  go_wp2_with fail
  go_ret
  exact ⟨rfl,below_drewN (below_drewN (Below.refl _ _) _) _⟩
theorem stop_any (q a o:Nat) (s:ByteArray) (tv:Value) (w:World) (hR:RdAt w q s a o tv):Calls Tryz.prog 260 #[.pointer (some ⟨q,0,none⟩)] w fun e w'=>e=.panicked [{ v:=.iface 315 (.int .i64 a),recovered:=false }]∧Below w.heap.size w w':=by
 have c1:=hR.c1
 clear hR
 go_enter Tryz.func260,Tryz.ntmps260
 go_wp2
 exact ⟨rfl,rfl,Below.refl _ _⟩
structure Kept (N:Nat) (X:Nat→Prop) (w w':World):Prop where
 os:w'.os=w.os
 tape:w'.tape=w.tape
 output:w'.output=w.output
 size:w.heap.size≤w'.heap.size
 block:∀ k,k<N→¬ X k→w'.heap[k]?=w.heap[k]?
section
variable {N:Nat} {X Y:Nat→Prop} {w w' w'':World}
theorem Kept.refl (N:Nat) (X:Nat→Prop) (w:World):Kept N X w w:=⟨rfl,rfl,rfl,Nat.le_refl _,fun _ _ _=>rfl⟩
theorem Kept.trans (h:Kept N X w w') (k:Kept N X w' w''):Kept N X w w'':=⟨k.os.trans h.os,k.tape.trans h.tape,k.output.trans h.output,Nat.le_trans h.size k.size,fun i hi hx=>(k.block i hi hx).trans (h.block i hi hx)⟩
theorem Kept.wide (h:Kept N X w w') (hx:∀ k,X k→Y k):Kept N Y w w':=⟨h.os,h.tape,h.output,h.size,fun i hi hy=>h.block i hi fun e=>hy (hx i e)⟩
theorem kept_below (h:Below w.heap.size w w') (hN:N≤w.heap.size):Kept N X w w':=⟨h.os,h.tape,h.output,h.size,fun i hi _=>h.block i (Nat.lt_of_lt_of_le hi hN)⟩
theorem kept_grown {q:Nat} (h:w.grownBy w' (some q)) (hN:N≤w.heap.size) (hX:X q):Kept N X w w':=⟨h.os,h.tape,h.output,h.size,fun i hi hx=>h.block i (Nat.lt_of_lt_of_le hi hN) fun e=>hx (by cases e;exact hX)⟩
end
theorem setCell_off (w:World) (q j k:Nat) (v:Value) (h:k≠q):(w.setCell ⟨q,j,none⟩ v).heap[k]?=w.heap[k]?:=by
 simp only [World.setCell]
 rw [Array.getElem?_modify,if_neg (fun e=>h e.symm)]
theorem grownF_refl (w:World) (r:Option Nat):w.grownBy w r:=⟨rfl,rfl,rfl,Nat.le_refl _,fun _ _ _=>rfl⟩
theorem grownF_below {w w':World} {r:Option Nat} (h:Below w.heap.size w w'):w.grownBy w' r:=⟨h.os,h.tape,h.output,h.size,fun i hi _=>h.block i hi⟩
theorem grownF_set {w w':World} {q j:Nat} {v:Value} (h:w.grownBy w' (some q)):w.grownBy (w'.setCell ⟨q,j,none⟩ v) (some q) :=
 ⟨h.os,h.tape,h.output,by simpa using h.size,fun k hk hr=>by
  have hne:k≠q:=fun e=>hr (by rw [e])
  exact (setCell_off w' q j k v hne).trans (h.block k hk hr)⟩
inductive Stp:Nat→Bool→ByteArray→Nat→Bool→Prop
 | opn (o:Nat) (t:ByteArray):t.size=1→byteN t 0=40→Stp o false t (o+1) false
 | cls (o:Nat) (t:ByteArray):t.size=1→byteN t 0=41→Stp (o+1) true t o true
 | num (o:Nat) (t:ByteArray):1≤t.size→t.size≤7→(∀ i,i<t.size→digB (byteN t i)=true)→Stp o false t o true
 | nam (o:Nat) (t:ByteArray):1≤t.size→(∀ i,i<t.size→letB (byteN t i)=true)→Stp o false t o true
 | sgn (o:Nat) (t:ByteArray):t.size=1→0≤signI (byteN t 0)→Stp o true t o false
structure Tkr (S:Type) where
 N:Nat
 p:Nat
 M:Nat
 F:Nat
 first:Array Value
 tk:S→ByteArray→S
 I:S→World→Prop
 G:Nat→Nat→Bool→S→Prop
def Tkr.fv {S:Type} (T:Tkr S):Value:=.func (.func T.F) T.first #[]
structure Tkr.Ok {S:Type} (T:Tkr S):Prop where
 small:T.M≤4611686018427387904
 ent:∀ (args:Array Value) (w:World),(callFunc T.F args).run Tryz.prog w=.ok (.enter T.F args) w
 stay:∀ (q:Nat) (st:S) (w w':World),q<T.N→q≠T.p→T.I st w→w.grownBy w' (some q)→T.I st w'
 step:∀ (a o:Nat) (ph:Bool) (st:S) (t:ByteArray) (o':Nat) (ph':Bool),Stp o ph t o' ph'→T.G a o ph st→a+t.size≤T.M→T.G (a+t.size) o' ph' (T.tk st t)
 call:∀ (a o:Nat) (ph:Bool) (st:S) (t:ByteArray) (o':Nat) (ph':Bool) (w:World),Stp o ph t o' ph'→T.G a o ph st→a+t.size≤T.M→T.N≤w.heap.size→T.I st w→Calls Tryz.prog T.F (T.first ++ #[.string t]) w fun e w'=>e=.returned (.tuple #[])∧T.I (T.tk st t) w'∧Kept T.N (fun k=>k=T.p) w w'
theorem slice_ok {s:ByteArray} {a n:Nat} (h:a+n≤s.size):(s.extract a (a+n)).size=n:=by rw [ByteArray.size_extract];omega
set_option maxHeartbeats 2000000 in
theorem word_any {S:Type} (T:Tkr S) (hT:T.Ok) (q a o oc n o':Nat) (ph ph':Bool) (s:ByteArray) (st:S) (w:World) (hs:s.size≤T.M) (hn:a+n≤s.size) (hq:q<T.N) (hqp:q≠T.p) (hN:T.N≤w.heap.size)
  (hR:RdAt w q s a oc T.fv) (hI:T.I st w) (hG:T.G a o ph st) (hS:Stp o ph (s.extract a (a+n)) o' ph') :
  Calls Tryz.prog 276 #[.pointer (some ⟨q,0,none⟩),.int .i64 n] w fun e w'=>e=.returned (.tuple #[])∧RdAt w' q s (a+n) oc T.fv∧T.I (T.tk st (s.extract a (a+n))) w'∧Kept T.N (fun k=>k=T.p∨k=q) w w':=by
 have hsm:=hT.small
 have hsz:=slice_ok hn
 obtain ⟨m,hm⟩:∃ m,a+n=m:=⟨_,rfl⟩
 rw [hm] at hn hS hsz ⊢
 have c0:=hR.c0
 have c1:=hR.c1
 have f1:=hR.fr 1
 have hqlt:=hR.lt
 have hsum:(a:Int)+(n:Int)=(m:Int):=by omega
 obtain ⟨W,hW⟩:∃ W,w.setCell ⟨q,1,none⟩ (.int .i64 (m:Int))=W:=⟨_,rfl⟩
 have hRW:RdAt W q s m oc T.fv:=by rw [←hW];exact hR.set1 m
 have hgW:w.grownBy W (some q):=by rw [←hW];exact grownF_set (grownF_refl w _)
 have hIW:=hT.stay q st w W hq hqp hI hgW
 have HC:Hid (∀ w',Below W.heap.size W w'→Calls Tryz.prog T.F (T.first ++ #[.string (s.extract a m)]) w' fun e w''=>e=.returned (.tuple #[])∧RdAt w'' q s m oc T.fv∧T.I (T.tk st (s.extract a m)) w''∧Kept T.N (fun k=>k=T.p∨k=q) w w''):=by
  intro w' hb
  have hIw':T.I st w':=hT.stay q st W w' hq hqp hIW (grownF_below hb)
  refine (hT.call a o ph st _ o' ph' w' hS hG (by omega) (Nat.le_trans hN (Nat.le_trans hgW.size hb.size)) hIw').mono ?_
  rintro e w'' ⟨rfl,h1,h2⟩
  refine ⟨rfl,?_,h1,?_⟩
  ·exact (hRW.later hb).same (h2.block q hq hqp)
  ·have k1:Kept T.N (fun k=>k=T.p∨k=q) w W:=kept_grown hgW hN (Or.inr rfl)
   have k2:Kept T.N (fun k=>k=T.p∨k=q) W w':=kept_below hb (Nat.le_trans hN hgW.size)
   exact (k1.trans k2).trans (h2.wide fun k e=>Or.inl e)
 have d0:=hRW.c0
 have d1:=hRW.c1
 have d3:=hRW.c3
 have hent:=hT.ent
 have hm1:(a:Int)≤(m:Int):=by omega
 have hm2:(m:Int)≤(s.size:Int):=by omega
 have hm3:(m:Int)≤4611686018427387904:=by omega
 have HT:Hid T.Ok:=hT
 clear hIW hgW hRW hI hG hS hR hT
 unfold Tkr.fv at *
 go_enter Tryz.func276,Tryz.ntmps276
 go_wp2_with fail
 clear c0 c1 f1 hW hsum
 go_region_law ((go_simp;refine (HC.out _ (by go_grown)).mono ?_;rintro e w2 ⟨rfl,k1,k2,k3⟩))
 all_goals (go_end0;exact ⟨rfl,k1,k2,k3⟩)
end Go.Proofs.YtfngmnhkhfgmjagGreatDoor
namespace Go.Proofs
open Go.Shelf
def Tryz.lays137_ren:Go.Shelf.Ren:=⟨fun | 137=>240 | 217=>255 | 266=>272 | n=>n,fun | 9=>9 | 5=>5 | 3=>3 | n=>n,fun | n=>n⟩
theorem Tryz.lays137:Go.Proofs.Lays.n137 Tryz.prog Tryz.lays137_ren:={
 mixed:=by kernel_rfl
 f137:=Tryz.func240.trans (congrArg some (by kernel_rfl))
 f217:=Tryz.func255.trans (congrArg some (by kernel_rfl))
 f266:=Tryz.func272.trans (congrArg some (by kernel_rfl))
 t3:=Tryz.underlying3
 a3:=Tryz.isAgg3
 z3:=Tryz.sizeOf3
 v3:=Tryz.zeroValue3
 t5:=Tryz.underlying5
 a5:=Tryz.isAgg5
 z5:=Tryz.sizeOf5
 v5:=Tryz.zeroValue5
 t9:=Tryz.underlying9
 a9:=Tryz.isAgg9
 z9:=Tryz.sizeOf9
 v9:=Tryz.zeroValue9 }
namespace YtfngmnhkhfgmjagGreatDoor
open Go.ChangeShapes Go.WideShapes Go.ChangeAt Go.RowKit
theorem signI_fin:∀ c:Fin 256,Lib.indexByte [43,45,42,47] c.val.toUInt8=signI (c.val:Int):=by decide +kernel
theorem signI_eq (c:Int) (h0:0≤c) (h1:c<256):Lib.indexByte [43,45,42,47] c.toNat.toUInt8=signI c:=by
 have h:=signI_fin ⟨c.toNat,by omega⟩
 simp only at h
 rw [h,show ((c.toNat:Nat):Int)=c by omega]
theorem signix_any (c:Int) (h0:0≤c) (h1:c<256) (w:World):Calls Tryz.prog 240 #[.string ⟨#[43,45,42,47]⟩,.int .u8 c] w fun e w'=>e=.returned (.int .i64 (signI c))∧Below w.heap.size w w' :=
 (Any.strings_IndexByte Tryz.lays137 ⟨#[43,45,42,47]⟩ c w).mono fun e w' ⟨he,hw⟩=>⟨by rw [he,signI_eq c h0 h1],by rw [hw];exact Below.refl _ _⟩
theorem byteN_range (s:ByteArray) (i:Nat):0≤byteN s i∧byteN s i<256:=by
 unfold byteN
 have:=(s.data.toList.getD i 0).toNat_lt
 omega
theorem nextB_range (s:ByteArray) (i:Nat):0≤nextB s i∧nextB s i<256:=by
 unfold nextB
 split
 ·omega
 ·exact byteN_range s i
end YtfngmnhkhfgmjagGreatDoor
end Go.Proofs
namespace Go.Proofs.YtfngmnhkhfgmjagGreatDoor
open Go.ChangeShapes Go.WideShapes Go.ChangeAt Go.RowKit
set_option maxRecDepth 20000
theorem next_zero {s:ByteArray} {a:Nat} (h:nextB s a≠0) (ha:a≤s.size):a<s.size:=by
 by_cases e:a=s.size
 ·subst e;simp [nextB] at h
 ·omega
theorem tail_size (s:ByteArray) (a:Nat):(s.extract a s.size).size=s.size-a:=by rw [ByteArray.size_extract];omega
set_option maxHeartbeats 1000000 in
theorem rdigits_any (q a o:Nat) (s:ByteArray) (tv:Value) (w:World) (hs:s.size≤4611686018427387904) (ha:a≤s.size) (hR:RdAt w q s a o tv):Calls Tryz.prog 278 #[.pointer (some ⟨q,0,none⟩)] w fun e w'=>e=.returned (.int .i64 (digitsN s a))∧Below w.heap.size w w':=by
 have hnx:=next_any q a o s tv w ha hR
 unfold digitsN
 by_cases h48:nextB s a=48
 ·rw [h48] at hnx
  rw [if_pos h48]
  clear h48
  go_enter Tryz.func278,Tryz.ntmps278
  go_wp2_with fail
  refine hnx.mono ?_
  rintro e w1 ⟨rfl,hb1⟩
  go_wp2_with fail
  go_ret
  exact ⟨rfl,hb1⟩
 ·have h48':(nextB s a == 48)=false:=by simpa using h48
  rw [if_neg h48]
  generalize nextB s a=c at *
  have HL:Hid (∀ w',Below w.heap.size w w'→Calls Tryz.prog 279 #[.string (s.extract a s.size),.func (.func 277) #[] #[]] w' fun e w''=>e=.returned (.int .i64 (leadN digB (s.extract a s.size)))∧Below w'.heap.size w' w''):=fun w' _=>leadd_any _ w' (by rw [tail_size];omega)
  generalize leadN digB (s.extract a s.size)=n at HL ⊢
  have HM:Hid (((min n 7:Nat):Int)=min (n:Int) 7):=by show _=_;omega
  have ha':(a:Int)≤(s.size:Int):=by omega
  have hs':(s.size:Int)≤4611686018427387904:=by omega
  go_enter Tryz.func278,Tryz.ntmps278
  go_wp2_with fail
  refine hnx.mono ?_
  rintro e w1 ⟨rfl,hb1⟩
  have hR1:=hR.later hb1
  have c0:=hR1.c0
  have c1:=hR1.c1
  have HB:Hid (Below w.heap.size w w1):=hb1
  clear hR1 hb1 hR
  go_wp2_with fail
  go_region_law ((go_simp;refine (HL.out _ (onB HB.out (by go_grown))).mono ?_;rintro e w2 ⟨rfl,hb2⟩;have hN2:=onB (onB (W0:=w) HB.out (by go_grown)) hb2;clear hb2))
  all_goals (go_wp2_with fail;all_goals (go_ret;refine ⟨?_,hN2⟩;first | (rw [HM.out];rfl) | (rw [show min n 7=7 by omega];rfl) | (rw [show min n 7=n by omega];rfl)))
structure RdS {S:Type} (T:Tkr S) (w:World) (q:Nat) (s:ByteArray) (ph:Bool) (r:Rd S):Prop where
 rd:RdAt w q s r.at' r.opn T.fv
 mem:T.I r.st w
 good:T.G r.at' r.opn ph r.st
 inn:r.at'≤s.size
 few:r.opn≤r.at'
 room:T.N≤w.heap.size
section
variable {S:Type} {T:Tkr S} {w w':World} {q:Nat} {s:ByteArray} {ph:Bool} {r:Rd S}
theorem RdS.later (h:RdS T w q s ph r) (hT:T.Ok) (hq:q<T.N) (hqp:q≠T.p) (hB:Below w.heap.size w w'):RdS T w' q s ph r :=
 ⟨h.rd.later hB,hT.stay q _ _ _ hq hqp h.mem (grownF_below hB),h.good,h.inn,h.few,Nat.le_trans h.room hB.size⟩
end
def mis (a:Nat):List PanicEntry:=[{ v:=.iface 315 (.int .i64 a),recovered:=false }]
def Went {S:Type} (T:Tkr S) (q:Nat) (s:ByteArray) (ph:Bool) (w:World) (x:Rd S×Bool) (e:Ending) (w':World):Prop:=Kept T.N (fun k=>k=T.p∨k=q) w w'∧((x.2=true∧e=.returned (.tuple #[])∧RdS T w' q s ph x.1)∨(x.2=false∧e=.panicked (mis x.1.at')))
section
variable {S:Type} {T:Tkr S} {w w':World} {q:Nat} {s:ByteArray} {ph:Bool} {x:Rd S×Bool} {r:Rd S}
theorem Went.ok (h:x=(r,true)) (hk:Kept T.N (fun k=>k=T.p∨k=q) w w') (hr:RdS T w' q s ph r):Went T q s ph w x (.returned (.tuple #[])) w':=⟨hk,Or.inl ⟨by rw [h],rfl,by rw [h];exact hr⟩⟩
theorem Went.no (h:x=(r,false)) (hk:Kept T.N (fun k=>k=T.p∨k=q) w w'):Went T q s ph w x (.panicked (mis r.at')) w':=⟨hk,Or.inr ⟨by rw [h],by rw [h]⟩⟩
end
theorem byteN_ext {s:ByteArray} {a b i:Nat} (h:i<b-a):byteN (s.extract a b) i=byteN s (a+i):=by
 unfold byteN
 rw [Lib.extract_data]
 simp only [List.getD,List.getElem?_take,List.getElem?_drop]
 rw [if_pos h]
theorem next_at {s:ByteArray} {a:Nat} (h:a<s.size):nextB s a=byteN s a:=by rw [nextB,if_neg (by omega)]
theorem sgn_stp {s:ByteArray} {a o:Nat} (ha:a≤s.size) (h : ¬ signI (nextB s a)<0):a+1≤s.size∧Stp o true (s.extract a (a+1)) o false:=by
 have hlt:a<s.size:=next_zero (fun e=>h (by rw [e];decide)) ha
 refine ⟨hlt,Stp.sgn o _ (slice_ok hlt) ?_⟩
 rw [byteN_ext (by omega),Nat.add_zero,←next_at hlt]
 omega
theorem RdS.word {S:Type} {T:Tkr S} {w w':World} {q n o o':Nat} {s:ByteArray} {ph ph':Bool} {r:Rd S} (hT:T.Ok) (hs:s.size≤T.M) (hn:r.at'+n≤s.size) (hG:T.G r.at' o ph r.st) (hS:Stp o ph (s.extract r.at' (r.at'+n)) o' ph') (ho:o'≤r.at'+n) (hN:T.N≤w.heap.size)
  (h1:RdAt w' q s (r.at'+n) o' T.fv) (h2:T.I (T.tk r.st (s.extract r.at' (r.at'+n))) w') (h3:Kept T.N (fun k=>k=T.p∨k=q) w w'):RdS T w' q s ph' (wordR s T.tk n ⟨r.at',o',r.st⟩):=by
 refine ⟨h1,h2,?_,hn,ho,Nat.le_trans hN h3.size⟩
 have h:=hT.step r.at' o ph r.st _ o' ph' hS hG (by rw [slice_ok hn];omega)
 rw [slice_ok hn] at h
 exact h
set_option maxHeartbeats 1000000 in
theorem sign_any {S:Type} (T:Tkr S) (hT:T.Ok) (q:Nat) (s:ByteArray) (r:Rd S) (w:World) (hs:s.size≤T.M) (hq:q<T.N) (hqp:q≠T.p) (hR:RdS T w q s true r) :
  Calls Tryz.prog 259 #[.pointer (some ⟨q,0,none⟩)] w fun e w'=>Went T q s false w (signR s T.tk r) e w':=by
 have hnx:=next_any q r.at' r.opn s T.fv w hR.inn hR.rd
 have hix0:=signix_any (nextB s r.at') (nextB_range s r.at').1 (nextB_range s r.at').2
 have HR:Hid (RdS T w q s true r):=hR
 have HT:Hid T.Ok:=hT
 by_cases h:signI (nextB s r.at')<0
 ·have h2:signR s T.tk r=(r,false):=by rw [signR,if_pos h]
  have H2:Hid (signR s T.tk r=(r,false)):=h2
  clear h2
  generalize signI (nextB s r.at')=c at *
  generalize nextB s r.at'=b at *
  clear hR hT
  go_enter Tryz.func259,Tryz.ntmps259
  go_wp2_with fail
  refine hnx.mono ?_
  rintro e w1 ⟨rfl,hb1⟩
  go_wp2_with fail
  refine (hix0 _).mono ?_
  rintro e w2 ⟨rfl,hb2⟩
  have HB:Hid (Below w.heap.size w w2):=onB hb1 hb2
  have HR2:Hid (RdS T w2 q s true r):=HR.out.later HT.out hq hqp HB.out
  clear hb1 hb2
  go_wp2_with fail
  refine (stop_any q r.at' r.opn s T.fv w2 HR2.out.rd).mono ?_
  rintro e w3 ⟨rfl,hb3⟩
  go_wp2_with fail
  exact ⟨rfl,Went.no H2.out (kept_below (onB HB.out hb3) HR.out.room)⟩
 ·obtain ⟨k1,k2⟩:=sgn_stp (o:=r.opn) hR.inn h
  have HS:Hid (Stp r.opn true (s.extract r.at' (r.at'+1)) r.opn false):=k2
  have h2:signR s T.tk r=(wordR s T.tk 1 r,true):=by rw [signR,if_neg h]
  have H2:Hid (signR s T.tk r=(wordR s T.tk 1 r,true)):=h2
  clear h2
  have h':0≤signI (nextB s r.at'):=by omega
  generalize signI (nextB s r.at')=c at *
  generalize nextB s r.at'=b at *
  clear hR hT k2 h
  go_enter Tryz.func259,Tryz.ntmps259
  go_wp2_with fail
  refine hnx.mono ?_
  rintro e w1 ⟨rfl,hb1⟩
  go_wp2_with fail
  refine (hix0 _).mono ?_
  rintro e w2 ⟨rfl,hb2⟩
  have HB:Hid (Below w.heap.size w w2):=onB hb1 hb2
  have HR2:Hid (RdS T w2 q s true r):=HR.out.later HT.out hq hqp HB.out
  clear hb1 hb2
  go_wp2_with fail
  refine (word_any T HT.out q r.at' r.opn r.opn 1 r.opn true false s r.st w2 hs k1 hq hqp HR2.out.room HR2.out.rd HR2.out.mem HR2.out.good HS.out).mono ?_
  rintro e w3 ⟨rfl,g1,g2,g3⟩
  have HK:Hid (Kept T.N (fun k=>k=T.p∨k=q) w w3):=(kept_below HB.out HR.out.room).trans g3
  have HR3:Hid (RdS T w3 q s false (wordR s T.tk 1 r)):=RdS.word (r:=r) (o':=r.opn) HT.out hs k1 HR2.out.good HS.out (by have:=HR2.out.few;omega) HR2.out.room g1 g2 g3
  clear g1 g2 g3
  go_wp2_with fail
  first | go_end0 | skip
  exact Went.ok H2.out HK.out HR3.out
end Go.Proofs.YtfngmnhkhfgmjagGreatDoor
namespace Go.Proofs
open Go.Shelf
def Tryz.laysK_ren:Go.Shelf.Ren:=⟨fun | 25=>246 | n=>n,fun | 0=>0 | 3=>3 | 4=>4 | 5=>5 | 9=>9 | 37=>306 | 47=>323 | n=>n,fun | n=>n⟩
theorem Tryz.laysK:Go.Proofs.LaysPu.n25 Tryz.prog Tryz.laysK_ren:={
 mixed:=by kernel_rfl
 f25:=Tryz.func246.trans (congrArg some (by kernel_rfl))
 t0:=Tryz.underlying0
 a0:=Tryz.isAgg0
 z0:=Tryz.sizeOf0
 v0:=Tryz.zeroValue0
 i0:=by kernel_rfl
 t3:=Tryz.underlying3
 a3:=Tryz.isAgg3
 z3:=Tryz.sizeOf3
 v3:=Tryz.zeroValue3
 i3:=by kernel_rfl
 t4:=Tryz.underlying4
 a4:=Tryz.isAgg4
 z4:=Tryz.sizeOf4
 v4:=Tryz.zeroValue4
 i4:=by kernel_rfl
 t5:=Tryz.underlying5
 a5:=Tryz.isAgg5
 z5:=Tryz.sizeOf5
 v5:=Tryz.zeroValue5
 i5:=by kernel_rfl
 t9:=Tryz.underlying9
 a9:=Tryz.isAgg9
 z9:=Tryz.sizeOf9
 v9:=Tryz.zeroValue9
 i9:=by kernel_rfl
 t37:=Tryz.underlying306
 a37:=Tryz.isAgg306
 z37:=Tryz.sizeOf306
 v37:=Tryz.zeroValue306
 i37:=by kernel_rfl
 t47:=Tryz.underlying323
 a47:=Tryz.isAgg323
 z47:=Tryz.sizeOf323
 v47:=Tryz.zeroValue323
 i47:=by kernel_rfl }
namespace YtfngmnhkhfgmjagGreatDoor
open Go.ChangeShapes Go.WideShapes Go.ChangeAt Go.RowKit
theorem sclone_any (s:ByteArray) (w:World) (hs:s.size≤281474976710656):Calls Tryz.prog 218 #[.string s] w fun e w'=>e=.returned (.string s)∧Below w.heap.size w w':=by
 have h:=AnyPu.stringslite_Clone Tryz.laysK s w hs
 go_enter Tryz.func218,Tryz.ntmps218
 go_wp2_with fail
 refine Calls.mono h ?_
 rintro e w1 ⟨rfl,hb1⟩
 go_wp2_with fail
 go_ret
 exact ⟨rfl,hb1⟩
end YtfngmnhkhfgmjagGreatDoor
end Go.Proofs
namespace Go.Proofs.YtfngmnhkhfgmjagGreatDoor
open Go.ChangeShapes Go.WideShapes Go.ChangeAt Go.RowKit
def joinP (blank:Bool) (ka kb:Int) (r:Int×Int):Int×Int:=if ka=2∨kb=2 then (2,0) else if blank=true then (0,0) else r
def JoinsTo (fb fo:Nat) (ka na kb nb k n:Int) (er:Value):Prop := ∀ (w:World),Calls Tryz.prog 191 #[.agg #[.int .i64 ka,.int .i64 na],.agg #[.int .i64 kb,.int .i64 nb],.func (.func fb) #[] #[],.func (.func fo) #[] #[]] w fun e w'=>e=.returned (.tuple #[.agg #[.int .i64 k,.int .i64 n],er])∧Below w.heap.size w w'
def OpTo (f:Nat) (ka na kb nb k n:Int) (er:Value):Prop := ∀ (w:World),Calls Tryz.prog f #[.agg #[.int .i64 ka,.int .i64 na],.agg #[.int .i64 kb,.int .i64 nb]] w fun e w'=>e=.returned (.tuple #[.agg #[.int .i64 k,.int .i64 n],er])∧Below w.heap.size w w'
theorem joins_yes (fb fo:Nat) (p:Int→Int→Bool) (he:Enters fb) (hp:Blank fb p) (heo:Enters fo) (ka na kb nb:Int) (ha:good ka na=true) (hb:good kb nb=true) (r:Int×Int) (ho:Makes fo na nb r) :
  JoinsTo fb fo ka na kb nb (joinP (p ka kb) ka kb r).1 (joinP (p ka kb) ka kb r).2 .nilIface:=by
 intro w
 unfold joinP
 by_cases hf:ka=2∨kb=2
 ·rw [if_pos hf]
  exact join_fault _ _ ka na kb nb w ha hb (by simp;exact hf)
 ·rw [if_neg hf]
  have hff:((fun k:Int=>k == 2) ka || (fun k:Int=>k == 2) kb)=false:=by simp;omega
  cases hpp:p ka kb
  ·rw [if_neg (by simp)]
   exact join_made fb fo p he hp heo ka na kb nb w ha hb r ho hff hpp
  ·rw [if_pos rfl]
   exact join_blank fb p he hp _ ka na kb nb w ha hb hff hpp
theorem good_bd {k n:Int} (h:good k n=true) : -1000000000000≤n∧n≤1000000000000:=by simp [good] at h;omega
def plusP (ka na kb nb:Int):Int×Int:=joinP (!(ka != 0 || kb != 0)) ka kb (ofP (na+nb))
def minusP (ka na kb nb:Int):Int×Int:=joinP (!(ka != 0 || kb != 0)) ka kb (ofP (na-nb))
def timesP (ka na kb nb:Int):Int×Int:=joinP (ka == 0 || kb == 0) ka kb (ofP (na*nb))
def overP (ka na kb nb:Int):Int×Int:=joinP (ka == 0 || kb == 0) ka kb (quoP na nb)
theorem add_of (ka na kb nb k n:Int) (er:Value) (h:JoinsTo 192 194 ka na kb nb k n er):OpTo 149 ka na kb nb k n er:=by
 intro w
 unfold JoinsTo at h
 go_enter Tryz.func149,Tryz.ntmps149
 go_wp2_with fail
 refine (h _).mono ?_
 rintro e w1 ⟨rfl,hb⟩
 have hB:Below w.heap.size w w1:=Below.trans (by go_grown) (hb.mono (by simp;omega))
 obtain ⟨hc,hf⟩:=bcell hb
 have hz:=bsize hb
 simp at hz
 go_wp2_with fail
 refine bodyPost_ret (v:=.tuple #[.agg #[.int .i64 k,.int .i64 n],er]) (by simp [results,Tryz.results149,go_sem,hc]) rfl ⟨rfl,?_⟩
 go_grown
theorem add_yes (ka na kb nb:Int) (ha:good ka na=true) (hb:good kb nb=true):OpTo 149 ka na kb nb (plusP ka na kb nb).1 (plusP ka na kb nb).2 .nilIface:=by
 obtain ⟨h1,h2⟩:=good_bd ha
 obtain ⟨h3,h4⟩:=good_bd hb
 exact add_of _ _ _ _ _ _ _ (joins_yes _ _ _ both_in both_any plus_in ka na kb nb ha hb _ (plus_any na nb h1 h2 h3 h4))
theorem sub_of (ka na kb nb k n:Int) (er:Value) (h:JoinsTo 192 193 ka na kb nb k n er):OpTo 148 ka na kb nb k n er:=by
 intro w
 unfold JoinsTo at h
 go_enter Tryz.func148,Tryz.ntmps148
 go_wp2_with fail
 refine (h _).mono ?_
 rintro e w1 ⟨rfl,hb⟩
 have hB:Below w.heap.size w w1:=Below.trans (by go_grown) (hb.mono (by simp;omega))
 obtain ⟨hc,hf⟩:=bcell hb
 have hz:=bsize hb
 simp at hz
 go_wp2_with fail
 refine bodyPost_ret (v:=.tuple #[.agg #[.int .i64 k,.int .i64 n],er]) (by simp [results,Tryz.results148,go_sem,hc]) rfl ⟨rfl,?_⟩
 go_grown
theorem sub_yes (ka na kb nb:Int) (ha:good ka na=true) (hb:good kb nb=true):OpTo 148 ka na kb nb (minusP ka na kb nb).1 (minusP ka na kb nb).2 .nilIface:=by
 obtain ⟨h1,h2⟩:=good_bd ha
 obtain ⟨h3,h4⟩:=good_bd hb
 exact sub_of _ _ _ _ _ _ _ (joins_yes _ _ _ both_in both_any minus_in ka na kb nb ha hb _ (minus_any na nb h1 h2 h3 h4))
theorem mul_of (ka na kb nb k n:Int) (er:Value) (h:JoinsTo 248 249 ka na kb nb k n er):OpTo 224 ka na kb nb k n er:=by
 intro w
 unfold JoinsTo at h
 go_enter Tryz.func224,Tryz.ntmps224
 go_wp2_with fail
 refine (h _).mono ?_
 rintro e w1 ⟨rfl,hb⟩
 have hB:Below w.heap.size w w1:=Below.trans (by go_grown) (hb.mono (by simp;omega))
 obtain ⟨hc,hf⟩:=bcell hb
 have hz:=bsize hb
 simp at hz
 go_wp2_with fail
 refine bodyPost_ret (v:=.tuple #[.agg #[.int .i64 k,.int .i64 n],er]) (by simp [results,Tryz.results224,go_sem,hc]) rfl ⟨rfl,?_⟩
 go_grown
theorem mul_yes (ka na kb nb:Int) (ha:good ka na=true) (hb:good kb nb=true):OpTo 224 ka na kb nb (timesP ka na kb nb).1 (timesP ka na kb nb).2 .nilIface:=by
 obtain ⟨h1,h2⟩:=good_bd ha
 obtain ⟨h3,h4⟩:=good_bd hb
 exact mul_of _ _ _ _ _ _ _ (joins_yes _ _ _ one_in one_any product_in ka na kb nb ha hb _ (product_any na nb h1 h2 h3 h4))
theorem div_of (ka na kb nb k n:Int) (er:Value) (h:JoinsTo 248 250 ka na kb nb k n er):OpTo 225 ka na kb nb k n er:=by
 intro w
 unfold JoinsTo at h
 go_enter Tryz.func225,Tryz.ntmps225
 go_wp2_with fail
 refine (h _).mono ?_
 rintro e w1 ⟨rfl,hb⟩
 have hB:Below w.heap.size w w1:=Below.trans (by go_grown) (hb.mono (by simp;omega))
 obtain ⟨hc,hf⟩:=bcell hb
 have hz:=bsize hb
 simp at hz
 go_wp2_with fail
 refine bodyPost_ret (v:=.tuple #[.agg #[.int .i64 k,.int .i64 n],er]) (by simp [results,Tryz.results225,go_sem,hc]) rfl ⟨rfl,?_⟩
 go_grown
theorem div_yes (ka na kb nb:Int) (ha:good ka na=true) (hb:good kb nb=true):OpTo 225 ka na kb nb (overP ka na kb nb).1 (overP ka na kb nb).2 .nilIface:=by
 obtain ⟨h1,h2⟩:=good_bd ha
 obtain ⟨h3,h4⟩:=good_bd hb
 exact div_of _ _ _ _ _ _ _ (joins_yes _ _ _ one_in one_any quotient_in ka na kb nb ha hb _ (quotient_any na nb h1 h2))
end Go.Proofs.YtfngmnhkhfgmjagGreatDoor
namespace Go.Proofs.YtfngmnhkhfgmjagGreatDoor
open Go.ChangeShapes Go.WideShapes Go.ChangeAt Go.RowKit
set_option maxRecDepth 20000
def AskP (fn q r:Nat) (w:World) (n:Nat) (p:Nat→Bool):Prop := ∀ (i:Nat) (w':World),i<n→Below w.heap.size w w'→Calls Tryz.prog fn #[.int .i64 i,.pointer (some ⟨q,0,none⟩),.pointer (some ⟨r,0,none⟩)] w' fun e w''=>e=.returned (.bool (p i))∧Below w'.heap.size w' w''
set_option maxHeartbeats 1000000 in
theorem index_ints (A:Option Addr) (cap:Nat) (L:List Int) (i:Int) (w:World) (hn:L.length≤12) (hL:IntsAt w A cap L):Calls Tryz.prog 212 #[.slice A L.length cap,.int .i64 i] w fun e w'=>e=.returned (.int .i64 (findFrom (fun j=>L.getD j 0 == i) L.length 0))∧Below w.heap.size w w':=by
 obtain ⟨hc,h0 | ⟨b,rfl,hbw,hcell⟩⟩:=hL
 ·subst h0
  simp only [List.length_nil]
  go_enter Tryz.func212,Tryz.ntmps212
  go_wp2_with fail
  refine wp_loop_rounds 1 ?_
  rw [rounds_succ]
  go_wp2_with fail
  go_ret
  exact ⟨rfl,Below.refl _ _⟩
 ·have HC:Hid (∀ j,j<L.length→w.cell? ⟨b,j,none⟩=some (.int .i64 (L.getD j 0))):=hcell
  obtain ⟨p,hp⟩:∃ p:Nat→Bool,p=fun j=>L.getD j 0 == i:=⟨_,rfl⟩
  have HP:Hid (∀ j,p j=(L.getD j 0 == i)):=fun j=>by rw [hp]
  rw [←hp]
  generalize hnn:L.length=n at hn hc HC
  clear hcell hp hnn
  go_enter Tryz.func212,Tryz.ntmps212
  go_wp2_with fail
  go_loopg [8] n (fun g s8 wr => ∃ (k:Nat),k≤n∧g=n-k∧s8=.int .i64 k∧findFrom p (n-k) k=findFrom p n 0∧wr=w)
  case atStart=>exact ⟨0,Nat.zero_le _,rfl,rfl,rfl,rfl⟩
  case round =>
   obtain ⟨k,hk,rfl,rfl,hf,rfl⟩:=hrel
   have HF:Hid (findFrom p (n-k) k=findFrom p n 0):=hf
   clear hf
   by_cases hlt:k<n
   ·have hki:(k:Int)<(n:Int):=by omega
    have hcx:=HC.out k hlt
    have hsk:n-k=(n-(k+1))+1:=by omega
    have hn':(n:Int)≤12:=by omega
    have hpk:=HP.out k
    have HSK:Hid (n-k=(n-(k+1))+1):=hsk
    generalize L.getD k 0=x at hcx hpk
    clear hsk
    cases hb:p k
    ·have HK:Hid (p k=false):=hb
     rw [hb] at hpk
     have hx:(i == x)=false:=by
      have h1:x≠i:=by simpa using hpk.symm
      simpa using fun h:i=x=>h1 h.symm
     clear hb hpk
     go_wp2_with fail
     go_roundg (n-(k+1))
     case measure=>omega
     case rel=>exact ⟨k+1,by omega,rfl,by go_num,by rw [←HF.out,HSK.out,findFrom_miss _ HK.out],rfl⟩
    ·have HK:Hid (p k=true):=hb
     rw [hb] at hpk
     have hx:(i == x)=true:=by
      have h1:x=i:=by simpa using hpk.symm
      simpa using h1.symm
     clear hb hpk
     go_wp2_with fail
     go_ret
     exact ⟨by rw [←HF.out,HSK.out,findFrom_hit _ HK.out];rfl,Below.refl _ _⟩
   ·have hke:k=n:=by omega
    subst hke
    go_wp2_with fail
    go_ret
    exact ⟨by rw [←HF.out,Nat.sub_self];rfl,Below.refl _ _⟩
theorem contains_ints (A:Option Addr) (cap:Nat) (L:List Int) (i:Int) (w:World) (hn:L.length≤12) (hL:IntsAt w A cap L):Calls Tryz.prog 175 #[.slice A L.length cap,.int .i64 i] w fun e w'=>e=.returned (.bool (inB L i))∧Below w.heap.size w w':=by
 have h:=index_ints A cap L i w hn hL
 have HI:Hid (decide (0≤findFrom (fun j=>L.getD j 0 == i) L.length 0)=inB L i):=find_in L i
 generalize findFrom (fun j=>L.getD j 0 == i) L.length 0=f at h HI
 generalize L.length=n at h
 clear hL hn
 go_enter Tryz.func175,Tryz.ntmps175
 go_wp2_with fail
 refine h.mono ?_
 rintro e w1 ⟨rfl,hb1⟩
 go_wp2_with fail
 go_ret
 exact ⟨by rw [←HI.out];rfl,hb1⟩
end Go.Proofs.YtfngmnhkhfgmjagGreatDoor
