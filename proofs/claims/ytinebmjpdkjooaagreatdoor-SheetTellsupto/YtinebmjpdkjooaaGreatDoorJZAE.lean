/-
  What is read of an argument of the types api.Outline and api.Dim: where its dims and members lie, and what they hold.
-/
import Derived.Deep.Slices
import Derived.Deep.Strs
import Derived.Deep.Fields
import Derived.BigQuiet
import Derived.WalkSmall
import Derived.Deep.AppendLies
import Derived.Deep.RegionLaw
import Derived.Deep.DeepCutAuto
import Derived.Deep.OwnRows
import Derived.Lib.Builder
import Derived.Test.YtinebmjpdkjooaaGreatDoorJZAC
import Derived.Test.YtinebmjpdkjooaaGreatDoorJZAD
namespace Go.Proofs.YtinebmjpdkjooaaGreatDoor
open Go Go.ChangeShapes Go.WideShapes Go.ChangeAt Go.RowKit Go.Deep
set_option maxRecDepth 100000
section
variable {H:Type} {enc:TypeId×Value→H} {w:World} {held:Bool}
theorem trod_one {P:Program} {base:Nat} {sp:Nat→Bool} {t:TypeId} {fs:Array Field} {fuel:Nat} {cs:List Value} {x:DataW H×List MemPlace} (ht:P.underlying t=some (.struct fs)) (hone:oneCellFields P fs=true) (h:DataW.trod enc P w base sp held fuel t cs=some x) :
  cs.length=P.cellsOf t∧∃ n,∀ (i:Nat) (f:Field) (v:Value),fs[i]?=some f→cs[i]?=some v→∃ y,DataW.trod enc P w base sp held n f.type [v]=some y:=by
 obtain ⟨xs,n,_,_,hl,hxs,hf⟩:=DataW.trod_struct ht h
 refine ⟨hl,n,fun i f v hi hv=>?_⟩
 obtain ⟨ho,hc⟩:=hone_of hone i f hi
 have hlt:i<fs.size:=(Array.getElem?_eq_some_iff.1 hi).1
 have e:=hf i f hi
 rw [ho,hc] at e
 obtain ⟨hi',hv'⟩:=List.getElem?_eq_some_iff.1 hv
 have ed:(cs.drop i).take 1=[v]:=by rw [List.drop_eq_getElem_cons hi',hv'];rfl
 rw [ed,List.getElem?_eq_getElem (by omega)] at e
 exact ⟨_,e⟩
theorem cellsM:Tryz.prog.cellsOf 46=4:=by kernel_rfl
theorem cellsD:Tryz.prog.cellsOf 43=3:=by kernel_rfl
theorem cellsO:Tryz.prog.cellsOf 24=1:=by kernel_rfl
theorem open_member {base:Nat} {sp:Nat→Bool} {fuel:Nat} {cs:List Value} {x:DataW H×List MemPlace} (h:DataW.trod enc Tryz.prog w base sp held fuel 46 cs=some x) :
  ∃ m:Mem,cs=[.string m.name,.int .i64 m.parent,.int .i64 m.sign,.string m.formula]:=by
 obtain ⟨hl,n,hf⟩:=trod_one Tryz.underlying46 (by kernel_rfl) h
 rw [cellsM] at hl
 match cs,hl with
 | [v0,v1,v2,v3],_ =>
  obtain ⟨y0,h0⟩:=hf 0 _ v0 rfl rfl
  obtain ⟨y1,h1⟩:=hf 1 _ v1 rfl rfl
  obtain ⟨y2,h2⟩:=hf 2 _ v2 rfl rfl
  obtain ⟨y3,h3⟩:=hf 3 _ v3 rfl rfl
  obtain ⟨s0,e0,-,-⟩:=DataW.trod_string Tryz.underlying9 h0
  obtain ⟨n1,e1,-,-⟩:=DataW.trod_int Tryz.underlying3 h1
  obtain ⟨n2,e2,-,-⟩:=DataW.trod_int Tryz.underlying3 h2
  obtain ⟨s3,e3,-,-⟩:=DataW.trod_string Tryz.underlying9 h3
  simp at e0 e1 e2 e3
  exact ⟨⟨s0,n1,n2,s3⟩,by rw [e0,e1,e2,e3]⟩
theorem addr_plain {a:Addr} {k:Nat} {v:Value} (h:w.cell? (a.add k)=some v) (hk:k=0):a=⟨a.block,a.off,none⟩:=by
 subst hk
 have e:(a.add 0)=a:=by simp [Addr.add]
 rw [e] at h
 have:=World.cell?_spot h
 cases a
 simp_all
theorem plain_add (b o k:Nat):(⟨b,o,none⟩:Addr).add k=⟨b,o+k,none⟩:=by
 unfold Addr.add
 by_cases hk:k=0
 ·subst hk;simp
 ·rw [if_neg hk]
theorem open_members {fuel:Nat} {cs:List Value} {x:DataW H×List MemPlace} (h:DataW.trod enc Tryz.prog w 0 (fun _=>true) held fuel 41 cs=some x) :
  ∃ (A:Option Addr) (cap n:Nat) (M:Nat→Mem),cs=[.slice A n cap]∧MemsV w A cap n M:=by
 rcases open_slice Tryz.underlying41 h with ⟨rfl,-⟩ | ⟨a,len,cap,m,n,D,Pl,rfl,-,hl,-,hm,-,hx⟩
 ·exact ⟨none,0,0,fun _=>⟨default,0,0,default⟩,rfl,Nat.le_refl _,Or.inl rfl⟩
 rw [cellsM] at hx
 simp at hm
 subst hm
 haveI:Inhabited Mem:=⟨⟨default,0,0,default⟩⟩
 have each:∀ i,i<len→∃ y:Mem,w.cells? 0 (a.add (i*4)) 4=some [.string y.name,.int .i64 y.parent,.int .i64 y.sign,.string y.formula]:=fun i hi=>by
  obtain ⟨cs',h1,h2⟩:=hx i (by omega)
  obtain ⟨y,rfl⟩:=open_member h2
  exact ⟨y,h1⟩
 obtain ⟨M,hM⟩:=choose_lt each
 refine ⟨some a,_,len,M,rfl,hl,?_⟩
 rcases Nat.eq_zero_or_pos len with h0 | h0
 ·exact Or.inl h0
 right
 have c0:=(World.cells?_some (hM 0 h0)).2.2 0 (by omega)
 rw [add_add] at c0
 have hp:=addr_plain c0 (by omega)
 have hb:=World.block_lt_of_cell? _ _ c0
 refine ⟨a.block,a.off,by rw [←hp],by simpa [Addr.add] using hb,fun i hi=>?_⟩
 have hc:=(World.cells?_some (hM i hi)).2.2
 rw [hp] at hc
 simp only [plain_add,Nat.add_assoc] at hc
 refine ⟨?_,?_,?_,?_⟩
 ·have:=hc 0 (by omega);simpa using this
 ·have:=hc 1 (by omega);simpa [Nat.add_assoc] using this
 ·have:=hc 2 (by omega);simpa [Nat.add_assoc] using this
 ·have:=hc 3 (by omega);simpa [Nat.add_assoc] using this
theorem open_dim {fuel:Nat} {cs:List Value} {x:DataW H×List MemPlace} (h:DataW.trod enc Tryz.prog w 0 (fun _=>true) held fuel 43 cs=some x) :
  ∃ (d:Dm) (A:Option Addr) (c:Nat),cs=[.string d.name,.int .i64 d.solve,.slice A d.n c]∧MemsV w A c d.n d.mem:=by
 obtain ⟨hl,n,hf⟩:=trod_one Tryz.underlying43 (by kernel_rfl) h
 rw [cellsD] at hl
 match cs,hl with
 | [v0,v1,v2],_ =>
  obtain ⟨y0,h0⟩:=hf 0 _ v0 rfl rfl
  obtain ⟨y1,h1⟩:=hf 1 _ v1 rfl rfl
  obtain ⟨y2,h2⟩:=hf 2 _ v2 rfl rfl
  obtain ⟨s0,e0,-,-⟩:=DataW.trod_string Tryz.underlying9 h0
  obtain ⟨n1,e1,-,-⟩:=DataW.trod_int Tryz.underlying3 h1
  obtain ⟨A,cap,k,M,e2,hM⟩:=open_members h2
  simp at e0 e1 e2
  exact ⟨⟨s0,n1,k,M⟩,A,cap,by rw [e0,e1,e2],hM⟩
theorem open_dims {fuel:Nat} {cs:List Value} {x:DataW H×List MemPlace} (h:DataW.trod enc Tryz.prog w 0 (fun _=>true) held fuel 22 cs=some x) :
  ∃ (A0:Option Addr) (cap n:Nat) (D:Nat→Dm) (A:Nat→Option Addr) (C:Nat→Nat),cs=[.slice A0 n cap]∧DimsV w A0 cap n D A C:=by
 rcases open_slice Tryz.underlying22 h with ⟨rfl,-⟩ | ⟨a,len,cap,m,n,D,Pl,rfl,-,hl,-,hm,-,hx⟩
 ·exact ⟨none,0,0,fun _=>⟨default,0,0,fun _=>⟨default,0,0,default⟩⟩,fun _=>none,fun _=>0,rfl,Nat.le_refl _,Or.inl rfl⟩
 rw [cellsD] at hx
 simp at hm
 subst hm
 haveI:Inhabited Dm:=⟨⟨default,0,0,fun _=>⟨default,0,0,default⟩⟩⟩
 have each:∀ i,i<len→∃ y:Dm×Option Addr×Nat,w.cells? 0 (a.add (i*3)) 3=some [.string y.1.name,.int .i64 y.1.solve,.slice y.2.1 y.1.n y.2.2]∧MemsV w y.2.1 y.2.2 y.1.n y.1.mem:=fun i hi=>by
  obtain ⟨cs',h1,h2⟩:=hx i (by omega)
  obtain ⟨d,A,c,rfl,hm⟩:=open_dim h2
  exact ⟨(d,A,c),h1,hm⟩
 obtain ⟨Y,hY⟩:=choose_lt each
 refine ⟨some a,_,len,fun i=>(Y i).1,fun i=>(Y i).2.1,fun i=>(Y i).2.2,rfl,hl,?_⟩
 rcases Nat.eq_zero_or_pos len with h0 | h0
 ·exact Or.inl h0
 right
 have c0:=(World.cells?_some (hY 0 h0).1).2.2 0 (by omega)
 rw [add_add] at c0
 have hp:=addr_plain c0 (by omega)
 have hb:=World.block_lt_of_cell? _ _ c0
 refine ⟨a.block,a.off,by rw [←hp],by simpa [Addr.add] using hb,fun i hi=>?_⟩
 have hc:=(World.cells?_some (hY i hi).1).2.2
 rw [hp] at hc
 simp only [plain_add,Nat.add_assoc] at hc
 refine ⟨?_,?_,?_,(hY i hi).2⟩
 ·have:=hc 0 (by omega);simpa using this
 ·have:=hc 1 (by omega);simpa [Nat.add_assoc] using this
 ·have:=hc 2 (by omega);simpa [Nat.add_assoc] using this
theorem arr1 {α:Type} {a:Array α} (h:a.size=1):∃ x,a=#[x]:=by
 rcases a with ⟨l⟩
 match l,h with
 | [x],_=>exact ⟨x,rfl⟩
theorem open_outline {r:Reach} {b0:Nat} {v:Value} {d:DataW H} {p:List MemPlace} (hv:Value.okWide Tryz.prog w r b0 24 v) (h:DataW.Trod enc Tryz.prog w 0 (fun _=>true) held 24 v d p) :
  ∃ (A0:Option Addr) (cap n:Nat) (D:Nat→Dm) (A:Nat→Option Addr) (C:Nat→Nat),v=.agg #[.slice A0 n cap]∧DimsV w A0 cap n D A C:=by
 obtain ⟨cs,rfl,hsz⟩:=okWide_struct Tryz.underlying24 hv
 obtain ⟨c0,rfl⟩:=arr1 (hsz.trans cellsO)
 obtain ⟨fuel,hf⟩:=h
 obtain ⟨-,n,hy⟩:=trod_one Tryz.underlying24 (by kernel_rfl) hf
 obtain ⟨y0,h0⟩:=hy 0 _ c0 rfl rfl
 obtain ⟨A0,cap,k,D,A,C,e,hD⟩:=open_dims h0
 simp at e
 exact ⟨A0,cap,k,D,A,C,by rw [e],hD⟩
end
def NdsAt (w:World) (b o:Nat) (l:List Nd):Prop:=b<w.heap.size∧∀ k,k<l.length→w.cell? ⟨b,o+k*5,none⟩=some (.int .i64 (l.getD k noN).op)∧w.cell? ⟨b,o+k*5+1,none⟩=some (.int .i64 (l.getD k noN).n)∧w.cell? ⟨b,o+k*5+2,none⟩=some (.string (l.getD k noN).name)∧w.cell? ⟨b,o+k*5+3,none⟩=some (.int .i64 (l.getD k noN).left)∧w.cell? ⟨b,o+k*5+4,none⟩=some (.int .i64 (l.getD k noN).right)
theorem NdsAt.later {w w':World} {b o:Nat} {l:List Nd} (h:NdsAt w b o l) (hB:Below w.heap.size w w'):NdsAt w' b o l:=by
 refine ⟨Nat.lt_of_lt_of_le h.1 hB.size,fun k hk=>?_⟩
 obtain ⟨h1,h2,h3,h4,h5⟩:=h.2 k hk
 exact ⟨(hB.cell (p:=⟨b,o+k*5,none⟩) h.1).trans h1,(hB.cell (p:=⟨b,o+k*5+1,none⟩) h.1).trans h2,(hB.cell (p:=⟨b,o+k*5+2,none⟩) h.1).trans h3,(hB.cell (p:=⟨b,o+k*5+3,none⟩) h.1).trans h4,(hB.cell (p:=⟨b,o+k*5+4,none⟩) h.1).trans h5⟩
def NdsV (w:World) (A:Option Addr) (cap:Nat) (l:List Nd):Prop:=l.length≤cap∧cap≤9223372036854775807∧(l=[]∨∃ b o,A=some ⟨b,o,none⟩∧NdsAt w b o l)
theorem NdsV.later {w w':World} {A:Option Addr} {cap:Nat} {l:List Nd} (h:NdsV w A cap l) (hB:Below w.heap.size w w'):NdsV w' A cap l:=by
 obtain ⟨h1,h0,h2 | ⟨b,o,h2,h3⟩⟩:=h
 ·exact ⟨h1,h0,Or.inl h2⟩
 ·exact ⟨h1,h0,Or.inr ⟨b,o,h2,h3.later hB⟩⟩
theorem NdsV.nil (w:World) (A:Option Addr) (cap:Nat) (h:cap≤9223372036854775807):NdsV w A cap []:=⟨Nat.zero_le _,h,Or.inl rfl⟩
end Go.Proofs.YtinebmjpdkjooaaGreatDoor
namespace Go.Proofs.YtinebmjpdkjooaaGreatDoor
open Go.ChangeShapes Go.WideShapes Go.ChangeAt Go.RowKit
set_option maxRecDepth 20000
theorem isdig_any (c:Int) (w:World):Calls Tryz.prog 245 #[.int .u8 c] w fun e w'=>e=.returned (.bool (digB c))∧Below w.heap.size w w':=by
 unfold digB
 by_cases h1:48≤c
 ·go_enter Tryz.func245,Tryz.ntmps245
  go_wp2
  go_ret
  exact ⟨by simp <;> omega,by go_grown⟩
 ·go_enter Tryz.func245,Tryz.ntmps245
  go_wp2
  go_ret
  exact ⟨by simp <;> omega,by go_grown⟩
theorem islet_any (c:Int) (w:World):Calls Tryz.prog 221 #[.int .u8 c] w fun e w'=>e=.returned (.bool (letB c))∧Below w.heap.size w w':=by
 unfold letB
 by_cases h1:97≤c
 ·go_enter Tryz.func221,Tryz.ntmps221
  go_wp2
  go_ret
  exact ⟨by simp <;> omega,by go_grown⟩
 ·go_enter Tryz.func221,Tryz.ntmps221
  go_wp2
  go_ret
  exact ⟨by simp <;> omega,by go_grown⟩
theorem binds_any (op:Int) (w:World):Calls Tryz.prog 197 #[.int .i64 op] w fun e w'=>e=.returned (.int .i64 (bindN op))∧Below w.heap.size w w':=by
 unfold bindN
 by_cases h3:op=3
 ·subst h3
  go_enter Tryz.func197,Tryz.ntmps197
  go_wp2
  go_ret
  exact ⟨by simp,by go_grown⟩
 by_cases h4:op=4
 ·subst h4
  go_enter Tryz.func197,Tryz.ntmps197
  go_wp2
  go_ret
  exact ⟨by simp,by go_grown⟩
 by_cases h5:op=5
 ·subst h5
  go_enter Tryz.func197,Tryz.ntmps197
  go_wp2
  go_ret
  exact ⟨by simp,by go_grown⟩
 by_cases h6:op=6
 ·subst h6
  go_enter Tryz.func197,Tryz.ntmps197
  go_wp2
  go_ret
  exact ⟨by simp,by go_grown⟩
 rw [if_neg (by omega),if_neg (by omega)]
 go_enter Tryz.func197,Tryz.ntmps197
 go_wp2
 go_ret
 exact ⟨rfl,by go_grown⟩
theorem joins_any (op:Int) (w:World):Calls Tryz.prog 226 #[.int .i64 op] w fun e w'=>e=.returned (.bool (decide (op≠1∧op≠2)))∧Below w.heap.size w w':=by
 by_cases h1:op=1
 ·subst h1
  go_enter Tryz.func226,Tryz.ntmps226
  go_wp2
  go_ret
  exact ⟨by simp,by go_grown⟩
 by_cases h2:op=2
 ·subst h2
  go_enter Tryz.func226,Tryz.ntmps226
  go_wp2
  go_ret
  exact ⟨by simp,by go_grown⟩
 go_enter Tryz.func226,Tryz.ntmps226
 go_wp2
 go_ret
 exact ⟨by simp [h1,h2],by go_grown⟩
def brk (t:ByteArray) (b:Bool):ByteArray:=if b then ⟨#[40]⟩ ++ t ++ ⟨#[41]⟩ else t
theorem byteN_get (s:ByteArray) (k:Nat) (h:k<s.size):((s[k]'h).toNat:Int)=byteN s k:=by
 unfold byteN
 rw [List.getD,List.getElem?_eq_getElem (by simpa using h)]
 rfl
theorem lead_miss {p:Int→Bool} {t:ByteArray} {f i:Nat} (h:p (byteN t i)=false):leadTo p t (f+1) i=i:=by simp [leadTo,h]
theorem lead_hit {p:Int→Bool} {t:ByteArray} {f i:Nat} (h:p (byteN t i)=true):leadTo p t (f+1) i=leadTo p t f (i+1):=by simp [leadTo,h]
set_option maxHeartbeats 1000000 in
theorem lead_any (p:Int→Bool) (F:Nat) (hent:∀ (args:Array Value) (w:World),(callFunc F args).run Tryz.prog w=.ok (.enter F args) w) (hF:∀ (c:Int) (w:World),Calls Tryz.prog F #[.int .u8 c] w fun e w'=>e=.returned (.bool (p c))∧Below w.heap.size w w') (t:ByteArray) (w:World) (hs:t.size≤4611686018427387904):Calls Tryz.prog 247 #[.string t,.func (.func F) #[] #[]] w fun e w'=>e=.returned (.int .i64 (leadN p t))∧Below w.heap.size w w':=by
 have HF:Hid (∀ (c:Int) (w:World),Calls Tryz.prog F #[.int .u8 c] w fun e w'=>e=.returned (.bool (p c))∧Below w.heap.size w w'):=hF
 unfold leadN
 clear hF
 go_enter Tryz.func247,Tryz.ntmps247
 go_wp2_with fail
 go_loopg [8] t.size (fun g s8 wr => ∃ (k:Nat),k≤t.size∧g=t.size-k∧s8=.int .i64 k∧leadTo p t (t.size-k) k=leadTo p t t.size 0∧Below w.heap.size w wr)
 case atStart=>exact ⟨0,Nat.zero_le _,rfl,rfl,rfl,Below.refl _ _⟩
 case round =>
  obtain ⟨k,hk,rfl,rfl,hf,hBw⟩:=hrel
  have HQ:Hid (leadTo p t (t.size-k) k=leadTo p t t.size 0):=hf
  have HW:Hid (Below w.heap.size w wr):=hBw
  clear hf hBw
  by_cases hlt:k<t.size
  ·have hki:(k:Int)<(t.size:Int):=by omega
   have hs':(t.size:Int)≤4611686018427387904:=by omega
   have HSK:Hid (t.size-k=(t.size-(k+1))+1):=by show _=_;omega
   have hbd:=HF.out (byteN t k)
   have hby:=byteN_get t k hlt
   cases hb:p (byteN t k)
   ·rw [hb] at hbd
    have HK:Hid (p (byteN t k)=false):=hb
    clear hb
    generalize byteN t k=c at hbd hby
    go_wp2_with fail
    refine (hbd _).mono ?_
    rintro e w1 ⟨rfl,hb1⟩
    go_wp2_with fail
    go_ret
    exact ⟨by rw [←HQ.out,HSK.out,lead_miss HK.out];rfl,onB HW.out hb1⟩
   ·rw [hb] at hbd
    have HK:Hid (p (byteN t k)=true):=hb
    clear hb
    generalize byteN t k=c at hbd hby
    go_wp2_with fail
    refine (hbd _).mono ?_
    rintro e w1 ⟨rfl,hb1⟩
    go_wp2_with fail
    go_roundg (t.size-(k+1))
    case measure=>omega
    case rel=>exact ⟨k+1,by omega,rfl,by go_num,by rw [←HQ.out,HSK.out,lead_hit HK.out],onB HW.out hb1⟩
  ·have hke:k=t.size:=by omega
   subst hke
   go_wp2_with fail
   go_ret
   exact ⟨by rw [←HQ.out,Nat.sub_self];rfl,HW.out⟩
theorem ent_dig (args:Array Value) (w:World):(callFunc 245 args).run Tryz.prog w=.ok (.enter 245 args) w:=by simp [go_sem]
theorem ent_let (args:Array Value) (w:World):(callFunc 221 args).run Tryz.prog w=.ok (.enter 221 args) w:=by simp [go_sem]
theorem leadd_any (t:ByteArray) (w:World) (hs:t.size≤4611686018427387904):Calls Tryz.prog 247 #[.string t,.func (.func 245) #[] #[]] w fun e w'=>e=.returned (.int .i64 (leadN digB t))∧Below w.heap.size w w':=lead_any digB 245 ent_dig isdig_any t w hs
theorem leadl_any (t:ByteArray) (w:World) (hs:t.size≤4611686018427387904):Calls Tryz.prog 247 #[.string t,.func (.func 221) #[] #[]] w fun e w'=>e=.returned (.int .i64 (leadN letB t))∧Below w.heap.size w w':=lead_any letB 221 ent_let islet_any t w hs
theorem below_drewN {B:Nat} {a w:World} (h:Below B a w) (n:Nat):Below B a (w.drewN n):=h.trans ⟨rfl,rfl,rfl,Nat.le_refl _,fun _ _=>rfl⟩
def RdAt (w:World) (q:Nat) (s:ByteArray) (a o:Nat) (tv:Value):Prop:=w.heap[q]?=some (.cells #[.string s,.int .i64 a,.int .i64 o,tv] 256 (0,0))
section
variable {w w':World} {q a o:Nat} {s:ByteArray} {tv:Value}
theorem RdAt.lt (h:RdAt w q s a o tv):q<w.heap.size:=(Array.getElem?_eq_some_iff.1 h).1
theorem RdAt.c0 (h:RdAt w q s a o tv):w.cell? ⟨q,0,none⟩=some (.string s):=by unfold RdAt at h;simp [World.cell?,h]
theorem RdAt.c1 (h:RdAt w q s a o tv):w.cell? ⟨q,1,none⟩=some (.int .i64 a):=by unfold RdAt at h;simp [World.cell?,h]
theorem RdAt.c2 (h:RdAt w q s a o tv):w.cell? ⟨q,2,none⟩=some (.int .i64 o):=by unfold RdAt at h;simp [World.cell?,h]
theorem RdAt.c3 (h:RdAt w q s a o tv):w.cell? ⟨q,3,none⟩=some tv:=by unfold RdAt at h;simp [World.cell?,h]
theorem RdAt.fr (h:RdAt w q s a o tv) (j:Nat):w.frozen? ⟨q,j,none⟩=false:=by unfold RdAt at h;simp [World.frozen?,h]
theorem RdAt.later (h:RdAt w q s a o tv) (hB:Below w.heap.size w w'):RdAt w' q s a o tv:=(hB.block q h.lt).trans h
theorem RdAt.same (h:RdAt w q s a o tv) (hB:w'.heap[q]?=w.heap[q]?):RdAt w' q s a o tv:=hB.trans h
theorem RdAt.set1 (h:RdAt w q s a o tv) (n:Nat):RdAt (w.setCell ⟨q,1,none⟩ (.int .i64 n)) q s n o tv:=by
 unfold RdAt at *
 rw [setCell_eq_setRow w q 1 _ _ (0,0) _ h,setRow_heap w q _ _ _ _ h]
 rfl
theorem RdAt.set2 (h:RdAt w q s a o tv) (n:Nat):RdAt (w.setCell ⟨q,2,none⟩ (.int .i64 n)) q s a n tv:=by
 unfold RdAt at *
 rw [setCell_eq_setRow w q 2 _ _ (0,0) _ h,setRow_heap w q _ _ _ _ h]
 rfl
end
set_option maxHeartbeats 1000000 in
theorem next_any (q a o:Nat) (s:ByteArray) (tv:Value) (w:World) (ha:a≤s.size) (hR:RdAt w q s a o tv):Calls Tryz.prog 243 #[.pointer (some ⟨q,0,none⟩)] w fun e w'=>e=.returned (.int .u8 (nextB s a))∧Below w.heap.size w w':=by
 have c0:=hR.c0
 have c1:=hR.c1
 have hq:=hR.lt
 clear hR
 by_cases he:a=s.size
 ·subst he
  have h0:nextB s s.size=0:=by simp [nextB]
  rw [h0]
  go_enter Tryz.func243,Tryz.ntmps243
  go_wp2_with fail
  go_quiet (fail)
  go_wp2_with fail
  go_ret
  exact ⟨rfl,below_drewN (Below.refl _ _) _⟩
 ·have hlt:a<s.size:=by omega
  have h0:nextB s a=byteN s a:=by simp [nextB,he]
  have hne : ¬ (a:Int)=(s.size:Int):=by omega
  have hby:=byteN_get s a hlt
  rw [h0]
  go_enter Tryz.func243,Tryz.ntmps243
  go_wp2_with fail
  go_quiet (fail)
  go_wp2_with fail
  go_quiet (fail)
  go_wp2_with fail
  go_ret
  exact ⟨rfl,below_drewN (below_drewN (Below.refl _ _) _) _⟩
theorem stop_any (q a o:Nat) (s:ByteArray) (tv:Value) (w:World) (hR:RdAt w q s a o tv):Calls Tryz.prog 224 #[.pointer (some ⟨q,0,none⟩)] w fun e w'=>e=.panicked [{ v:=.iface 254 (.int .i64 a),recovered:=false }]∧Below w.heap.size w w':=by
 have c1:=hR.c1
 clear hR
 go_enter Tryz.func224,Tryz.ntmps224
 go_wp2
 exact ⟨rfl,rfl,Below.refl _ _⟩
structure Kept (N:Nat) (X:Nat→Prop) (w w':World):Prop where
 os:w'.os=w.os
 tape:w'.tape=w.tape
 output:w'.output=w.output
 size:w.heap.size≤w'.heap.size
 block:∀ k,k<N→¬ X k→w'.heap[k]?=w.heap[k]?
section
variable {N:Nat} {X Y:Nat→Prop} {w w' w'':World}
theorem Kept.refl (N:Nat) (X:Nat→Prop) (w:World):Kept N X w w:=⟨rfl,rfl,rfl,Nat.le_refl _,fun _ _ _=>rfl⟩
theorem Kept.trans (h:Kept N X w w') (k:Kept N X w' w''):Kept N X w w'':=⟨k.os.trans h.os,k.tape.trans h.tape,k.output.trans h.output,Nat.le_trans h.size k.size,fun i hi hx=>(k.block i hi hx).trans (h.block i hi hx)⟩
theorem Kept.wide (h:Kept N X w w') (hx:∀ k,X k→Y k):Kept N Y w w':=⟨h.os,h.tape,h.output,h.size,fun i hi hy=>h.block i hi fun e=>hy (hx i e)⟩
theorem kept_below (h:Below w.heap.size w w') (hN:N≤w.heap.size):Kept N X w w':=⟨h.os,h.tape,h.output,h.size,fun i hi _=>h.block i (Nat.lt_of_lt_of_le hi hN)⟩
theorem kept_grown {q:Nat} (h:w.grownBy w' (some q)) (hN:N≤w.heap.size) (hX:X q):Kept N X w w':=⟨h.os,h.tape,h.output,h.size,fun i hi hx=>h.block i (Nat.lt_of_lt_of_le hi hN) fun e=>hx (by cases e;exact hX)⟩
end
theorem hid_of {p:Prop} (h:p):Hid p:=h
theorem setCell_off (w:World) (q j k:Nat) (v:Value) (h:k≠q):(w.setCell ⟨q,j,none⟩ v).heap[k]?=w.heap[k]?:=by
 simp only [World.setCell]
 rw [Array.getElem?_modify,if_neg (fun e=>h e.symm)]
theorem grownF_refl (w:World) (r:Option Nat):w.grownBy w r:=⟨rfl,rfl,rfl,Nat.le_refl _,fun _ _ _=>rfl⟩
theorem grownF_below {w w':World} {r:Option Nat} (h:Below w.heap.size w w'):w.grownBy w' r:=⟨h.os,h.tape,h.output,h.size,fun i hi _=>h.block i hi⟩
theorem grownF_set {w w':World} {q j:Nat} {v:Value} (h:w.grownBy w' (some q)):w.grownBy (w'.setCell ⟨q,j,none⟩ v) (some q) :=
 ⟨h.os,h.tape,h.output,by simpa using h.size,fun k hk hr=>by
  have hne:k≠q:=fun e=>hr (by rw [e])
  exact (setCell_off w' q j k v hne).trans (h.block k hk hr)⟩
inductive Stp:Nat→Bool→ByteArray→Nat→Bool→Prop
 | opn (o:Nat) (t:ByteArray):t.size=1→byteN t 0=40→Stp o false t (o+1) false
 | cls (o:Nat) (t:ByteArray):t.size=1→byteN t 0=41→Stp (o+1) true t o true
 | num (o:Nat) (t:ByteArray):1≤t.size→t.size≤7→(∀ i,i<t.size→digB (byteN t i)=true)→Stp o false t o true
 | nam (o:Nat) (t:ByteArray):1≤t.size→(∀ i,i<t.size→letB (byteN t i)=true)→Stp o false t o true
 | sgn (o:Nat) (t:ByteArray):t.size=1→0≤signI (byteN t 0)→Stp o true t o false
structure Tkr (S:Type) where
 N:Nat
 p:Nat
 M:Nat
 F:Nat
 first:Array Value
 tk:S→ByteArray→S
 I:S→World→Prop
 G:Nat→Nat→Bool→S→Prop
def Tkr.fv {S:Type} (T:Tkr S):Value:=.func (.func T.F) T.first #[]
structure Tkr.Ok {S:Type} (T:Tkr S):Prop where
 small:T.M≤4611686018427387904
 ent:∀ (args:Array Value) (w:World),(callFunc T.F args).run Tryz.prog w=.ok (.enter T.F args) w
 stay:∀ (q:Nat) (st:S) (w w':World),q<T.N→q≠T.p→T.I st w→w.grownBy w' (some q)→T.I st w'
 step:∀ (a o:Nat) (ph:Bool) (st:S) (t:ByteArray) (o':Nat) (ph':Bool),Stp o ph t o' ph'→T.G a o ph st→a+t.size≤T.M→T.G (a+t.size) o' ph' (T.tk st t)
 call:∀ (a o:Nat) (ph:Bool) (st:S) (t:ByteArray) (o':Nat) (ph':Bool) (w:World),Stp o ph t o' ph'→T.G a o ph st→a+t.size≤T.M→T.N≤w.heap.size→T.I st w→Calls Tryz.prog T.F (T.first ++ #[.string t]) w fun e w'=>e=.returned (.tuple #[])∧T.I (T.tk st t) w'∧Kept T.N (fun k=>k=T.p) w w'
theorem slice_ok {s:ByteArray} {a n:Nat} (h:a+n≤s.size):(s.extract a (a+n)).size=n:=by rw [ByteArray.size_extract];omega
set_option maxHeartbeats 2000000 in
theorem word_any {S:Type} (T:Tkr S) (hT:T.Ok) (q a o oc n o':Nat) (ph ph':Bool) (s:ByteArray) (st:S) (w:World) (hs:s.size≤T.M) (hn:a+n≤s.size) (hq:q<T.N) (hqp:q≠T.p) (hN:T.N≤w.heap.size)
  (hR:RdAt w q s a oc T.fv) (hI:T.I st w) (hG:T.G a o ph st) (hS:Stp o ph (s.extract a (a+n)) o' ph') :
  Calls Tryz.prog 244 #[.pointer (some ⟨q,0,none⟩),.int .i64 n] w fun e w'=>e=.returned (.tuple #[])∧RdAt w' q s (a+n) oc T.fv∧T.I (T.tk st (s.extract a (a+n))) w'∧Kept T.N (fun k=>k=T.p∨k=q) w w':=by
 have hsm:=hT.small
 have hsz:=slice_ok hn
 obtain ⟨m,hm⟩:∃ m,a+n=m:=⟨_,rfl⟩
 rw [hm] at hn hS hsz ⊢
 have c0:=hR.c0
 have c1:=hR.c1
 have f1:=hR.fr 1
 have hqlt:=hR.lt
 have hsum:(a:Int)+(n:Int)=(m:Int):=by omega
 obtain ⟨W,hW⟩:∃ W,w.setCell ⟨q,1,none⟩ (.int .i64 (m:Int))=W:=⟨_,rfl⟩
 have hRW:RdAt W q s m oc T.fv:=by rw [←hW];exact hR.set1 m
 have hgW:w.grownBy W (some q):=by rw [←hW];exact grownF_set (grownF_refl w _)
 have hIW:=hT.stay q st w W hq hqp hI hgW
 have HC:Hid (∀ w',Below W.heap.size W w'→Calls Tryz.prog T.F (T.first ++ #[.string (s.extract a m)]) w' fun e w''=>e=.returned (.tuple #[])∧RdAt w'' q s m oc T.fv∧T.I (T.tk st (s.extract a m)) w''∧Kept T.N (fun k=>k=T.p∨k=q) w w''):=by
  intro w' hb
  have hIw':T.I st w':=hT.stay q st W w' hq hqp hIW (grownF_below hb)
  refine (hT.call a o ph st _ o' ph' w' hS hG (by omega) (Nat.le_trans hN (Nat.le_trans hgW.size hb.size)) hIw').mono ?_
  rintro e w'' ⟨rfl,h1,h2⟩
  refine ⟨rfl,?_,h1,?_⟩
  ·exact (hRW.later hb).same (h2.block q hq hqp)
  ·have k1:Kept T.N (fun k=>k=T.p∨k=q) w W:=kept_grown hgW hN (Or.inr rfl)
   have k2:Kept T.N (fun k=>k=T.p∨k=q) W w':=kept_below hb (Nat.le_trans hN hgW.size)
   exact (k1.trans k2).trans (h2.wide fun k e=>Or.inl e)
 have d0:=hRW.c0
 have d1:=hRW.c1
 have d3:=hRW.c3
 have hent:=hT.ent
 have hm1:(a:Int)≤(m:Int):=by omega
 have hm2:(m:Int)≤(s.size:Int):=by omega
 have hm3:(m:Int)≤4611686018427387904:=by omega
 have HT:Hid T.Ok:=hT
 clear hIW hgW hRW hI hG hS hR hT
 unfold Tkr.fv at *
 go_enter Tryz.func244,Tryz.ntmps244
 go_wp2_with fail
 clear c0 c1 f1 hW hsum
 go_region_law ((go_simp;refine (HC.out _ (by go_grown)).mono ?_;rintro e w2 ⟨rfl,k1,k2,k3⟩))
 all_goals (go_end0;exact ⟨rfl,k1,k2,k3⟩)
end Go.Proofs.YtinebmjpdkjooaaGreatDoor
namespace Go.Proofs.YtinebmjpdkjooaaGreatDoor
open Go Go.ChangeShapes Go.WideShapes Go.ChangeAt Go.RowKit
def atC:List Nat→Code→Code
 | [],c=>c
 | 0 :: r,.seq a _=>atC r a
 | 1 :: r,.seq _ b=>atC r b
 | 2 :: r,.cond _ x _=>atC r x
 | 5 :: r,.cond _ _ y=>atC r y
 | 3 :: r,.block _ c=>atC r c
 | 4 :: r,.loop c=>atC r c
 | _,c=>c
def FrK (N M:Nat) (T:Array Value) (s:Nat→Value):Prop:=T.size=N∧T.toList.take M=(List.range M).map s
def upG (s:Nat→Value) (k:Nat) (v:Value):Nat→Value:=fun i=>if i=k then v else s i
theorem frK_open {N M:Nat} {T:Array Value} {s:Nat→Value} (h:FrK N M T s) (hM:M≤N):∃ x:Nat→Value,T=((List.range M).map s ++ ((List.range (N-M)).map fun i=>x (i+M))).toArray:=by
 obtain ⟨h1,h2⟩:=h
 refine ⟨fun i=>T.getD i (.bool false),?_⟩
 rw [←h2]
 have h6:((List.range (N-M)).map fun i=>T.getD (i+M) (.bool false))=T.toList.drop M:=by
  refine List.ext_getElem (by simp [h1]) fun i h3 h4=>?_
  have h7:M+i<T.size:=by simp at h4;omega
  simp [Array.getD,Nat.add_comm i M,h7]
 rw [h6,List.take_append_drop]
theorem wp_block_n {P:Program} {id:Nat} {b:Code} {K:Act→World→Prop} {Q:Exit→Act→World→Prop} {a:Act} {w:World} (h:∀ Q',b.wp P (Exit.then K Q') a w):(Code.block id b).wp P (Exit.then K Q) a w :=
 wp_block (wp_mono (h (Exit.inBlock id (Exit.then K Q))) (by intro e a w h;cases e <;> exact h))
theorem for_wp {N M:Nat} {P:Program} {id id':Nat} {t b st:Code} {c:Operand} (n:Nat) (tb:Nat→Bool) (hn:tb n=false) (I I':Nat→(Nat→Value)→World→Prop)
  (ht:∀ k T s w,k≤n→FrK N M T s→I k s w→∀ K Q,(∀ T',FrK N M T' s→Act.eval ⟨T',[]⟩ c=.bool (tb k)→K ⟨T',[]⟩ w)→t.wp P (Exit.then K Q) ⟨T,[]⟩ w)
  (hb:∀ k T s w,k<n→tb k=true→FrK N M T s→I k s w→∀ K Q,(∀ T' s' w',FrK N M T' s'→I' k s' w'→K ⟨T',[]⟩ w')→b.wp P (Exit.then K Q) ⟨T,[]⟩ w)
  (hs:∀ k T s w,k<n→FrK N M T s→I' k s w→∀ K Q,(∀ T' s' w',FrK N M T' s'→I (k+1) s' w'→K ⟨T',[]⟩ w')→st.wp P (Exit.then K Q) ⟨T,[]⟩ w)
  {T:Array Value} {s:Nat→Value} {w:World} (hF:FrK N M T s) (h0:I 0 s w) {J:Act→World→Prop} {Q:Exit→Act→World→Prop}
  (hJ:∀ k T' s' w',k≤n→tb k=false→FrK N M T' s'→I k s' w'→J ⟨T',[]⟩ w') :
  (Code.block id (.loop (.seq (.seq t (.cond c .skip (.exit id))) (.seq (.block id' b) st)))).wp P (Exit.then J Q) ⟨T,[]⟩ w:=by
 refine wp_block (wp_loop_ghost (fun g a w => ∃ k T s,g=n-k∧k≤n∧a=⟨T,[]⟩∧FrK N M T s∧I k s w) n ⟨0,T,s,rfl,Nat.zero_le _,rfl,hF,h0⟩ ?_)
 rintro g a w ⟨k,T,s,rfl,hk,rfl,hF,hI⟩
 refine wp_seq (wp_seq (ht k T s w hk hF hI _ _ fun T1 hF1 he=>?_))
 cases htb:tb k
 ·rw [htb] at he
  refine wp_cond_false he (wp_exit ?_)
  show (if id=id then _ else _)
  rw [if_pos rfl]
  exact hJ k T1 s w hk htb hF1 hI
 ·have hkn:k<n:=by
   rcases Nat.lt_or_eq_of_le hk with h | h
   ·exact h
   ·rw [h,hn] at htb;cases htb
  rw [htb] at he
  refine wp_cond_true he (wp_skip ?_)
  show Code.wp P (.seq (.block id' b) st) _ _ _
  refine wp_seq (wp_block_n fun Q'=>hb k T1 s w hkn htb hF1 hI _ Q' fun T2 s2 w2 hF2 hI2=>hs k T2 s2 w2 hkn hF2 hI2 _ _ fun T3 s3 w3 hF3 hI3=>?_)
  exact ⟨n-(k+1),by omega,k+1,T3,s3,rfl,by omega,rfl,hF3,hI3⟩
def QR (Rt:Act→World→Prop):Exit→Act→World→Prop
 | .ret,a,w=>Rt a w
 | _,_,_=>False
theorem wp_qr {P:Program} {c:Code} {K:Act→World→Prop} {Rt:Act→World→Prop} {Q:Exit→Act→World→Prop} {a:Act} {w:World} (h:c.wp P (Exit.then K (QR Rt)) a w) (hQ:∀ a w,Rt a w→Q .ret a w):c.wp P (Exit.then K Q) a w :=
 wp_mono h fun e a w h=>by cases e <;> first | exact h | exact hQ _ _ h | exact h.elim
theorem wp_qb {P:Program} {id:Nat} {c:Code} {K:Act→World→Prop} {Rt:Act→World→Prop} {a:Act} {w:World} (h:c.wp P (Exit.then K (QR Rt)) a w):(Code.block id c).wp P (Exit.then K (QR Rt)) a w :=
 wp_block (wp_mono h fun e a w h=>by cases e <;> first | exact h | exact h.elim)
theorem for_wpr {N M:Nat} {P:Program} {id id':Nat} {t b st:Code} {c:Operand} (n:Nat) (tb:Nat→Bool) (hn:tb n=false) (I I':Nat→(Nat→Value)→World→Prop) {Rt:Act→World→Prop}
  (ht:∀ k T s w,k≤n→FrK N M T s→I k s w→∀ K Q,(∀ T',FrK N M T' s→Act.eval ⟨T',[]⟩ c=.bool (tb k)→K ⟨T',[]⟩ w)→t.wp P (Exit.then K Q) ⟨T,[]⟩ w)
  (hb:∀ k T s w,k<n→tb k=true→FrK N M T s→I k s w→∀ K,(∀ T' s' w',FrK N M T' s'→I' k s' w'→K ⟨T',[]⟩ w')→b.wp P (Exit.then K (QR Rt)) ⟨T,[]⟩ w)
  (hs:∀ k T s w,k<n→FrK N M T s→I' k s w→∀ K Q,(∀ T' s' w',FrK N M T' s'→I (k+1) s' w'→K ⟨T',[]⟩ w')→st.wp P (Exit.then K Q) ⟨T,[]⟩ w)
  {T:Array Value} {s:Nat→Value} {w:World} (hF:FrK N M T s) (h0:I 0 s w) {J:Act→World→Prop}
  (hJ:∀ k T' s' w',k≤n→tb k=false→FrK N M T' s'→I k s' w'→J ⟨T',[]⟩ w') :
  (Code.block id (.loop (.seq (.seq t (.cond c .skip (.exit id))) (.seq (.block id' b) st)))).wp P (Exit.then J (QR Rt)) ⟨T,[]⟩ w:=by
 refine wp_block (wp_loop_ghost (fun g a w => ∃ k T s,g=n-k∧k≤n∧a=⟨T,[]⟩∧FrK N M T s∧I k s w) n ⟨0,T,s,rfl,Nat.zero_le _,rfl,hF,h0⟩ ?_)
 rintro g a w ⟨k,T,s,rfl,hk,rfl,hF,hI⟩
 refine wp_seq (wp_seq (ht k T s w hk hF hI _ _ fun T1 hF1 he=>?_))
 cases htb:tb k
 ·rw [htb] at he
  refine wp_cond_false he (wp_exit ?_)
  show (if id=id then _ else _)
  rw [if_pos rfl]
  exact hJ k T1 s w hk htb hF1 hI
 ·have hkn:k<n:=by
   rcases Nat.lt_or_eq_of_le hk with h | h
   ·exact h
   ·rw [h,hn] at htb;cases htb
  rw [htb] at he
  refine wp_cond_true he (wp_skip ?_)
  show Code.wp P (.seq (.block id' b) st) _ _ _
  refine wp_seq (wp_qr (wp_qb (hb k T1 s w hkn htb hF1 hI _ fun T2 s2 w2 hF2 hI2=>hs k T2 s2 w2 hkn hF2 hI2 _ _ fun T3 s3 w3 hF3 hI3=>?_)) fun _ _ h=>h)
  exact ⟨n-(k+1),by omega,k+1,T3,s3,rfl,by omega,rfl,hF3,hI3⟩
def Ag (X:List Nat) (s s':Nat→Value):Prop := ∀ i,i∉X→s' i=s i
theorem Ag.refl (X:List Nat) (s:Nat→Value):Ag X s s:=fun _ _=>rfl
theorem Ag.up {X:List Nat} {s s':Nat→Value} {k:Nat} {v:Value} (h:Ag X s s') (hk:k∈X):Ag X s (upG s' k v):=fun i hi=>by
 unfold upG
 rw [if_neg (fun e:i=k=>hi (by rw [e];exact hk))]
 exact h i hi
theorem Ag.trans {X:List Nat} {s s' s'':Nat→Value} (h:Ag X s s') (k:Ag X s' s''):Ag X s s'':=fun i hi=>(k i hi).trans (h i hi)
theorem Ag.wide {X Y:List Nat} {s s':Nat→Value} (h:Ag X s s') (hx:∀ i∈X,i∈Y):Ag Y s s':=fun i hi=>h i fun e=>hi (hx i e)
theorem upG_at (s:Nat→Value) (k:Nat) (v:Value):upG s k v k=v:=if_pos rfl
theorem upG_off (s:Nat→Value) {k i:Nat} (v:Value) (h:i≠k):upG s k v i=s i:=if_neg h
end Go.Proofs.YtinebmjpdkjooaaGreatDoor
namespace Go.Proofs.YtinebmjpdkjooaaGreatDoor
def numTo (D:Nat→Dm) (P:Nat→Nat):Nat→Nat
 | 0=>0
 | k+1=>numTo D P k*(D k).n+P k
theorem numTo_lt {D:Nat→Dm} {P:Nat→Nat} (k:Nat) (h:∀ j,j<k→P j<(D j).n):numTo D P k<prodN D k:=by
 induction k with
 | zero=>exact Nat.one_pos
 | succ k ih =>
  have h1:=ih fun j hj=>h j (by omega)
  have h2:=h k (by omega)
  rw [numTo,prodN]
  have h3:(numTo D P k+1)*(D k).n≤prodN D k*(D k).n:=Nat.mul_le_mul_right _ h1
  rw [Nat.add_mul] at h3
  omega
def cutB (c:UInt8):List UInt8→List (List UInt8)
 | []=>[[]]
 | x :: t=>if x=c then [] :: cutB c t else match cutB c t with
  | []=>[[x]]
  | a :: r=>(x :: a) :: r
def joinB (c:UInt8):List (List UInt8)→List UInt8
 | []=>[]
 | [a]=>a
 | a :: b :: r=>a ++ c :: joinB c (b :: r)
theorem cutB_ne (c:UInt8) (s:List UInt8):cutB c s≠[]:=by
 cases s with
 | nil=>simp [cutB]
 | cons x t =>
  rw [cutB]
  split
  ·simp
  ·split <;> simp
theorem joinB_cons (c:UInt8) (a:List UInt8) {r:List (List UInt8)} (h:r≠[]):joinB c (a :: r)=a ++ c :: joinB c r:=by
 cases r with
 | nil=>exact absurd rfl h
 | cons b r=>rfl
theorem join_cut (c:UInt8) (s:List UInt8):joinB c (cutB c s)=s:=by
 induction s with
 | nil=>rfl
 | cons x t ih =>
  rw [cutB]
  split
  ·rename_i h;rw [joinB_cons c [] (cutB_ne c t),ih,h];rfl
  ·cases h:cutB c t with
   | nil=>exact absurd h (cutB_ne c t)
   | cons a r =>
    rw [h] at ih
    cases r with
    | nil=>simp only [joinB] at ih ⊢;rw [ih]
    | cons b r=>simp only [joinB,List.cons_append] at ih ⊢;rw [ih]
theorem cut_none {c:UInt8} {a:List UInt8} (h:c∉a):cutB c a=[a]:=by
 induction a with
 | nil=>rfl
 | cons x t ih =>
  simp only [List.mem_cons,not_or] at h
  rw [cutB,if_neg (fun e=>h.1 e.symm),ih h.2]
theorem cut_ahead {c:UInt8} {a:List UInt8} (h:c∉a) (s:List UInt8):cutB c (a ++ c :: s)=a :: cutB c s:=by
 induction a with
 | nil=>simp [cutB]
 | cons x t ih =>
  simp only [List.mem_cons,not_or] at h
  rw [List.cons_append,cutB,if_neg (fun e=>h.1 e.symm),ih h.2]
def outP (D:Nat→Dm) (L:List Int) (i:Nat):Bool:=decide (L.getD i 0<0) || decide (((D i).n:Int)≤L.getD i 0)
def shapeErr (D:Nat→Dm) (n:Nat) (L:List Int):Int:=if L.length≠n then 3 else if 0≤findFrom (outP D L) n 0 then 1 else 0
def placeErr (D:Nat→Dm) (n:Nat) (L:List Int):Int:=if (allErr D n).2.2≠0 then (allErr D n).2.2 else shapeErr D n L
theorem sh0 {D:Nat→Dm} {n:Nat} {L:List Int} (h:L.length≠n):shapeErr D n L=3:=by unfold shapeErr;rw [if_pos h]
theorem sh1 {D:Nat→Dm} {n:Nat} {L:List Int} (h:L.length=n) (h1:0≤findFrom (outP D L) n 0):shapeErr D n L=1:=by unfold shapeErr;rw [if_neg (by simpa using h),if_pos h1]
theorem sh2 {D:Nat→Dm} {n:Nat} {L:List Int} (h:L.length=n) (h1 : ¬ 0≤findFrom (outP D L) n 0):shapeErr D n L=0:=by unfold shapeErr;rw [if_neg (by simpa using h),if_neg h1]
theorem pe0 {D:Nat→Dm} {n:Nat} {L:List Int} (h:(allErr D n).2.2≠0):placeErr D n L=(allErr D n).2.2:=by unfold placeErr;rw [if_pos h]
theorem pe1 {D:Nat→Dm} {n:Nat} {L:List Int} (h:(allErr D n).2.2=0):placeErr D n L=shapeErr D n L:=by unfold placeErr;rw [if_neg (by simpa using h)]
structure InO (D:Nat→Dm) (n:Nat) (L:List Int):Prop where
 right:(allErr D n).2.2=0
 len:L.length=n
 lo:∀ i,i<n→0≤L.getD i 0
 hi:∀ i,i<n→L.getD i 0<((D i).n:Int)
theorem allErr_some {D:Nat→Dm} {n:Nat} (h:(allErr D n).2.2=0):1≤n∧n≤4∧prodN D n≤3000∧∀ i,i<n→1≤(D i).n∧(D i).n≤12:=by
 have h4:=allErr_right h
 unfold allErr at h
 split at h
 ·simp at h
 ·split at h
  ·simp at h
  ·split at h
   ·rename_i h3;exact absurd h h3
   ·split at h
    ·simp at h
    ·rename_i a b c d
     exact ⟨by omega,by omega,by omega,fun i hi=>⟨(dimErr_right (h4.2 i hi)).2.1,(dimErr_right (h4.2 i hi)).2.2.1⟩⟩
theorem inO_of {D:Nat→Dm} {n:Nat} {L:List Int} (h:placeErr D n L=0):InO D n L:=by
 unfold placeErr at h
 split at h
 ·rename_i h1;exact absurd h h1
 ·rename_i h1
  unfold shapeErr at h
  split at h
  ·cases h
  ·split at h
   ·cases h
   ·rename_i h2 h3
    have hn:∀ i,i<n→outP D L i=false:=fun i hi=>by
     rcases findFrom_cases (outP D L) n 0 with ⟨_,h4⟩ | ⟨k,h4,_⟩
     ·exact h4 i (Nat.zero_le _) (by omega)
     ·rw [h4] at h3;omega
    exact ⟨by simpa using h1,by simpa using h2,fun i hi=>by have:=hn i hi;simp [outP,-List.getD_eq_getElem?_getD] at this;omega,fun i hi=>by have:=hn i hi;simp [outP,-List.getD_eq_getElem?_getD] at this;omega⟩
theorem InO.ok {D:Nat→Dm} {n:Nat} {L:List Int} (h:InO D n L):placeErr D n L=0:=by
 rw [pe1 h.right,sh2 h.len]
 rw [findFrom_none]
 ·decide
 ·intro j _ hj
  have h1:=h.lo j (by omega)
  have h2:=h.hi j (by omega)
  simp [outP,-List.getD_eq_getElem?_getD]
  omega
def numI (D:Nat→Dm) (L:List Int):Nat→Int
 | 0=>0
 | k+1=>numI D L k*((D k).n:Int)+L.getD k 0
theorem numI_nat {D:Nat→Dm} {L:List Int} (k:Nat) (h:∀ i,i<k→0≤L.getD i 0):numI D L k=(numTo D (fun i=>(L.getD i 0).toNat) k:Int):=by
 induction k with
 | zero=>rfl
 | succ k ih =>
  have:=h k (by omega)
  rw [numI,numTo,ih fun i hi=>h i (by omega),Int.natCast_add,Int.natCast_mul,Int.toNat_of_nonneg this]
theorem prodN_small {D:Nat→Dm} {k:Nat} (h:∀ j,j<k→(D j).n≤12) (hk:k≤4):prodN D k≤20736:=by
 have h1:=prodN_le h
 have h2:12 ^ k≤12 ^ 4:=Nat.pow_le_pow_right (by decide) hk
 have h3:(12:Nat) ^ 4=20736:=by decide
 omega
theorem numI_bound {D:Nat→Dm} {n:Nat} {L:List Int} (h:InO D n L) {k:Nat} (hk:k≤n):0≤numI D L k∧numI D L k<(prodN D k:Int)∧prodN D k≤20736:=by
 obtain ⟨_,h4,_,hd⟩:=allErr_some h.right
 rw [numI_nat k fun i hi=>h.lo i (by omega)]
 have h1:=numTo_lt (D:=D) (P:=fun i=>(L.getD i 0).toNat) k fun j hj=>by
  have:=h.lo j (by omega)
  have:=h.hi j (by omega)
  omega
 refine ⟨by omega,by omega,prodN_small (fun j hj=>(hd j (by omega)).2) (by omega)⟩
def nameB (D:Nat→Dm) (L:List Int) (i:Nat):ByteArray:=((D i).mem (L.getD i 0).toNat).name
def textTo (D:Nat→Dm) (L:List Int):Nat→List UInt8
 | 0=>[]
 | k+1=>textTo D L k ++ ((if k=0 then [] else [46]) ++ (nameB D L k).data.toList)
def nameL (D:Nat→Dm) (L:List Int) (k:Nat):List (List UInt8):=(List.range k).map fun i=>(nameB D L i).data.toList
def textV (D:Nat→Dm) (n:Nat) (L:List Int):ByteArray:=if placeErr D n L=0 then ⟨(textTo D L n).toArray⟩ else ⟨#[]⟩
theorem joinB_snoc (c:UInt8) (l:List (List UInt8)) (x:List UInt8):joinB c (l ++ [x])=joinB c l ++ ((if l.length=0 then [] else [c]) ++ x):=by
 induction l with
 | nil=>simp [joinB]
 | cons a r ih =>
  rw [List.cons_append,joinB_cons c a (by simp),ih]
  cases r with
  | nil=>simp [joinB]
  | cons b r=>rw [joinB_cons c a (by simp)];simp
theorem text_join (D:Nat→Dm) (L:List Int) (k:Nat):textTo D L k=joinB 46 (nameL D L k):=by
 induction k with
 | zero=>rfl
 | succ k ih=>rw [textTo,nameL,List.range_succ,List.map_append,List.map_singleton,joinB_snoc,ih];simp [nameL]
theorem name_good {s:ByteArray} (h:nameErr s=0):(46:UInt8)∉s.data.toList∧s.size≤8:=by
 unfold nameErr at h
 split at h
 ·cases h
 ·split at h
  ·cases h
  ·rename_i h1 h2
   refine ⟨fun hm=>?_,by omega⟩
   obtain ⟨i,hi,he⟩:=List.getElem_of_mem hm
   have hsz:s.data.toList.length=s.size:=by simp
   rcases findFrom_cases (badByte s) s.size 0 with ⟨_,h4⟩ | ⟨k,h4,_⟩
   ·have h5:=h4 i (Nat.zero_le _) (by omega)
    have h6:byteN s i=46:=by
     unfold byteN
     rw [List.getD,List.getElem?_eq_getElem hi,Option.getD_some,he]
     decide
    rw [badByte,h6] at h5
    exact absurd h5 (by decide)
   ·rw [h4] at h2;omega
theorem mem_name {M:Nat→Mem} {i:Nat} (h:memErr M i=0):nameErr (M i).name=0:=by
 unfold memErr at h
 split at h
 ·simp at h
 ·rename_i h1;simpa using h1
theorem InO.name {D:Nat→Dm} {n:Nat} {L:List Int} (h:InO D n L) {i:Nat} (hi:i<n):(46:UInt8)∉(nameB D L i).data.toList∧(nameB D L i).size≤8:=by
 have h1:=(allErr_right h.right).2 i hi
 have h2:=h.lo i hi
 have h3:=h.hi i hi
 exact name_good (mem_name ((dimErr_right h1).2.2.2 _ (by omega)))
theorem InO.short {D:Nat→Dm} {n:Nat} {L:List Int} (h:InO D n L) {k:Nat} (hk:k≤n):(textTo D L k).length≤9*k:=by
 induction k with
 | zero=>exact Nat.le_refl _
 | succ k ih =>
  have h1:=ih (by omega)
  have h2:=(h.name (i:=k) (by omega)).2
  have h3:(nameB D L k).data.toList.length=(nameB D L k).size:=by simp
  rw [textTo,List.length_append,List.length_append]
  split <;> simp_all <;> omega
def pieces (s:ByteArray):List ByteArray:=(cutB 46 s.data.toList).map fun l=>⟨l.toArray⟩
def pieceB (s:ByteArray) (i:Nat):ByteArray:=(pieces s).getD i ⟨#[]⟩
def pk (D:Nat→Dm) (s:ByteArray) (i:Nat):Int:=findFrom (fun j=>same ((D i).mem j).name (pieceB s i)) (D i).n 0
def noneB (D:Nat→Dm) (s:ByteArray) (i:Nat):Bool:=decide (pk D s i<0)
def readErr (D:Nat→Dm) (n:Nat) (s:ByteArray):Int:=if (pieces s).length≠n then 2 else if 0≤findFrom (noneB D s) n 0 then 5 else 0
def parseErr (D:Nat→Dm) (n:Nat) (s:ByteArray):Int:=if (allErr D n).2.2≠0 then (allErr D n).2.2 else readErr D n s
def readL (D:Nat→Dm) (s:ByteArray) (k:Nat):List Int:=(List.range k).map (pk D s)
def parseL (D:Nat→Dm) (n:Nat) (s:ByteArray):List Int:=if parseErr D n s=0 then readL D s n else []
theorem rd0 {D:Nat→Dm} {n:Nat} {s:ByteArray} (h:(pieces s).length≠n):readErr D n s=2:=by unfold readErr;rw [if_pos h]
theorem rd1 {D:Nat→Dm} {n:Nat} {s:ByteArray} (h:(pieces s).length=n) (h1:0≤findFrom (noneB D s) n 0):readErr D n s=5:=by unfold readErr;rw [if_neg (by simpa using h),if_pos h1]
theorem rd2 {D:Nat→Dm} {n:Nat} {s:ByteArray} (h:(pieces s).length=n) (h1 : ¬ 0≤findFrom (noneB D s) n 0):readErr D n s=0:=by unfold readErr;rw [if_neg (by simpa using h),if_neg h1]
theorem pa0 {D:Nat→Dm} {n:Nat} {s:ByteArray} (h:(allErr D n).2.2≠0):parseErr D n s=(allErr D n).2.2:=by unfold parseErr;rw [if_pos h]
theorem pa1 {D:Nat→Dm} {n:Nat} {s:ByteArray} (h:(allErr D n).2.2=0):parseErr D n s=readErr D n s:=by unfold parseErr;rw [if_neg (by simpa using h)]
theorem readL_len (D:Nat→Dm) (s:ByteArray) (k:Nat):(readL D s k).length=k:=by simp [readL]
theorem readL_at {D:Nat→Dm} {s:ByteArray} {k i:Nat} (h:i<k):(readL D s k).getD i 0=pk D s i:=by simp [readL,List.getD,h]
theorem parse_in {D:Nat→Dm} {n:Nat} {s:ByteArray} (h:parseErr D n s=0):(allErr D n).2.2=0∧(pieces s).length=n∧∀ i,i<n→0≤pk D s i:=by
 unfold parseErr at h
 split at h
 ·rename_i h1;exact absurd h h1
 ·rename_i h1
  unfold readErr at h
  split at h
  ·cases h
  ·split at h
   ·cases h
   ·rename_i h2 h3
    refine ⟨by simpa using h1,by simpa using h2,fun i hi=>?_⟩
    rcases findFrom_cases (noneB D s) n 0 with ⟨_,h4⟩ | ⟨k,h4,_⟩
    ·have:=h4 i (Nat.zero_le _) (by omega)
     simp [noneB] at this
     exact this
    ·rw [h4] at h3;omega
theorem pk_some {D:Nat→Dm} {s:ByteArray} {i:Nat} (h:0≤pk D s i):pk D s i<((D i).n:Int)∧same ((D i).mem (pk D s i).toNat).name (pieceB s i)=true:=by
 unfold pk at h ⊢
 rcases findFrom_cases (fun j=>same ((D i).mem j).name (pieceB s i)) (D i).n 0 with ⟨h1,_⟩ | ⟨k,h1,_,h3,h4,_⟩
 ·rw [h1] at h;omega
 ·rw [h1]
  exact ⟨by omega,by simpa using h4⟩
theorem same_data {s t:ByteArray} (h:same s t=true):s.data.toList=t.data.toList:=by
 have h1:s.toList=t.toList:=by simpa [same] using h
 rwa [Lib.toList_data,Lib.toList_data] at h1
theorem pieceB_at {s:ByteArray} {i:Nat} (h:i<(pieces s).length):(pieceB s i).data.toList=(cutB 46 s.data.toList).getD i []:=by
 have h2:i<(cutB 46 s.data.toList).length:=by simpa [pieces] using h
 simp [pieceB,pieces,List.getD,h2]
theorem read_text {D:Nat→Dm} {n:Nat} {s:ByteArray} (h:parseErr D n s=0):textTo D (readL D s n) n=s.data.toList:=by
 obtain ⟨_,h2,h3⟩:=parse_in h
 rw [text_join]
 have e:nameL D (readL D s n) n=cutB 46 s.data.toList:=by
  apply List.ext_getElem
  ·simp [nameL];simpa [pieces] using h2.symm
  ·intro i h4 h5
   simp [nameL] at h4
   have h6:=same_data (pk_some (h3 i h4)).2
   rw [pieceB_at (by omega)] at h6
   simp only [nameL,List.getElem_map,List.getElem_range]
   unfold nameB
   rw [readL_at h4,h6]
   simp [List.getD,h5]
 rw [e,join_cut]
end Go.Proofs.YtinebmjpdkjooaaGreatDoor
namespace Go.Proofs.YtinebmjpdkjooaaGreatDoor
open Go.ChangeShapes Go.WideShapes Go.ChangeAt Go.RowKit
set_option maxRecDepth 20000
def PlAt (w:World) (A:Option Addr) (cap:Nat) (L:List Int):Prop:=L.length≤cap∧(L=[]∨∃ b o,A=some ⟨b,o,none⟩∧b<w.heap.size∧∀ j,j<L.length→w.cell? ⟨b,o+j,none⟩=some (.int .i64 (L.getD j 0)))
theorem PlAt.later {w w':World} {A:Option Addr} {cap:Nat} {L:List Int} (h:PlAt w A cap L) (hB:Below w.heap.size w w'):PlAt w' A cap L:=by
 obtain ⟨h1,h2 | ⟨b,o,h2,h3,h4⟩⟩:=h
 ·exact ⟨h1,Or.inl h2⟩
 ·exact ⟨h1,Or.inr ⟨b,o,h2,Nat.lt_of_lt_of_le h3 hB.size,fun j hj=>(hB.cell (p:=⟨b,o+j,none⟩) h3).trans (h4 j hj)⟩⟩
theorem PlAt.nil (w:World) (A:Option Addr) (cap:Nat):PlAt w A cap []:=⟨Nat.zero_le _,Or.inl rfl⟩
def IntB (w:World) (g:Nat) (L:List Int):Prop:=w.heap[g]?=some (.cells (L.map (Value.int .i64)).toArray 3 (0,0))
theorem IntB.lt {w:World} {g:Nat} {L:List Int} (h:IntB w g L):g<w.heap.size:=(Array.getElem?_eq_some_iff.1 h).1
theorem IntB.cell {w:World} {g:Nat} {L:List Int} (h:IntB w g L) {j:Nat} (hj:j<L.length):w.cell? ⟨g,j,none⟩=some (.int .i64 (L.getD j 0)):=by
 rw [Lib.cell_of_heap h]
 simp [List.getD,hj]
theorem IntB.frozen {w:World} {g:Nat} {L:List Int} (h:IntB w g L) (j:Nat):w.frozen? ⟨g,j,none⟩=false:=Lib.frozen_of_heap h j
theorem IntB.later {w w':World} {g:Nat} {L:List Int} (h:IntB w g L) (hB:Below w.heap.size w w'):IntB w' g L:=(hB.block g h.lt).trans h
theorem IntB.set {w:World} {g:Nat} {L:List Int} (h:IntB w g L) (j:Nat) (x:Int):IntB (w.setCell ⟨g,j,none⟩ (.int .i64 x)) g (L.set j x):=by
 unfold IntB at *
 have e:(L.set j x).map (Value.int .i64)=(L.map (Value.int .i64)).set j (.int .i64 x):=by rw [List.map_set]
 simp [World.setCell,Array.getElem?_modify,h,e]
theorem made_ints (n:Nat):madeCells #[.int .i64 0] n=((List.replicate n (0:Int)).map (Value.int .i64)).toArray:=by
 apply Array.ext
 ·simp [madeCells]
 ·intro i h1 h2
  simp [madeCells,Nat.mod_one]
theorem IntB.made (w:World) (n:Nat):IntB (w.alloc (.cells (madeCells #[.int .i64 0] n) 3)) w.heap.size (List.replicate n 0):=by
 unfold IntB
 rw [made_ints]
 exact heap_alloc_new w _
theorem Tryz.infoIntP:(Tryz.prog.info? 3).map (fun i=>(i.zero,i.size,i.bytes))=some (some (.int .i64 0),1,8):=by kernel_rfl
theorem checko_any (A0:Option Addr) (cap n:Nat) (D:Nat→Dm) (A:Nat→Option Addr) (C:Nat→Nat) (w:World) (hM:DimsV w A0 cap n D A C):Calls Tryz.prog 65 #[.agg #[.slice A0 n cap]] w fun e w'=>e=.returned (errV (allErr D n).2.2)∧Below w.heap.size w w':=by
 have hB0:=ownOut_below w A0 n cap 24
 have h:=all_any A0 cap n D A C (ownOut w A0 n cap 24) (hM.later hB0)
 have HB0:Hid (Below w.heap.size w (ownOut w A0 n cap 24)):=hB0
 clear hM hB0
 generalize errV (allErr D n).2.2=v at h
 generalize (allErr D n).1=x at h
 generalize (allErr D n).2.1=y at h
 go_enter Tryz.func65,Tryz.ntmps65
 go_wp2_with fail
 refine h.mono ?_
 rintro e w1 ⟨rfl,hb1⟩
 go_wp2_with fail
 go_ret
 exact ⟨rfl,onB HB0.out hb1⟩
def AskP (fn q r:Nat) (w:World) (n:Nat) (p:Nat→Bool):Prop := ∀ (i:Nat) (w':World),i<n→Below w.heap.size w w'→Calls Tryz.prog fn #[.int .i64 i,.pointer (some ⟨q,0,none⟩),.pointer (some ⟨r,0,none⟩)] w' fun e w''=>e=.returned (.bool (p i))∧Below w'.heap.size w' w''
set_option maxHeartbeats 1000000 in
theorem index_ints (A:Option Addr) (cap:Nat) (L:List Int) (i:Int) (w:World) (hn:L.length≤12) (hL:IntsAt w A cap L):Calls Tryz.prog 129 #[.slice A L.length cap,.int .i64 i] w fun e w'=>e=.returned (.int .i64 (findFrom (fun j=>L.getD j 0 == i) L.length 0))∧Below w.heap.size w w':=by
 obtain ⟨hc,h0 | ⟨b,rfl,hbw,hcell⟩⟩:=hL
 ·subst h0
  simp only [List.length_nil]
  go_enter Tryz.func129,Tryz.ntmps129
  go_wp2_with fail
  refine wp_loop_rounds 1 ?_
  rw [rounds_succ]
  go_wp2_with fail
  go_ret
  exact ⟨rfl,Below.refl _ _⟩
 ·have HC:Hid (∀ j,j<L.length→w.cell? ⟨b,j,none⟩=some (.int .i64 (L.getD j 0))):=hcell
  obtain ⟨p,hp⟩:∃ p:Nat→Bool,p=fun j=>L.getD j 0 == i:=⟨_,rfl⟩
  have HP:Hid (∀ j,p j=(L.getD j 0 == i)):=fun j=>by rw [hp]
  rw [←hp]
  generalize hnn:L.length=n at hn hc HC
  clear hcell hp hnn
  go_enter Tryz.func129,Tryz.ntmps129
  go_wp2_with fail
  go_loopg [8] n (fun g s8 wr => ∃ (k:Nat),k≤n∧g=n-k∧s8=.int .i64 k∧findFrom p (n-k) k=findFrom p n 0∧wr=w)
  case atStart=>exact ⟨0,Nat.zero_le _,rfl,rfl,rfl,rfl⟩
  case round =>
   obtain ⟨k,hk,rfl,rfl,hf,rfl⟩:=hrel
   have HF:Hid (findFrom p (n-k) k=findFrom p n 0):=hf
   clear hf
   by_cases hlt:k<n
   ·have hki:(k:Int)<(n:Int):=by omega
    have hcx:=HC.out k hlt
    have hsk:n-k=(n-(k+1))+1:=by omega
    have hn':(n:Int)≤12:=by omega
    have hpk:=HP.out k
    have HSK:Hid (n-k=(n-(k+1))+1):=hsk
    generalize L.getD k 0=x at hcx hpk
    clear hsk
    cases hb:p k
    ·have HK:Hid (p k=false):=hb
     rw [hb] at hpk
     have hx:(i == x)=false:=by
      have h1:x≠i:=by simpa using hpk.symm
      simpa using fun h:i=x=>h1 h.symm
     clear hb hpk
     go_wp2_with fail
     go_roundg (n-(k+1))
     case measure=>omega
     case rel=>exact ⟨k+1,by omega,rfl,by go_num,by rw [←HF.out,HSK.out,findFrom_miss _ HK.out],rfl⟩
    ·have HK:Hid (p k=true):=hb
     rw [hb] at hpk
     have hx:(i == x)=true:=by
      have h1:x=i:=by simpa using hpk.symm
      simpa using h1.symm
     clear hb hpk
     go_wp2_with fail
     go_ret
     exact ⟨by rw [←HF.out,HSK.out,findFrom_hit _ HK.out];rfl,Below.refl _ _⟩
   ·have hke:k=n:=by omega
    subst hke
    go_wp2_with fail
    go_ret
    exact ⟨by rw [←HF.out,Nat.sub_self];rfl,Below.refl _ _⟩
theorem contains_ints (A:Option Addr) (cap:Nat) (L:List Int) (i:Int) (w:World) (hn:L.length≤12) (hL:IntsAt w A cap L):Calls Tryz.prog 90 #[.slice A L.length cap,.int .i64 i] w fun e w'=>e=.returned (.bool (inB L i))∧Below w.heap.size w w':=by
 have h:=index_ints A cap L i w hn hL
 have HI:Hid (decide (0≤findFrom (fun j=>L.getD j 0 == i) L.length 0)=inB L i):=find_in L i
 generalize findFrom (fun j=>L.getD j 0 == i) L.length 0=f at h HI
 generalize L.length=n at h
 clear hL hn
 go_enter Tryz.func90,Tryz.ntmps90
 go_wp2_with fail
 refine h.mono ?_
 rintro e w1 ⟨rfl,hb1⟩
 go_wp2_with fail
 go_ret
 exact ⟨by rw [←HI.out];rfl,hb1⟩
theorem pl_ints {w:World} {A:Option Addr} {cap:Nat} {L:List Int} (h:IntsAt w A cap L):PlAt w A cap L:=by
 obtain ⟨h1,h2 | ⟨b,h2,h3,h4⟩⟩:=h
 ·exact ⟨h1,Or.inl h2⟩
 ·exact ⟨h1,Or.inr ⟨b,0,h2,h3,fun j hj=>by rw [Nat.zero_add];exact h4 j hj⟩⟩
set_option maxHeartbeats 1000000 in
theorem indexm_pl (F:Nat) (cap:Array Value) (p:Int→Bool) (hent:∀ (args:Array Value) (w:World),(callFunc F args).run Tryz.prog w=.ok (.enter F args) w) (A:Option Addr) (c:Nat) (L:List Int) (w:World) (hn:L.length≤1048576) (hL:PlAt w A c L)
  (hF:∀ (x:Int) (w':World),x∈L→Below w.heap.size w w'→Calls Tryz.prog F (#[.int .i64 x] ++ cap) w' fun e w''=>e=.returned (.bool (p x))∧Below w'.heap.size w' w'') :
  Calls Tryz.prog 161 #[.slice A L.length c,.func (.func F) #[] cap] w fun e w'=>e=.returned (.int .i64 (findFrom (fun j=>p (L.getD j 0)) L.length 0))∧Below w.heap.size w w':=by
 obtain ⟨hc,h0 | ⟨b,o,rfl,hbw,hcell⟩⟩:=hL
 ·subst h0
  simp only [List.length_nil]
  go_enter Tryz.func161,Tryz.ntmps161
  go_wp2_with fail
  refine wp_loop_rounds 1 ?_
  rw [rounds_succ]
  go_wp2_with fail
  go_ret
  exact ⟨rfl,Below.refl _ _⟩
 ·have HC:Hid (∀ j,j<L.length→w.cell? ⟨b,o+j,none⟩=some (.int .i64 (L.getD j 0))):=hcell
  have HF:Hid (∀ (x:Int) (w':World),x∈L→Below w.heap.size w w'→Calls Tryz.prog F (#[.int .i64 x] ++ cap) w' fun e w''=>e=.returned (.bool (p x))∧Below w'.heap.size w' w''):=hF
  obtain ⟨pj,hpj⟩:∃ pj:Nat→Bool,pj=fun j=>p (L.getD j 0):=⟨_,rfl⟩
  have HP:Hid (∀ j,pj j=p (L.getD j 0)):=fun j=>by rw [hpj]
  rw [←hpj]
  obtain ⟨n,hnn⟩:∃ n,L.length=n:=⟨_,rfl⟩
  have HNn:Hid (L.length=n):=hnn
  rw [hnn] at hn hc HC ⊢
  clear hcell hpj hnn hF
  go_enter Tryz.func161,Tryz.ntmps161
  go_wp2_with fail
  go_loopg [8] n (fun g s8 wr => ∃ (k:Nat),k≤n∧g=n-k∧s8=.int .i64 k∧findFrom pj (n-k) k=findFrom pj n 0∧Below w.heap.size w wr)
  case atStart=>exact ⟨0,Nat.zero_le _,rfl,rfl,rfl,Below.refl _ _⟩
  case round =>
   obtain ⟨k,hk,rfl,rfl,hf,hBw⟩:=hrel
   have HQ:Hid (findFrom pj (n-k) k=findFrom pj n 0):=hf
   have HW:Hid (Below w.heap.size w wr):=hBw
   clear hf
   by_cases hlt:k<n
   ·have hki:(k:Int)<(n:Int):=by omega
    have hcx:=(hBw.cell (p:=⟨b,o+k,none⟩) hbw).trans (HC.out k hlt)
    have hn':(n:Int)≤1048576:=by omega
    have hpk:=HP.out k
    have HSK:Hid (n-k=(n-(k+1))+1):=by show _=_;omega
    have hbd:=HF.out (L.getD k 0) wr (by rw [List.getD_eq_getElem?_getD,List.getElem?_eq_getElem (by rw [HNn.out];exact hlt)];exact List.getElem_mem _) hBw
    rw [←hpk] at hbd
    generalize L.getD k 0=x at hcx hpk hbd
    clear hBw hpk
    cases hb:pj k
    ·rw [hb] at hbd
     have HK:Hid (pj k=false):=hb
     clear hb
     go_wp2_with fail
     refine hbd.mono ?_
     rintro e w1 ⟨rfl,hb1⟩
     go_wp2_with fail
     go_roundg (n-(k+1))
     case measure=>omega
     case rel=>exact ⟨k+1,by omega,rfl,by go_num,by rw [←HQ.out,HSK.out,findFrom_miss _ HK.out],onB HW.out hb1⟩
    ·rw [hb] at hbd
     have HK:Hid (pj k=true):=hb
     clear hb
     go_wp2_with fail
     refine hbd.mono ?_
     rintro e w1 ⟨rfl,hb1⟩
     go_wp2_with fail
     go_ret
     exact ⟨by rw [←HQ.out,HSK.out,findFrom_hit _ HK.out];rfl,onB HW.out hb1⟩
   ·have hke:k=n:=by omega
    subst hke
    go_wp2_with fail
    go_ret
    exact ⟨by rw [←HQ.out,Nat.sub_self];rfl,HW.out⟩
theorem contm_pl (F:Nat) (cap:Array Value) (p:Int→Bool) (hent:∀ (args:Array Value) (w:World),(callFunc F args).run Tryz.prog w=.ok (.enter F args) w) (A:Option Addr) (c:Nat) (L:List Int) (w:World) (hn:L.length≤1048576) (hL:PlAt w A c L)
  (hF:∀ (x:Int) (w':World),x∈L→Below w.heap.size w w'→Calls Tryz.prog F (#[.int .i64 x] ++ cap) w' fun e w''=>e=.returned (.bool (p x))∧Below w'.heap.size w' w'') :
  Calls Tryz.prog 162 #[.slice A L.length c,.func (.func F) #[] cap] w fun e w'=>e=.returned (.bool (decide (0≤findFrom (fun j=>p (L.getD j 0)) L.length 0)))∧Below w.heap.size w w':=by
 have h:=indexm_pl F cap p hent A c L w hn hL hF
 generalize findFrom (fun j=>p (L.getD j 0)) L.length 0=r at *
 clear hF hL
 go_enter Tryz.func162,Tryz.ntmps162
 go_wp2_with fail
 refine h.mono ?_
 rintro e w1 ⟨rfl,hb1⟩
 go_wp2_with fail
 go_ret
 exact ⟨rfl,hb1⟩
end Go.Proofs.YtinebmjpdkjooaaGreatDoor
