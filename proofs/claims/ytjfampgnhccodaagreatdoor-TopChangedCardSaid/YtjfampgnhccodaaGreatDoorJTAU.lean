/-
  What the closures,refs and member of package rules answer,in whatever memory: whom a member needs,or what is wrong with its formula.
-/
import Derived.Maps.AppendAt
import Derived.Deep.CutRange
import Derived.WalkSpells
import Derived.WalkLawsBesides
import Derived.Deep.RegionHeld
import Derived.Test.YtjfampgnhccodaaGreatDoorJTAO
import Derived.Test.YtjfampgnhccodaaGreatDoorJTAP
import Derived.Test.YtjfampgnhccodaaGreatDoorJTAT
namespace Go.Proofs.YtjfampgnhccodaaGreatDoor
open Tryz Go.ChangeShapes Go.WideShapes Go.ChangeAt Go.RowKit
open Go.Sort (putRow Holds grow holds_putRow)
set_option maxRecDepth 20000
theorem yV(d:Dm)(s:ByteArray):findFrom (fun j=>same (d.mem j).name s) d.n 0=whL d s.data.toList:=by
 unfold whL;rw[Array.toArray_toList]
theorem Nq:bo 186:=fun args w=>by simp[callFunc,func186];rfl
theorem LB(m:Mem)(s:ByteArray)(q:Nat)(w:World)(a:q<w.heap.size)(h:w.cell? ⟨q,0,none⟩=some (.string s)):Rt 186 #[jh m,.pointer (some ⟨q,0,none⟩)] w (.bool (same m.name s)):=by
 unfold jh
 go_enter func186,ntmps186
 go_wp2_with fail;go_ret;exact⟨by simp[same],by go_grown⟩
theorem Nr(d:Dm)(b o cap q:Nat)(s:ByteArray)(w:World)(v:d.n<=12)(p:cI w b o d.n d.mem)(x:q<w.heap.size)(t:w.cell? ⟨q,2,none⟩=some (.slice (some ⟨b,o,none⟩) d.n cap)):
  Rt 185 #[.string s,.pointer (some ⟨q,0,none⟩)] w (.int .i64 (whL d s.data.toList)):=by
 obtain⟨W,k⟩:=ar (w.alloc (.cells #[.string s] 9));have a:Bl w W:=by rw[←k];exact(zS).alloc zT _
 have m:W.heap.size=w.heap.size+1:=by rw[←k];simp
 have f:W.cell? ⟨w.heap.size,0,none⟩=some (.string s):=by
  have h:W.heap[w.heap.size]?=some (.cells #[.string s] 9 (0,0)):=by rw[←k];exact heap_alloc_new _ _
  rw[Lib.cell_of_heap h]
  rfl
 have u:=aM a x t;have c:=jg 186 w.heap.size Nq b o d.n cap d.mem (fun j=>same (d.mem j).name s) W v (p.later a) (fun j w' _ g=>LB (d.mem j) s w.heap.size w' (by have:=g.size;omega) (aM g (by show w.heap.size<_;omega) f))
 rw[yV]at c;generalize whL d s.data.toList=r at c|-;have i:=aa a;clear p t a m f
 go_enter func185,ntmps185
 go_wp2_with fail;refine c.mono ?_;rintro e w1⟨rfl,l⟩;go_wp2_with fail;go_ret;exact⟨rfl,ad i.o l⟩
theorem AM(F:Nat)(cap:Array Value)(p:List UInt8->Bool)(C:∀(args:Array Value) (w:World),(callFunc F args).run prog w=.ok (.enter F args) w)(A:Option Addr)(c:Nat)(L:List (List UInt8))(w:World)(M:L.length<=200)(I:gO w A c L)
  (B:∀(x:List UInt8) (w':World),Bl w w'->Calls prog F (#[.string ⟨x.toArray⟩]++cap) w' fun e ac=>e=.returned (.bool (p x))/\Bl w' ac):
  Rt 276 #[.slice A L.length c,.func (.func F) #[] cap] w (.int .i64 (findFrom (fun j=>p (L.getD j [])) L.length 0)):=by
 obtain⟨J,-,H|⟨b,o,rfl,t,d⟩⟩:=I
 ·subst H
  simp only[List.length_nil]
  go_enter func276,ntmps276
  go_wp2_with fail;refine wp_loop_rounds 1 ?_;rw[rounds_succ];go_wp2_with fail;go_ret;exact⟨rfl,zS⟩
 have z:=aa d;have E:=aa B;obtain⟨pj,i⟩:∃pj:Nat->Bool,pj=fun j=>p (L.getD j []):=⟨_,rfl⟩
 have G:Hid (∀j,pj j=p (L.getD j [])):=fun j=>by rw[i]
 rw[←i];generalize ab:L.length=n at M J z;clear d i ab B
 go_enter func276,ntmps276
 go_wp2_with fail
 go_loopg [8] n (fun g s8 wr =>∃(k:Nat),k<=n/\g=n-k/\s8=.int .i64 k/\findFrom pj (n-k) k=findFrom pj n 0/\Bl w wr)
 case atStart=>exact⟨0,zU,rfl,rfl,rfl,zS⟩
 case round =>
  obtain⟨k,O,rfl,rfl,D,f⟩:=hrel;have r:=aa D;have s:=aa f;clear D
  by_cases y:k<n
  ·have K:(k:Int)<(n:Int):=ω;have u:=aM f t (z.o k y);have N:(n:Int)<=200:=ω;have m:=G.o k;have l:Hid (n-k=(n-(k+1))+1):=by show _=_;omega
   have a:=E.o (L.getD k []) wr f;rw[←m]at a;generalize (⟨(L.getD k []).toArray⟩:ByteArray)=x at u a;clear f m;cases hb:pj k
   ·rw[hb]at a
    have q:=aa hb;clear hb;go_wp2_with fail;refine a.mono ?_;rintro e w1⟨rfl,h⟩;go_wp2_with fail
    go_roundg (n-(k+1))
    case measure=>omega
    case rel=>exact⟨k+1,ω,rfl,by go_num,by rw[←r.o,l.o,bj _ q.o],ad s.o h⟩
   rw[hb]at a;have q:=aa hb;clear hb;go_wp2_with fail;refine a.mono ?_;rintro e w1⟨rfl,h⟩;go_wp2_with fail;go_ret;exact⟨by rw[←r.o,l.o,bI _ q.o];rfl,ad s.o h⟩
  have v:k=n:=ω;subst v;go_wp2_with fail;go_ret;exact⟨by rw[←r.o,Nat.sub_self];rfl,s.o⟩
theorem D5(p:List UInt8->Bool)(L:List (List UInt8)):decide (0<=findFrom (fun j=>p (L.getD j [])) L.length 0)=L.any p:=by
 rcases findFrom_cases (fun j=>p (L.getD j [])) L.length 0 with⟨a,c⟩|⟨m,a,_,g,d,_⟩
 ·rw[a,decide_eq_false ω]
  symm
  rw[List.any_eq_false];intro x f;obtain⟨i,e,rfl⟩:=List.getElem_of_mem f;have:=c i zU ω
  simp only[List.getD,zX e,Option.getD_some]at this
  simp[this]
 rw[a,decide_eq_true ω]
 symm
 rw[List.any_eq_true];have b:m<L.length:=ω;refine⟨L[m],List.getElem_mem b,?_⟩
 simpa only[List.getD,zX b,Option.getD_some]using d
theorem Cb(F:Nat)(cap:Array Value)(p:List UInt8->Bool)(a:∀(args:Array Value) (w:World),(callFunc F args).run prog w=.ok (.enter F args) w)(A:Option Addr)(c:Nat)(L:List (List UInt8))(w:World)(g:L.length<=200)(f:gO w A c L)
  (d:∀(x:List UInt8) (w':World),Bl w w'->Calls prog F (#[.string ⟨x.toArray⟩]++cap) w' fun e aa=>e=.returned (.bool (p x))/\Bl w' aa):
  Rt 237 #[.slice A L.length c,.func (.func F) #[] cap] w (.bool (L.any p)):=by
 have h:=AM F cap p a A c L w g f d;rw[←D5];generalize findFrom (fun j=>p (L.getD j [])) L.length 0=r at *
 clear d f
 go_enter func237,ntmps237
 go_wp2_with fail;refine h.mono ?_;rintro e w1⟨rfl,b⟩;go_wp2_with fail;go_ret;exact⟨rfl,b⟩
def Ob(d:Dm)(q:Nat)(w:World):Prop := ∀(s:ByteArray) (w':World),Bl w w'->Calls prog 185 #[.string s,.pointer (some ⟨q,0,none⟩)] w' fun e w''=>e=.returned (.int .i64 (whL d s.data.toList))/\Bl w' w''
theorem Ob.later{d:Dm}{q:Nat}{w w1:World}(h:Ob d q w)(b:Bl w w1):Ob d q w1:=fun s w' a=>h s w' (ad b a)
def KL(q:Nat):Value:=.func (.func 185) #[] #[.pointer (some ⟨q,0,none⟩)]
theorem EI(args:Array Value)(w:World):(callFunc 238 args).run prog w=.ok (.enter 238 args) w:=by simp[go_sem]
theorem FR(d:Dm)(q r:Nat)(x:List UInt8)(w:World)(b:Ob d q w)(c:w.cell? ⟨r,0,none⟩=some (KL q)):Rt 238 #[.string ⟨x.toArray⟩,.pointer (some ⟨r,0,none⟩)] w (.bool (decide (whL d x<0))):=by
 have h:=b ⟨x.toArray⟩ w zS;rw[show(⟨x.toArray⟩:ByteArray).data.toList=x by simp]at h
 generalize whL d x=r1 at *;generalize (⟨x.toArray⟩:ByteArray)=s at *;unfold KL at c;clear b
 go_enter func238,ntmps238
 go_wp2_with fail;refine h.mono ?_;rintro e w1⟨rfl,a⟩;go_wp2_with fail;go_ret;exact⟨rfl,a⟩
def B4(d:Dm)(s:ByteArray):Int:=if prsE s≠0 then prsE s else if(dD (bK s) (bK s).length).any (fun nm=>decide (whL d nm<0))=true then 5 else 0
def rfL(d:Dm)(s:ByteArray):List Int:=if B4 d s=0 then((aP (bK s)).map (whL d)).mergeSort (fun x y=>decide (x<=y))else[]
theorem rf0{d:Dm}{s:ByteArray}(h:prsE s≠0):B4 d s=prsE s/\rfL d s=[]:=by
 have e:B4 d s=prsE s:=by unfold B4;rw[if_pos h]
 exact⟨e,by unfold rfL;rw[e,if_neg h]⟩
theorem vG{l:List Nd}(h:ax l=0)(p:List UInt8->Bool):(aP l).any p=(dD l l.length).any p:=by
 obtain⟨-,c⟩:=kr h;rw[Bool.eq_iff_iff,List.any_eq_true,List.any_eq_true]
 constructor
 ·rintro⟨x,b,a⟩;exact⟨x,(c x).1 b,a⟩
 rintro⟨x,b,a⟩;exact⟨x,(c x).2 b,a⟩
theorem rf1{d:Dm}{s:ByteArray}(h:prsE s=0)(a:(aP (bK s)).any (fun nm=>decide (whL d nm<0))=true):B4 d s=5/\rfL d s=[]:=by
 rw[vG (eH h)]at a;have e:B4 d s=5:=by unfold B4;rw[if_neg (by simpa using h),if_pos a]
 exact⟨e,by unfold rfL;rw[e,if_neg (by decide)]⟩
theorem PP{d:Dm}{s:ByteArray}(h:prsE s=0)(a:(aP (bK s)).any (fun nm=>decide (whL d nm<0))=false):B4 d s=0/\rfL d s=((aP (bK s)).map (whL d)).mergeSort (fun x y=>decide (x<=y)):=by
 rw[vG (eH h)]at a;have e:B4 d s=0:=by unfold B4;rw[if_neg (by simpa using h),if_neg (by rw[a];decide)]
 exact⟨e,by unfold rfL;rw[if_pos e]⟩
theorem ry{l:List Nd}(h:ax l=0):(aP l).length<=30:=by
 obtain⟨-,a,-⟩:=dH h;unfold aP;rw[if_pos h];refine zV (n7 _) ?_;rw[List.length_mergeSort];exact zV (Du _ _) a
theorem yi{w:World}{g k:Nat}{d:Array Int}(h:k≠g):(putRow (Value.int .i64) w g 0 d).heap[k]?=w.heap[k]?:=by
 unfold putRow Sort.mapBlock;simp only[Array.getElem?_modify];rw[if_neg (fun e=>h e.symm)]
theorem ip{w0 w:World}{g n:Nat}{d:Array Int}{os:Array Obj}(h:Bl w0 w)(b:w0.heap.size<=g):Bl w0 (grow (putRow (Value.int .i64) (Sort.ahead w n) g 0 d) os):=by
 refine⟨h.os,h.tape,h.output,by have:=h.size;simp;omega,fun k a=>?_⟩
 have c:=h.size;rw[Sort.heap_grow_old _ _ (by simp;omega),yi ω]
 exact h.block k a
theorem oO{w:World}{g n c:Nat}{zs ys:List Int}{a:Array Value}{fr:Nat×Nat}{os:Array Obj}(k:w.heap[g]?=some (.cells a 3 fr))(l:Holds (Value.int .i64) w g 0 zs.toArray)(o:ys.length=zs.length)(p:zs.length<=c)(e:c<=9223372036854775807):
  aJ (grow (putRow (Value.int .i64) (Sort.ahead w n) g 0 ys.toArray) os) (some ⟨g,0,none⟩) c ys:=by
 have b:g<w.heap.size:=(zY k).1;have m:(grow (putRow (Value.int .i64) (Sort.ahead w n) g 0 ys.toArray) os).heap[g]?=some (.cells (Sort.putCells (Value.int .i64) 0 ys.toArray a) 3 fr):=by
  rw[Sort.heap_grow_old _ _ (by simpa using b)]
  unfold putRow Sort.mapBlock;have f:(Sort.ahead w n).heap[g]?=some (.cells a 3 fr):=k;simp only[Array.getElem?_modify,if_true,f,Option.map_some]
  rfl
 have d:=Sort.holds_grow (Value.int .i64) _ os g 0 _ (by simpa using b) (holds_putRow (Value.int .i64) (Sort.ahead w n) g 0 zs.toArray ys.toArray l (by simp[o]))
 refine⟨ω,e,Or.inr ⟨g,_,_,rfl,m,fun j i=>?_⟩⟩
 have h:=(d j (by simpa using i)).1
 rw[Nat.zero_add]at h;rw[h,getElem!_pos _ j (by simpa using i)]
 simp[List.getD,zX i]
theorem Dp(d:Dm)(L:List (List UInt8)){k:Nat}(h:k<L.length):(L.take (k+1)).map (whL d)=(L.take k).map (whL d)++[whL d (L.getD k [])]:=by
 rw[List.take_succ_eq_append_getElem h,List.map_append,zZ,zX h]
 rfl
theorem JL(d:Dm)(q:Nat)(s:ByteArray)(w:World)(hs:s.size<=100)(hI:Ob d q w):
  Calls prog 184 #[.string s,KL q] w fun e w'=>(∃A' c',e=.returned (.tuple #[.slice A' (rfL d s).length c',errV (B4 d s)])/\aJ w' A' c' (rfL d s))/\Bl w w':=by
 obtain⟨i0,aR,aU,aV,aW⟩:=info_parts infoInt;obtain⟨W,hW⟩:=ar (w.alloc (.cells #[KL q] 256));have P:Bl w W:=by rw[←hW];exact(zS).alloc zT _
 have aw:W.heap.size=w.heap.size+1:=by rw[←hW];simp
 have V:W.cell? ⟨w.heap.size,0,none⟩=some (KL q):=by
  have h:W.heap[w.heap.size]?=some (.cells #[KL q] 256 (0,0)):=by rw[←hW];exact heap_alloc_new _ _
  rw[Lib.cell_of_heap h]
  rfl
 have f:=Im s W hs;have HI:=aa hI;have t:=aa P;have aB:=aa V;have am:=aa aw;have aE:Hid (∀w',Bl W w'->∀x,Rt 238 #[.string ⟨x.toArray⟩,.pointer (some ⟨w.heap.size,0,none⟩)] w' (.bool (decide (whL d x<0)))):=fun w' hB x =>
  FR d q w.heap.size x w' (hI.later (ad P hB)) (aM hB (by show w.heap.size<_;omega) V)
 unfold KL at hW|-;clear P aw V hI
 by_cases j:prsE s=0
 case neg =>
  obtain⟨O,F⟩:=rf0 (d:=d) j;rw[O,F];have HE:Hid (errV (prsE s)=.iface 71 (.int .i64 (prsE s))):=ac j;rw[ac j]at f|-;generalize (bK s).length=m at f;generalize (mo s:Int)=at' at f;generalize prsE s=ec at f;clear j O F
  go_enter func184,ntmps184
  go_wp2_with fail;refine f.mono ?_;rintro e w1⟨⟨A1,c1,rfl,-⟩,G⟩;go_wp2_with fail
  go_ret2
  exact⟨⟨none,0,rfl,aJ.nil _ _ _ ω⟩,ad t.o G⟩
 have X:=eH j;have av:=ry X;have aj:=aa j;have p:=fun A c w' hN=>Lu A c (bK s) w' hN
 rw[X,errV_zero]at p;rw[j,errV_zero]at f;obtain⟨L,hL⟩:=ar (aP (bK s));have HL:=aa hL;rw[hL]at av p;obtain⟨l,hl⟩:=ar (bK s);rw[hl]at f p;generalize (mo s:Int)=at' at f;obtain⟨n,hn⟩:=ar L.length;have I:=aa hn;have J:Hid (∀A c w',kx w' A c l->Calls prog 201 #[.slice A l.length c] w' fun e ax=>(∃A' c',e=.returned (.tuple #[.slice A' n c',.nilIface])/\gO ax A' c' L)/\Bl w' ax):=fun A c w' h=>by rw[←hn];exact p A c w' h
 generalize l.length=m at f J;rw[hn]at av;have a4:(n:Int)<=30:=ω;clear j X hL hl hn p
 go_enter func184,ntmps184
 go_wp2_with fail;refine f.mono ?_;rintro e w1⟨⟨A1,c1,rfl,ao⟩,G⟩;have p:=J.o A1 c1 w1 ao;have ay:=aa G;clear f ao G;go_wp2_with fail;refine p.mono ?_;rintro e w2⟨⟨A2,c2,rfl,R⟩,ap⟩;have ab:=aa (ad ay.o ap);have aF:=aa R;have H:=Cb 238 #[.pointer (some ⟨w.heap.size,0,none⟩)] (fun x=>decide (whL d x<0)) EI A2 c2 L w2 (by have:=I.o;omega) R fun x w' hB=>aE.o w' (ad ab.o hB) x
 rw[I.o]at H;obtain⟨ra,Y⟩:=ar (L.any (fun x=>decide (whL d x<0)))
 have al:=aa Y;rw[Y]at H;clear p ap R Y;go_wp2_with fail;refine H.mono ?_;rintro e w3⟨rfl,T⟩;have u:=aa (ad ab.o T);have aG:=aa (aF.o.later T);clear H T;cases ra
 case true =>
  go_wp2_with fail
  go_ret2
  obtain⟨O,F⟩:=rf1 (d:=d) aj.o (by rw[HL.o];exact al.o)
  rw[O,F];exact⟨⟨none,0,rfl,aJ.nil _ _ _ ω⟩,ad t.o u.o⟩
 go_wp2_with fail
 go_loopg [10,36] n (fun g aX aY wr =>∃(k:Nat) (v:Value),k<=n/\g=n-k/\aY=.int .i64 k/\v=aX/\wr.ownsRow w3.heap.size 3 1 v k (aA ((L.take k).map (whL d)))/\Bl w3 wr)
 case atStart=>exact⟨0,_,zU,rfl,rfl,rfl,World.ownsRow_nil _ _ _ _,zS⟩
 case round =>
  obtain⟨k,v,hk,rfl,rfl,rfl,hO,i⟩:=hrel;have HO:=aa hO;have af:=aa i
  by_cases au:k<n
  ·have a3:(k:Int)<(n:Int):=ω;obtain⟨aN,-,aL|⟨b,o,rfl,a0,aq⟩⟩:=aG.o.later i
   ·have:=I.o;rw[aL]at this;simp at this;omega
   have cx:=aq k (by rw[I.o];exact au)
   rw[I.o]at aN;have ah:Hid ((L.take (k+1)).map (whL d)=(L.take k).map (whL d)++[whL d (L.getD k [])]):=Dp d L (by rw[I.o];exact au)
   have a:=HI.o ⟨(L.getD k []).toArray⟩ wr (ad t.o (ad u.o i));rw[show(⟨(L.getD k []).toArray⟩:ByteArray).data.toList=L.getD k [] by simp]at a
   have S:=ad u.o i;have cb:wr.cell? ⟨w.heap.size,0,none⟩=some (KL q):=aM S (by show w.heap.size<_;rw[am.o];omega) aB.o
   have a1:w.heap.size<wr.heap.size:=by have:=S.size;rw[am.o]at this;omega
   unfold KL at cb;generalize whL d (L.getD k [])=y at a ah;generalize (⟨(L.getD k []).toArray⟩:ByteArray)=x at cx a;clear aq hO i S;go_wp2_with fail;refine a.mono ?_;rintro e w4⟨rfl,U⟩;have Q:Bl w3 w4:=ad af.o U;have M:=aa Q;have ai:Hid (w4.ownsRow w3.heap.size 3 1 v k (aA ((L.take k).map (whL d)))):=ak HO.o U;have a6:=Q.size;clear U a Q
   go_wp2_with (at_builtin;refine wpList_append_own _ rfl _ _ 42 rfl w3.heap.size 3 i0 (.int .i64 0) 1 8 underlying42 aR aU aV aW rfl (by decide) _ _ _ rfl (ai.o.alloc _) ⟨w4.heap.size,0,none⟩ 1 1 [.int .i64 y] rfl rfl da ew (by unfold maxLen;omega) ω (by simp;omega) ?_)
   intro v' w5 E D _;have az:Hid (Bl w3 w5):=dk M.o ai.o D;have aD:Hid (w5.ownsRow w3.heap.size 3 1 v' (k+1) (aA ((L.take (k+1)).map (whL d)))):=by
    show World.ownsRow ..
    rw[ah.o,mapI_snoc,List.map_take];exact E
   clear E D;go_wp2_with fail
   go_roundg (n-(k+1))
   case measure=>omega
   case rel=>exact⟨k+1,_,ω,rfl,by go_num,rfl,aD.o,az.o⟩
  have aT:k=n:=ω;subst aT;have an:L.take k=L:=List.take_of_length_le (by rw[I.o];exact zT)
  obtain⟨O,F⟩:=PP (d:=d) aj.o (by rw[HL.o];exact al.o)
  rw[HL.o]at F;have ag:=aa O;have r:=hO;rw[an]at r;obtain⟨zs,PT⟩:=ar (L.map (whL d));have B:zs.length=k:=by rw[←PT,List.length_map];exact I.o
  rw[PT]at F r;have N:=aa F;have aZ:=aa B;clear hO HO an O F PT
  by_cases hz:v=.slice none 0 0
  ·subst hz
   have aS:k=0:=by
    rcases r.2 with⟨_,h⟩|⟨g,c,C,h,_⟩
    ·exact h
    cases h
   subst aS;have aI:Hid (rfL d s=[]):=by
    show _=_
    rw[N.o,List.eq_nil_of_length_eq_zero B,List.mergeSort_nil]
   have z:=Any.slices_Sort_int_none lays189 none 0 wr;clear r i B;go_wp2_with fail;refine Calls.mono z ?_;rintro e w4⟨rfl,rfl⟩;go_wp2_with fail
   go_ret2
   rw[ag.o,aI.o];exact⟨⟨none,0,rfl,aJ.nil _ _ _ ω⟩,ad t.o (ad u.o af.o)⟩
  obtain⟨g,c,hv,a2,aQ,a5,aO,-,hH⟩:=Lib.holds_of_ownsRow (enc:=Value.int .i64) (zs:=zs) r hz;subst hv;obtain⟨C,hg⟩:∃C:Array Value,wr.heap[g]?=some (.cells C 3 (0,0)):=by
   rcases r.2 with⟨h,_⟩|⟨g',c',C,h,_,hg,_⟩
   ·cases h
   cases h;exact⟨C,hg⟩
  have z:=Any.slices_Sort_int lays189 g 0 c zs wr hH aQ ω
  rw[B]at z;have HT:Hid (∀K os,aJ (grow (putRow (Value.int .i64) (Sort.ahead wr K) g 0 (zs.mergeSort fun x y=>decide (x<=y)).toArray) os) (some ⟨g,0,none⟩) c (rfL d s)):=fun K os=>by
   rw[N.o];exact oO hg hH (by rw[List.length_mergeSort]) ω (by unfold maxLen at aO;omega)
  have ae:Hid (∀K os,Bl w (grow (putRow (Value.int .i64) (Sort.ahead wr K) g 0 (zs.mergeSort fun x y=>decide (x<=y)).toArray) os)):=fun K os=>by
   have aK:=ad u.o i;have h0:=ad t.o aK;refine ip h0 ?_;have:=t.o.size;have:=u.o.size
   omega
  have aC:Hid ((rfL d s).length=k):=by show _=_;rw[N.o,List.length_mergeSort];exact B
  generalize (zs.mergeSort fun x y=>decide (x<=y))=ys at z HT ae
  clear r i B hH hg;go_wp2_with fail;refine Calls.mono z ?_;rintro e w4⟨rfl,K,os,Z⟩;have aH:Hid (aJ w4 (some ⟨g,0,none⟩) c (rfL d s)):=by rw[Z];exact HT.o K os
  have M:Hid (Bl w w4):=by rw[Z];exact ae.o K os
  clear Z z;go_wp2_with fail
  go_ret2
  rw[ag.o];exact⟨⟨_,c,by rw[aC.o];rfl,aH.o⟩,M.o⟩
end Go.Proofs.YtjfampgnhccodaaGreatDoor
namespace Go.Proofs.YtjfampgnhccodaaGreatDoor
open Tryz Go.ChangeShapes Go.WideShapes Go.ChangeAt Go.RowKit
set_option maxRecDepth 20000
theorem cI.grown{w w':World}{b o n:Nat}{M:Nat->Mem}{r:Option Nat}(h:cI w b o n M)(d:w.grownBy w' r)(p:some b≠r):cI w' b o n M:=by
 have l:w'.heap[b]?=w.heap[b]?:=d.block b h.1 p;have c:∀k,w'.cell? ⟨b,k,none⟩=w.cell? ⟨b,k,none⟩:=fun k=>World.cell?_of_block (a:=⟨b,k,none⟩) l
 refine⟨zW h.1 d.size,fun i m=>?_⟩
 obtain⟨e,f,g,j⟩:=h.2 i m;exact⟨(c _).trans e,(c _).trans f,(c _).trans g,(c _).trans j⟩
def I5(d:Dm)(k:Int):Bool:=decide ((d.mem k.toNat).sign=0)
theorem LV(d:Dm):(fun x => !I5 d x)=KO d:=by
 funext x
 unfold I5 KO
 by_cases h:(d.mem x.toNat).sign=0 <;>simp[h]
theorem Ic(args:Array Value)(w:World):(callFunc 189 args).run prog w=.ok (.enter 189 args) w:=by simp[go_sem]
theorem F2(d:Dm)(b o cap q k:Nat)(w:World)(e:k<d.n)(j:d.n<=12)(a:cI w b o d.n d.mem)(i:w.cell? ⟨q,2,none⟩=some (.slice (some ⟨b,o,none⟩) d.n cap)):
  Rt 189 #[.int .i64 k,.pointer (some ⟨q,0,none⟩)] w (.bool (I5 d k)):=by
 obtain⟨-,-,c,-⟩:=a.2 k e;have f:(k:Int)<(d.n:Int):=ω;have g:(d.n:Int)<=12:=ω;unfold I5;rw[Int.toNat_natCast];generalize (d.mem k).sign=sg at c|-;generalize d.n=n at *;clear a
 go_enter func189,ntmps189
 go_wp2_with fail;go_ret;exact⟨by by_cases h:sg=0 <;>simp[h],zS⟩
theorem oh{M:Nat->Mem}{i:Nat}(h:aQ M i=0):(M i).formula.size<=100:=by
 unfold aQ at h
 split at h
 ·simp at h
 split at h
 ·simp at h
 split at h
 ·simp at h
 split at h
 ·simp at h
 split at h
 ·simp at h
 split at h
 ·simp at h
 omega
theorem NO{d:Dm}(b:(am d).2=0){i:Nat}(a:(d.mem i).formula.size≠0):B4 d (d.mem i).formula=mErr d i/\rfL d (d.mem i).formula=MW (mErr d i) (f9 d i):=by
 have e:B4 d (d.mem i).formula=mErr d i:=by
  unfold B4 mErr ox;rw[if_neg a]
 refine⟨e,?_⟩;unfold rfL MW;rw[e]
 by_cases h:mErr d i=0
 ·rw[if_pos h,if_pos h]
  refine tM b a h ?_;unfold mErr at h;rw[if_neg a]at h
  split at h
  ·rename_i h1;exact absurd h h1
  rename_i h1;simpa using h1
 rw[if_neg h,if_neg h]
theorem yt(d:Dm)(A:Option Addr)(cap i:Nat)(w:World)(Z:(am d).2=0)(hi:i<d.n)(hM:dC w A cap d.n d.mem):
  Calls prog 134 #[dw d A cap,.int .i64 i] w fun e w'=>(∃A' c',e=.returned (.tuple #[.slice A' (MW (mErr d i) (f9 d i)).length c',errV (mErr d i)])/\aJ w' A' c' (MW (mErr d i) (f9 d i)))/\Bl w w':=by
 obtain⟨-,-,v,h⟩:=aq Z;obtain⟨F,h0|⟨b,o,rfl,u⟩⟩:=hM
 ·omega
 have r:=bu w d (some ⟨b,o,none⟩) cap 67;have hS:=bg w d (some ⟨b,o,none⟩) cap 67;obtain⟨o0,o1,o2⟩:=fE w d (some ⟨b,o,none⟩) cap 67;unfold dw;obtain⟨W,hW⟩:=ar (aH w d (some ⟨b,o,none⟩) cap 67);rw[hW]at r hS o0 o1 o2;unfold aH at hW;have g:=u.later r;obtain⟨-,-,-,c3⟩:=g.2 i hi;have ae:(i:Int)<(d.n:Int):=ω;have af:(d.n:Int)<=12:=ω;have M:w.heap.size<W.heap.size:=ω;have q:=aa r
 by_cases y:(d.mem i).formula.size=0
 ·have z:(d.mem i).formula.toList.isEmpty=true:=by rw[b9];simpa using y
  have H:mErr d i=0:=by unfold mErr;rw[if_pos y]
  rw[H,IO rfl,errV_zero];have B:=FC d (some ⟨b,o,none⟩) cap i W Z hi ⟨F,Or.inr ⟨b,o,rfl,g⟩⟩;unfold dw at B;have P:Hid ((gb d.mem d.n i).filter (KO d)=f9 d i):=jn y;have R:Hid ((gb d.mem d.n i).length<=12):=zV (ea _ _) v;have S:Hid (∀x∈gb d.mem d.n i,∃k:Nat,x=(k:Int)/\k<d.n):=fun x hx=>by
   obtain⟨m,V,h2,-⟩:=dy x hx;exact⟨m,V,h2⟩
  have C:=aa g;have Q:=aa o2;generalize (d.mem i).formula=U at c3 z;clear u h y H
  go_enter func134,ntmps134
  go_wp2_with fail;refine B.mono ?_;rintro e w1⟨⟨v1,rfl,p⟩,c⟩;have ac:=aa c;have ab:w.heap.size<w1.heap.size:=by have:=c.size;omega
  have l:=Ho 189 #[.pointer (some ⟨w.heap.size,0,none⟩)] (I5 d) Ic W.heap.size v1 (gb d.mem d.n i) w1 (by have:=R.o;omega) p fun x w' hx t=>by
   obtain⟨k,rfl,hk⟩:=S.o x hx;have J:∀j,v1.ownBlock=some j->W.heap.size<=j:=fun j K=>(p.lt j K).1
   have Y:b<W.heap.size:=C.o.1;have I:∀j,j<W.heap.size->some j≠v1.ownBlock:=fun j K e=>by have:=J j e.symm;omega
   refine F2 d b o cap w.heap.size k w' hk v ((C.o.later c).grown t (I b Y)) ?_;have V:w1.cell? ⟨w.heap.size,2,none⟩=some (.slice (some ⟨b,o,none⟩) d.n cap):=aM c M Q.o;rw[World.cell?_of_block (a:=⟨w.heap.size,2,none⟩) (t.block w.heap.size ab (I _ M))];exact V
  rw[LV,P.o]at l;have O:Hid (∀w',w1.grownBy w' v1.ownBlock->Bl w w'):=fun w' t=>(ad q.o c).grown t (by have:=q.o.size;have:=c.size;omega) fun j K=>by have:=(p.lt j K).1;omega
  clear p c B;go_wp2_with fail;refine l.mono ?_;rintro e w2⟨⟨A2,c2,rfl,E⟩,t⟩;have T:=aa E;have N:=aa (O.o w2 t);clear E t l;go_wp2_with fail
  go_ret2
  exact⟨⟨A2,c2,rfl,T.o⟩,N.o⟩
 have z:(d.mem i).formula.toList.isEmpty=false:=by rw[b9];simpa using y
 obtain⟨e1,e2⟩:=NO Z y;have D:Ob d w.heap.size W:=fun s w' X=>Nr d b o cap w.heap.size s w' v (g.later X) (zW M X.size) (aM X M o2)
 have f:=JL d w.heap.size (d.mem i).formula W (oh (h i hi)) D;rw[←e2,←e1];unfold KL at f;obtain⟨U,G⟩:=ar ((d.mem i).formula);rw[G]at c3 z f|-;generalize rfL d U=L at f|-;generalize errV (B4 d U)=ev at f|-;clear u h y D g e1 e2 G
 go_enter func134,ntmps134
 go_wp2_with fail;refine f.mono ?_;rintro e w1⟨⟨A1,c1,rfl,E⟩,c⟩;have T:=aa E;clear E f;go_wp2_with fail
 go_ret2
 exact⟨⟨A1,c1,rfl,T.o⟩,ad q.o c⟩
def Fj(d:Dm)(k:Nat):List (List Int):=(List.range k).map (f9 d)
theorem Fk(d:Dm)(k:Nat):Fj d (k+1)=Fj d k++[f9 d k]:=by simp[Fj,List.range_succ]
theorem LM{d:Dm}{xs:List RL}(h:lR xs=jz d):∀x∈xs,x.p.Nodup/\x.p.length<=d.n:=fun x b=>by
 have a:x.p∈jz d:=by rw[←h];exact List.mem_map.2 ⟨x,b,rfl⟩
 obtain⟨i,-,e⟩:=List.mem_map.1 a;rw[←e];exact⟨B6 (jT d i),LG d i⟩
theorem gl{w w1:World}{d:Dm}{A:Option Addr}{cap:Nat}(a:Below (aH w d A cap 67).heap.size (aH w d A cap 67) w1):w1.cell? ⟨w.heap.size,0,none⟩=some (.string d.name)/\w1.cell? ⟨w.heap.size,1,none⟩=some (.int .i64 d.solve)/\w1.cell? ⟨w.heap.size,2,none⟩=some (.slice A d.n cap)/\w.heap.size<w1.heap.size:=by
 have c:=bg w d A cap 67;obtain⟨o0,o1,o2⟩:=fE w d A cap 67;have b:w.heap.size<(aH w d A cap 67).heap.size:=ω;exact⟨aM a b o0,aM a b o1,aM a b o2,by have:=a.size;omega⟩
theorem rC(d:Dm)(A:Option Addr)(cap:Nat)(w:World)(hM:dC w A cap d.n d.mem):
  Calls prog 84 #[dw d A cap] w fun e w'=>(∃A' c' xs,e=.returned (.tuple #[.slice A' xs.length c',.int .i64 (bB d).1,errV (bB d).2])/\iw w' A' c' xs/\((bB d).2=0->lR xs=jz d))/\Bl w w':=by
 have L:=bu w d A cap 67;have a:=gD d A cap (aH w d A cap 67) (hM.later L);have HM:=aa hM;have o:Hid (∀w1,Below (aH w d A cap 67).heap.size (aH w d A cap 67) w1->w1.cell? ⟨w.heap.size,0,none⟩=some (.string d.name)/\w1.cell? ⟨w.heap.size,1,none⟩=some (.int .i64 d.solve)/\w1.cell? ⟨w.heap.size,2,none⟩=some (.slice A d.n cap)/\w.heap.size<w1.heap.size):=fun w1 h=>gl h
 unfold dw at a|-;obtain⟨W,hW⟩:=ar (aH w d A cap 67);rw[hW]at L a o;unfold aH at hW;have J:=aa L;clear hM L
 by_cases U:(am d).2=0
 case neg =>
  rw[Pj U];rw[ac U]at a|-;have Q:=aa U;generalize (am d).1=x at a|-;generalize (am d).2=c at a Q|-;obtain⟨d0,d1,d2,aC⟩:=o.o W zS;clear U
  go_enter func84,ntmps84
  go_wp2_with fail;refine a.mono ?_;rintro e w1⟨rfl,E⟩;go_wp2_with fail;go_returns;exact⟨⟨none,0,[],rfl,iw.nil _ _ _,fun e=>absurd e Q.o⟩,ad J.o E⟩
 obtain⟨ag,ax,V,-⟩:=aq U;have HD:=aa U;rw[U,ag,errV_zero]at a;obtain⟨i0,ah,ai,aj,al⟩:=info_parts infoRow;obtain⟨n,hn⟩:=ar d.n;have q:=aa hn;rw[hn]at a hW o ax V|-;have aA:∀w',(Instr.makeSlice 141 (.int .i64 0) (.int .i64 (n:Int))).run prog w'=.ok (.slice (some ⟨w'.heap.size,0,none⟩) 0 n) (w'.alloc (.cells (madeCells #[.slice none 0 0] n) 42)):=fun w'=>by
  have h:=run_make (P:=prog) w' 141 42 i0 _ underlying141 ah ai .i64 .i64 0 n (Int.le_refl _) ω (by rw[al];omega) ω
  simp only[Int.toNat_natCast,aj,Nat.mul_one]at h;exact h
 have aI:(n:Int)<=12:=ω;obtain⟨d0,d1,d2,aC⟩:=o.o W zS;clear U hn ag
 go_enter func84,ntmps84
 go_wp2_with fail;refine a.mono ?_;rintro e w1⟨rfl,E⟩;obtain⟨c0,c1,c2,aK⟩:=o.o w1 E;have C:=aa E;clear E a c0 c1 d0 d1 d2 hW;obtain⟨W1,PT⟩:=ar (w1.alloc (.cells (madeCells #[.slice none 0 0] n) 42));have D:Bl w1 W1:=by rw[←PT];exact(zS).alloc zT _
 have PX:=aa D;have P1:Hid (W1.ownsRow w1.heap.size 42 1 (.slice (some ⟨w1.heap.size,0,none⟩) 0 n) 0 []):=by
  rw[←PT];exact World.ownsRow_made w1 _ n zT (by unfold maxLen;omega) (by simp[madeCells])
 obtain⟨-,-,b,aB⟩:=o.o W1 (ad C.o D);clear D;go_wp2_with fail;clear PT aA
 go_loopg [7,28] n (fun g s7 aD wr =>∃(k:Nat) (xs:List RL),k<=n/\g=n-k/\aD=.int .i64 k/\Hid (lR xs=Fj d k/\(∀j,j<k->mErr d j=0)/\∀x∈xs,aJ wr x.A x.c x.p)/\wr.ownsRow w1.heap.size 42 1 s7 xs.length (fT xs)/\Bl w1 wr)
 case atStart=>exact⟨0,[],zU,rfl,rfl,(⟨rfl,fun j hj=>absurd hj (Nat.not_lt_zero _),fun x I=>by cases I⟩:_/\_/\_),P1.o,PX.o⟩
 case round =>
  obtain⟨k,xs,hk,rfl,rfl,S,hO,y⟩:=hrel;have HO:=aa hO;have PZ:=aa y;have v:Hid (xs.length=k):=by
   have h:=S.o.1
   show _=_
   rw[←A4,h]
   simp[Fj]
  obtain⟨c0,c1,c2,hq⟩:=o.o wr (ad C.o y)
  by_cases G:k<n
  ·have aG:(k:Int)<(n:Int):=ω;have l:=yt d A cap k wr HD.o (by rw[q.o];exact G) (HM.o.later (ad J.o (ad C.o y)))
   unfold dw at l;rw[q.o]at l
   by_cases N:mErr d k=0
   ·rw[IO N,N,errV_zero]at l
    have Q:=aa N;obtain⟨r,hr⟩:=ar ((f9 d k).length);have HR:=aa hr;rw[hr]at l;clear hO y N hr;go_wp2_with fail;refine l.mono ?_;rintro e w2⟨⟨A2,b,rfl,hT⟩,B⟩;have PV:=aa (ad PZ.o B);have K:Hid (w2.ownsRow w1.heap.size 42 1 u7 k (fT xs)):=by
     have h:=ak HO.o B;rw[v.o]at h;exact h
    have au:=aa hT;have av:Hid (∀x∈xs,aJ w2 x.A x.c x.p):=fun x I=>(S.o.2.2 x I).later B
    have aL:=PV.o.size;clear hT B l c0 c1 c2
    go_wp2_with (at_builtin;refine wpList_append_own _ rfl _ _ 141 rfl w1.heap.size 42 i0 (.slice none 0 0) 1 24 underlying141 ah ai aj al rfl (by decide) _ _ _ rfl (K.o.alloc _) ⟨w2.heap.size,0,none⟩ 1 1 [.slice A2 r b] rfl rfl da (by intro u hu;simp at hu;subst hu;rfl) (by unfold maxLen;omega) ω (by simp;omega) ?_)
    intro v' w3 H f _;have an:Hid (Bl w1 w3):=dk PV.o K.o f;have aw:Hid (lR (xs++[(⟨f9 d k,A2,b⟩:RL)])=Fj d (k+1)/\(∀j,j<k+1->mErr d j=0)/\∀x∈xs++[(⟨f9 d k,A2,b⟩:RL)],aJ w3 x.A x.c x.p):=by
     refine⟨by rw[E7,S.o.1,Fk];rfl,fun j hj=>?_,fun x I=>?_⟩
     ·by_cases e:j=k
      ·rw[e];exact Q.o
      exact S.o.2.1 j ω
     rcases List.mem_append.1 I with I|I
     ·exact((av.o x I).later γ).row (K.o.alloc _) f
     rw[List.mem_singleton.1 I];exact(au.o.later γ).row (K.o.alloc _) f
    have ap:Hid (w3.ownsRow w1.heap.size 42 1 v' (xs++[(⟨f9 d k,A2,b⟩:RL)]).length (fT (xs++[(⟨f9 d k,A2,b⟩:RL)]))):=by
     show World.ownsRow ..
     rw[sd,List.length_append,v.o];have e:fT [(⟨f9 d k,A2,b⟩:RL)]=[.slice A2 r b]:=by simp[fT,HR.o]
     rw[e];exact H
    clear H f;go_wp2_with fail
    go_roundg (n-(k+1))
    case measure=>omega
    case rel=>exact⟨k+1,_,ω,rfl,by go_num,aw,ap.o,an.o⟩
   have z:Hid (bB d=((k:Int),mErr d k)):=Pk HD.o (i:=k) (by rw[q.o];exact G) N S.o.2.1
   have Q:=aa N;rw[LF N,ac N]at l;generalize mErr d k=ec at l Q z;clear hO y N;go_wp2_with fail;refine l.mono ?_;rintro e w2⟨⟨A2,b,rfl,-⟩,B⟩;go_wp2_with fail;go_returns;rw[z.o];exact⟨⟨none,0,[],by rw[ac Q.o];rfl,iw.nil _ _ _,fun e=>absurd e Q.o⟩,ad J.o (ad C.o (ad PZ.o B))⟩
  have az:k=n:=ω;subst az;have HL:Hid (lR xs=jz d):=by show _=_;rw[S.o.1,←q.o];rfl
  have O:Hid (∀j,j<d.n->mErr d j=0):=by rw[q.o];exact S.o.2.1
  obtain⟨Ar,cr,hv,ae⟩:=JU hO S.o.2.2;subst hv;have P2:=aa ae;have PY:=aa (ad J.o (ad C.o y));clear hO y ae c0 c1 c2 o;rw[v.o];obtain⟨w4,rfl⟩:∃w4:World,w4=wr:=⟨_,rfl⟩;go_wp2_with fail
  go_loopg [48] k (fun g aE wi =>∃(j:Nat),j<=k/\g=k-j/\aE=.int .i64 j/\Hid (∀t,t<j->cycB (jz d) t=false)/\Bl w4 wi)
  case atStart=>exact⟨0,zU,rfl,rfl,(fun t ht=>absurd ht (Nat.not_lt_zero _):∀t,t<0->_),zS⟩
  case round =>
   obtain⟨j,hj,rfl,rfl,Z,M⟩:=hrel;have Y:=aa M
   by_cases G:j<k
   ·have aF:(j:Int)<(k:Int):=ω;have PU:=yz Ar cr xs j wr (by rw[v.o];exact V) (by rw[v.o];exact G) (by rw[HL.o];exact pd d) (fun x I=>by
     have h:=LM HL.o x I;rw[q.o]at h;exact⟨h.1,ω⟩) (P2.o.later M)
    rw[v.o,HL.o]at PU;clear M;go_wp2_with fail;refine PU.mono ?_;rintro e w5⟨⟨A5,c5,R,rfl,P3,T,ab⟩,af⟩;have s:=kJ A5 c5 R j w5 T P3;have PW:=aa (ad Y.o af);have ao:Hid (o9 R j=cycB (jz d) j):=by
     show _=_
     rw[Bool.eq_iff_iff,cyc_iff,←ab];unfold o9;exact decide_eq_true_iff
    rw[ao.o]at s;generalize R.length=m at s;clear PU af P3 ab T;cases hcy:cycB (jz d) j
    ·rw[hcy]at s
     have P0:Hid (∀t,t<j+1->cycB (jz d) t=false):=fun t ht=>by
      by_cases e:t=j
      ·rw[e];exact hcy
      exact Z.o t ω
     clear hcy;go_wp2_with fail;refine s.mono ?_;rintro e w6⟨rfl,F⟩;have X:=aa (ad PW.o F);clear F s;go_wp2_with fail
     go_roundg (k-(j+1))
     case measure=>omega
     case rel=>exact⟨j+1,ω,rfl,by go_num,P0,X.o⟩
    rw[hcy]at s;have z:Hid (bB d=((j:Int),8)):=Pm HD.o O.o (by rw[q.o];exact G) hcy Z.o
    clear hcy;go_wp2_with fail;refine s.mono ?_;rintro e w6⟨rfl,F⟩;have X:=aa (ad PW.o F);clear F s;go_wp2_with fail;go_returns;rw[z.o];exact⟨⟨none,0,[],rfl,iw.nil _ _ _,fun e=>by cases e⟩,ad PY.o X.o⟩
   have ay:j=k:=ω;subst ay;have z:Hid (bB d=(-1,0)):=O5 HD.o O.o (by rw[q.o];exact Z.o)
   clear M;go_wp2_with fail;go_returns;rw[z.o];exact⟨⟨Ar,cr,xs,by rw[v.o];rfl,P2.o.later Y.o,fun _=>HL.o⟩,ad PY.o Y.o⟩
theorem BQ(d:Dm)(A:Option Addr)(cap:Nat)(w:World)(h:dC w A cap d.n d.mem):Rt 46 #[dw d A cap] w (.tuple #[.int .i64 (bB d).1,errV (bB d).2]):=by
 have a:=bu w d A cap 67;have c:=rC d A cap (aH w d A cap 67) (h.later a);obtain⟨j,k,l,g⟩:=gl (w:=w) (d:=d) (A:=A) (cap:=cap) zS;have b:=aa a;unfold dw at c|-;obtain⟨W,i⟩:=ar (aH w d A cap 67);rw[i]at j k l g b c;unfold aH at i;generalize errV (bB d).2=ev at c|-;generalize (bB d).1=x at c|-;clear h a
 go_enter func46,ntmps46
 go_wp2_with fail;refine c.mono ?_;rintro e w1⟨⟨A1,c1,xs,rfl,-⟩,f⟩;go_wp2_with fail
 go_ret2
 exact⟨rfl,ad b.o f⟩
noncomputable def qE(d:Dm)(i:Int):Int:=if(bB d).2≠0 then(bB d).2 else if i<0\/(d.n:Int)<=i then 1 else 0
noncomputable def ux(d:Dm)(i:Int):List Int:=if qE d i=0 then f9 d i.toNat else[]
theorem PG{d:Dm}{i:Int}(h:(bB d).2≠0):qE d i=(bB d).2/\ux d i=[]:=by
 have e:qE d i=(bB d).2:=by unfold qE;rw[if_pos h]
 exact⟨e,by unfold ux;rw[e,if_neg h]⟩
theorem Pg{d:Dm}{i:Int}(h:(bB d).2=0)(a:i<0\/(d.n:Int)<=i):qE d i=1/\ux d i=[]:=by
 have e:qE d i=1:=by unfold qE;rw[if_neg (by simpa using h),if_pos a]
 exact⟨e,by unfold ux;rw[e,if_neg (by decide)]⟩
theorem OZ{d:Dm}{k:Nat}(h:(bB d).2=0)(a:k<d.n):qE d k=0/\ux d k=f9 d k:=by
 have e:qE d k=0:=by unfold qE;rw[if_neg (by simpa using h),if_neg ω]
 exact⟨e,by unfold ux;rw[if_pos e,Int.toNat_natCast]⟩
theorem F0(d:Dm)(A:Option Addr)(cap:Nat)(i:Int)(w:World)(T:dC w A cap d.n d.mem):Calls prog 203 #[dw d A cap,.int .i64 i] w fun e w'=>(∃A' c',e=.returned (.tuple #[.slice A' (ux d i).length c',errV (qE d i)])/\aJ w' A' c' (ux d i))/\Bl w w':=by
 have s:=bu w d A cap 67;have l:=rC d A cap (aH w d A cap 67) (T.later s);obtain⟨P,Q,K,N⟩:=gl (w:=w) (d:=d) (A:=A) (cap:=cap) zS;have o:=aa s;unfold dw at l|-;obtain⟨W,M⟩:=ar (aH w d A cap 67);rw[M]at P Q K N o l;unfold aH at M;clear T s
 by_cases u:(bB d).2=0
 ·obtain⟨X,-,-,R⟩:=bw u
  obtain⟨-,-,B,-⟩:=aq X;rw[u,R,errV_zero]at l;have F:=aa u;obtain⟨n,v⟩:=ar d.n;have E:=aa v;rw[v]at K B M l|-;have PV:(n:Int)<=12:=ω;clear u X R v
  go_enter func203,ntmps203
  go_wp2_with fail;refine l.mono ?_;rintro e w1⟨⟨A1,c1,xs,rfl,U,S⟩,m⟩;have t:=S trivial;have a:xs.length=n:=by rw[←A4,t,gX];exact E.o
  have q:=aa (ad o.o m);have H:Hid (iw w1 A1 c1 xs/\lR xs=jz d/\xs.length=n):=⟨U,t,a⟩;rw[a];clear U S t a m l P Q K
  by_cases L:i<0
  ·obtain⟨g,h⟩:=Pg F.o (Or.inl L)
   have f:=aa g;have r:=aa h;clear g h;go_wp2_with fail
   go_ret2
   rw[f.o,r.o];exact⟨⟨none,0,rfl,aJ.nil _ _ _ ω⟩,q.o⟩
  have Y:decide (i<0)=false:=decide_eq_false L
  by_cases Z:(n:Int)<=i
  ·obtain⟨g,h⟩:=Pg F.o (Or.inr (by rw[E.o];exact Z))
   have f:=aa g;have r:=aa h;clear g h;go_wp2_with fail
   go_ret2
   rw[f.o,r.o];exact⟨⟨none,0,rfl,aJ.nil _ _ _ ω⟩,q.o⟩
  obtain⟨k,rfl⟩:∃k:Nat,i=k:=⟨i.toNat,ω⟩
  have C:k<n:=ω;have PU:(k:Int)<(n:Int):=ω;obtain⟨g,h⟩:=OZ F.o (k:=k) (by rw[E.o];exact C)
  have f:=aa g;obtain⟨⟨V,O|⟨b,rfl,PT,z⟩,D⟩,y,a⟩:=H.o
  ·rw[O]at a;simp at a;omega
  have J:=z k ω
  have j:=D _ (rB (k:=k) ω)
  have G:Hid ((xs.getD k oU).p=ux d k):=by
   show _=_
   rw[h,←Dj,y,Bj (by rw[E.o];exact C)]
  rw[G.o]at J j;generalize (xs.getD k oU).A=Ak at J j;generalize (xs.getD k oU).c=cck at J j;have I:=aa j;clear z D y g h j L;go_wp2_with fail
  go_ret2
  rw[f.o];exact⟨⟨Ak,cck,rfl,I.o⟩,q.o⟩
 obtain⟨g,h⟩:=PG (i:=i) u;rw[g,h];rw[ac u]at l|-;generalize (bB d).2=ec at l|-;generalize (bB d).1=x at l;clear u g h
 go_enter func203,ntmps203
 go_wp2_with fail;refine l.mono ?_;rintro e w1⟨⟨A1,c1,xs,rfl,-⟩,m⟩;go_wp2_with fail
 go_ret2
 exact⟨⟨none,0,rfl,aJ.nil _ _ _ ω⟩,ad o.o m⟩
noncomputable def vJ(D:Nat->Dm)(i:Nat):Bool:=decide ((bB (D i)).2≠0)
noncomputable def au(D:Nat->Dm)(n:Nat):Int×Int×Int :=
 if(ag D n).2.2≠0 then ag D n
 else if 0<=findFrom (vJ D) n 0 then(findFrom (vJ D) n 0,bB (D (findFrom (vJ D) n 0).toNat))
 else(-1,-1,0)
theorem Pn{D:Nat->Dm}{n:Nat}(h:(ag D n).2.2≠0):au D n=ag D n:=by unfold au;rw[if_pos h]
theorem Po{D:Nat->Dm}{n i:Nat}(h:(ag D n).2.2=0)(d:i<n)(a:(bB (D i)).2≠0)(b:∀j,j<i->(bB (D j)).2=0):au D n=((i:Int),(bB (D i)).1,(bB (D i)).2):=by
 have e:findFrom (vJ D) n 0=(i:Int):=fN zU ω (decide_eq_true a) fun j _ c=>decide_eq_false (by simpa using b j c)
 unfold au;rw[if_neg (by simpa using h),e,if_pos ω,Int.toNat_natCast]
theorem O6{D:Nat->Dm}{n:Nat}(h:(ag D n).2.2=0)(a:∀j,j<n->(bB (D j)).2=0):au D n=(-1,-1,0):=by
 unfold au;rw[if_neg (by simpa using h),aN (p:=vJ D) fun j _ b=>decide_eq_false (by simpa using a j ω),if_neg ω]
theorem eF(A0:Option Addr)(cap n:Nat)(D:Nat->Dm)(A:Nat->Option Addr)(C:Nat->Nat)(w:World)(M:aL w A0 cap n D A C):Rt 19 #[.agg #[.slice A0 n cap]] w (.tuple #[.int .i64 (au D n).1,.int .i64 (au D n).2.1,errV (au D n).2.2]):=by
 have q:=ay w A0 n cap 24;have hS:=aB w A0 n cap 24;have I:=aU w A0 n cap 24;have a:=ub A0 cap n D A C (aE w A0 n cap 24) (M.later q);obtain⟨W,N⟩:=ar (aE w A0 n cap 24);rw[N]at q hS I a;unfold aE at N;have p:=aa q;have X:=aa M;have H:w.heap.size<W.heap.size:=ω;clear M q
 by_cases h:(ag D n).2.2=0
 case neg =>
  rw[Pn h];rw[ac h]at a|-;generalize (ag D n).1=x at a|-;generalize (ag D n).2.1=y at a|-;generalize (ag D n).2.2=c at a|-;clear h
  go_enter func19,ntmps19
  go_wp2_with fail;refine a.mono ?_;rintro e w1⟨rfl,i⟩;go_wp2_with fail;go_returns;exact⟨rfl,ad p.o i⟩
 obtain⟨ah,ai,-,-⟩:=ao h;have R:=aa h;rw[h,errV_zero]at a;generalize (ag D n).1=x at a;generalize (ag D n).2.1=y at a;have aj:(n:Int)<=4:=ω;have HA:=aa I;clear h
 go_enter func19,ntmps19
 go_wp2_with fail;refine a.mono ?_;rintro e w1⟨rfl,i⟩;have J:=aa i;have c1:w1.cell? ⟨w.heap.size,0,none⟩=some (.slice A0 n cap):=aM i H I;have V:w.heap.size<w1.heap.size:=zW H i.size;clear i a I N;go_wp2_with fail
 go_loopg [26] n (fun g ab wr =>∃(k:Nat),k<=n/\g=n-k/\ab=.int .i64 k/\Hid (∀j,j<k->(bB (D j)).2=0)/\Bl W wr)
 case atStart=>exact⟨0,zU,rfl,rfl,(fun j U=>absurd U (Nat.not_lt_zero _):∀j,j<0->_),J.o⟩
 case round =>
  obtain⟨k,hk,rfl,rfl,K,r⟩:=hrel;have u:=aa r
  by_cases G:k<n
  ·have af:(k:Int)<(n:Int):=ω;obtain⟨T,h0|⟨b,o,rfl,B⟩⟩:=X.o.later (ad p.o r)
   ·omega
   have O:(n:Int)<=(cap:Int):=ω;obtain⟨h0,h1,h2,S⟩:=B.2 k G;have ae:b<wr.heap.size:=B.1;have v:=bu wr (D k) (A k) (C k) 67;have f:=BQ (D k) (A k) (C k) (aH wr (D k) (A k) (C k) 67) (S.later v);obtain⟨Y,Z,d2,Q⟩:=gl (w:=wr) (d:=D k) (A:=A k) (cap:=C k) zS;have t:=aa v;unfold dw at f;obtain⟨W2,F⟩:=ar (aH wr (D k) (A k) (C k) 67);rw[F]at Y Z d2 Q t f;unfold aH at F;clear S B v r
   by_cases h:(bB (D k)).2=0
   ·rw[h,errV_zero]at f
    have L:Hid (∀j,j<k+1->(bB (D j)).2=0):=fun j U=>by
     by_cases e:j=k
     ·rw[e];exact h
     exact K.o j ω
    generalize (bB (D k)).1=z at f;clear h;go_wp2_with fail;refine f.mono ?_;rintro e w2⟨rfl,m⟩;have s:=aa (ad u.o (ad t.o m));clear m f;go_wp2_with fail
    go_roundg (n-(k+1))
    case measure=>omega
    case rel=>exact⟨k+1,ω,rfl,by go_num,L,s.o⟩
   have l:Hid (au D n=((k:Int),(bB (D k)).1,(bB (D k)).2)):=Po R.o G h K.o;have E:=aa h;rw[ac h]at f;generalize (bB (D k)).1=z at f l;generalize (bB (D k)).2=c at f l E;clear h;go_wp2_with fail;refine f.mono ?_;rintro e w2⟨rfl,m⟩;have s:=aa (ad u.o (ad t.o m));clear m f;go_wp2_with fail;go_returns;rw[l.o];exact⟨by rw[ac E.o];rfl,ad p.o s.o⟩
  have P:k=n:=ω;subst P;have l:Hid (au D k=(-1,-1,0)):=O6 R.o K.o;clear r;go_wp2_with fail;go_returns;rw[l.o];exact⟨rfl,ad p.o u.o⟩
theorem wP(p:Nat->Bool):∀n,p n=false->∃k,k<=n/\p k=false/\∀t,t<k->p t=true:=by
 intro n
 induction n with
 |zero=>intro h;exact⟨0,zT,h,fun t b=>absurd b (Nat.not_lt_zero _)⟩
 |succ n ih =>
  intro h
  by_cases e:∃j,j<=n/\p j=false
  ·obtain⟨j,l,a⟩:=e
   clear ih;have q:∀m j,j<=m->p j=false->∃k,k<=j/\p k=false/\∀t,t<k->p t=true:=by
    intro m
    induction m with
    |zero=>intro j l a;exact⟨j,zT,a,fun t b=>ω⟩
    |succ m ih =>
     intro j l a
     by_cases d:∃i,i<j/\p i=false
     ·obtain⟨i,r,f⟩:=d
      obtain⟨k,g,c,o⟩:=ih i ω f
      exact⟨k,ω,c,o⟩
     refine⟨j,zT,a,fun t b=>?_⟩
     cases hp:p t
     ·exact absurd ⟨t,b,hp⟩ d
     rfl
   obtain⟨k,f,g,c⟩:=q j j zT a;exact⟨k,ω,g,c⟩
  refine⟨n+1,zT,h,fun t b=>?_⟩
  cases hp:p t
  ·exact absurd ⟨t,ω,hp⟩ e
  rfl
theorem qL(x:ByteArray):Op.bytesLess x.toList x.toList=false:=by
 rw[bytesLess_eq];exact decide_eq_false (List.lt_irrefl _)
theorem G2{N:List ByteArray}(B:∀j,1<=j->j<N.length->fM N j=false)(x:ByteArray)(S:Nat->ByteArray)(q:S=fun j=>if j<N.length then N.getD j pw else x):
  (decide (Lib.bsGo (fun t=>Op.bytesLess (S t).toList x.toList) N.length 0 N.length<N.length/\S (Lib.bsGo (fun t=>Op.bytesLess (S t).toList x.toList) N.length 0 N.length)=x)=decide (0<=db N x)) /\
  (0<=db N x->(Lib.bsGo (fun t=>Op.bytesLess (S t).toList x.toList) N.length 0 N.length:Int)=db N x):=by
 have d:=JR B;have b:∀j,j<N.length->S j=N.getD j pw:=fun j r=>by rw[q];exact if_pos r
 have s:∀j,N.length<=j->S j=x:=fun j r=>by rw[q];exact if_neg ω
 obtain⟨k,y,v,p⟩:=wP (fun t=>Op.bytesLess (S t).toList x.toList) N.length (by show Op.bytesLess (S N.length).toList x.toList=false;rw[s _ zT];exact qL x)
 have a:Op.bytesLess (S k).toList x.toList=false:=v;have l:∀t,t<k->Op.bytesLess (S t).toList x.toList=true:=p;have w:∀t,k<=t->Op.bytesLess (S t).toList x.toList=false:=by
  intro t C
  by_cases e:N.length<=t
  ·rw[s t e];exact qL x
  by_cases u:t=k
  ·rw[u];exact a
  rw[b t ω,bytesLess_eq]
  rw[b k ω,bytesLess_eq]at a
  refine decide_eq_false fun h=>of_decide_eq_false a (List.lt_trans (d k t ω ω) h)
 have m:Lib.bsGo (fun t=>Op.bytesLess (S t).toList x.toList) N.length 0 N.length=k:=Lib.bsGo_spec _ k p w _ _ _ ω zU y
 rw[m]
 rcases where_cases N x with⟨g,A⟩|⟨i,g,f,n⟩
 ·refine⟨?_,fun h=>ω⟩
  rw[g,decide_eq_false (show ¬(0:Int)<=-1 by omega)]
  refine decide_eq_false fun h=>?_
  rw[b k h.1]at h;exact A k h.1 h.2
 have o:k=i:=by
  have z:k<=i:=by
   apply Nat.le_of_not_lt;intro h;have:=l i h;rw[b i f,n,qL]at this;cases this
  by_cases e:k=i
  ·exact e
  have c:=d k i ω f
  rw[b k ω,bytesLess_eq]at a
  rw[n]at c;exact absurd c (of_decide_eq_false a)
 subst o;refine⟨?_,fun _=>g.symm⟩
 rw[g,decide_eq_true (show(0:Int)<=(k:Int) by omega)]
 exact decide_eq_true ⟨f,by rw[b k f];exact n⟩
theorem vM(An:Option Addr)(a:Nat)(N:List ByteArray)(x:ByteArray)(w:World)(m:MT w An a N)(n:∀j,1<=j->j<N.length->fM N j=false):
  Calls prog 158 #[.slice An N.length a,.string x] w fun e w'=>(∃i:Nat,e=.returned (.tuple #[.int .i64 i,.bool (decide (0<=db N x))])/\(0<=db N x->(i:Int)=db N x))/\Bl w w':=by
 obtain⟨p,g,r,k|⟨b,o,rfl,s,l⟩⟩:=m
 ·subst k
  refine(Any2.slices_BinarySearch_string_empty lays26 An a x w).mono ?_;rintro e w'⟨rfl,rfl⟩;exact⟨⟨0,rfl,fun h=>absurd h (by show ¬(0:Int)<=db [] x;unfold db;show ¬(0:Int)<=-1;omega)⟩,zS⟩
 obtain⟨d,f⟩:=G2 n x (fun j=>if j<N.length then N.getD j pw else x) rfl
 refine(Any2.slices_BinarySearch_string lays26 b o N.length a (fun j=>if j<N.length then N.getD j pw else x) x w g (fun j c=>by simp only[if_pos c];exact l j c)).mono ?_
 rintro e w'⟨rfl,q,rfl⟩;exact⟨⟨_,by rw[d],f⟩,aj zS _⟩
def GD(N:List ByteArray)(C:List (Int×Int))(x:ByteArray):Int×Int:=if 0<=db N x then C.getD (db N x).toNat noC else noC
def IB(N:List ByteArray)(x:ByteArray):Int:=if 0<=db N x then 0 else 5
theorem CI(q r:Nat)(An:Option Addr)(E:Nat)(N:List ByteArray)(Ac:Option Addr)(S:Nat)(C:List (Int×Int))(x:ByteArray)(w:World)(L:w.cell? ⟨q,0,none⟩=some (.slice An N.length E))(B:w.cell? ⟨r,0,none⟩=some (.slice Ac C.length S))(F:MT w An E N)(T:eP w Ac S C)(t:dO N C=0):
  Rt 157 #[.string x,.pointer (some ⟨q,0,none⟩),.pointer (some ⟨r,0,none⟩)] w (.tuple #[.agg #[.int .i64 (GD N C x).1,.int .i64 (GD N C x).2],errV (IB N x)]):=by
 obtain⟨a,-,O⟩:=v8 t;have d:=fun w' (f:Bl w w')=>vM An E N x w' (F.later f) O
 have P:=World.block_lt_of_cell? _ _ B;have M:=World.block_lt_of_cell? _ _ L;simp only at P M
 by_cases p:0<=db N x
 ·rw[decide_eq_true p]at d
  obtain⟨i,U,I,-⟩:∃i:Nat,db N x=(i:Int)/\i<N.length/\N.getD i pw=x:=by
   rcases where_cases N x with⟨Y,-⟩|h
   ·omega
   exact h
  obtain⟨-,-,y⟩:=T;obtain⟨b,o,rfl,z⟩:=y.resolve_left (fun e=>by rw[e]at a;simp at a;omega)
  obtain⟨c,H⟩:=ar (C.getD i noC);have k:GD N C x=c:=by unfold GD;rw[if_pos p,U];exact H
  have l:IB N x=0:=by unfold IB;rw[if_pos p]
  have R:=aa z;have V:Hid (∀j:Nat,(0<=db N x->(j:Int)=db N x)->j=i):=fun j u=>by have:=u p;omega
  have D:=aa H;have A:(i:Int)<(C.length:Int):=ω;rw[k,l,errV_zero];obtain⟨m,K⟩:=ar C.length;have W:=aa K;rw[K]at B A;clear t F O U k l y z p H K I a
  go_enter func157,ntmps157
  go_wp2_with fail;refine(d _ γ).mono ?_
  rintro e w1⟨⟨j,rfl,u⟩,f⟩;have J:=V.o j u;subst J;obtain⟨s,G⟩:=fk f;have Q:=fl f
  simp at Q
  have g:Bl w w1:=ad γ f
  clear f;obtain⟨c0,c1⟩:=R.o.2 j (by rw[W.o];omega)
  rw[D.o]at c0 c1;have n:=aa g;have X:b<w.heap.size:=R.o.1;clear g d L u;go_wp2_with fail;refine bodyPost_ret (v:=.tuple #[.agg #[.int .i64 c.1,.int .i64 c.2],.nilIface]) (by simp[results,results157,go_sem,s]) rfl ⟨rfl,?_⟩
  exact((n.o.setCell zT _).setCell zT _)
 rw[decide_eq_false p]at d;have k:GD N C x=noC:=by unfold GD;rw[if_neg p]
 have l:IB N x=5:=by unfold IB;rw[if_neg p]
 rw[k,l,ac (by decide)]
 unfold noC;clear t F O k l T a
 go_enter func157,ntmps157
 go_wp2_with fail;refine(d _ γ).mono ?_
 rintro e w1⟨⟨j,rfl,u⟩,f⟩;obtain⟨s,G⟩:=fk f;have Q:=fl f
 simp at Q
 have g:Bl w w1:=ad γ f
 have n:=aa g;clear f g d L u p;go_wp2_with fail;refine bodyPost_ret (v:=.tuple #[.agg #[.int .i64 0,.int .i64 0],.iface 71 (.int .i64 5)]) (by simp[results,results157,go_sem,s]) rfl ⟨rfl,?_⟩
 first|exact n.o|exact((n.o.setCell zT _).setCell zT _)
end Go.Proofs.YtjfampgnhccodaaGreatDoor
