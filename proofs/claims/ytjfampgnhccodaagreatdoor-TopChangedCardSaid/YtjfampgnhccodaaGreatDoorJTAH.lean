/-
  Places by number,on plain data: how many stand ahead of a place,and the place of a number; dims of a whole and so many parts,and outlines of such dims.
-/
import Derived.Defers
import Derived.Recover
import Derived.Laws.EntriesVeiled
import Derived.Lib.ItoaMem
import Derived.Lib.AtoiTie
import Derived.Shelf.Strings.Builder1
import Derived.Test.YtjfampgnhccodaaGreatDoorJTAG
set_option maxHeartbeats 64000000
namespace Go.Proofs.YtjfampgnhccodaaGreatDoor
def numTo(D:Nat->Dm)(P:Nat->Nat):Nat->Nat
 | 0=>0
 |k+1=>numTo D P k*(D k).n+P k
theorem xJ{D:Nat->Dm}{P:Nat->Nat}(k:Nat)(h:∀j,j<k->P j<(D j).n):numTo D P k<prodN D k:=by
 induction k with
 |zero=>exact Nat.one_pos
 |succ k ih =>
  have a:=ih fun j d=>h j ω
  have c:=h k ω
  rw[numTo,prodN];have b:(numTo D P k+1)*(D k).n<=prodN D k*(D k).n:=Nat.mul_le_mul_right _ a;rw[Nat.add_mul]at b
  omega
def restAt(D:Nat->Dm)(m n:Nat):Nat->Nat
 | 0=>n
 |r+1=>restAt D m n r / (D (m-1-r)).n
def cD(D:Nat->Dm)(m n k:Nat):Nat:=restAt D m n (m-1-k) % (D k).n
theorem B3{D:Nat->Dm}{P:Nat->Nat}{m:Nat}(h:∀j,j<m->P j<(D j).n)(r:Nat):r<=m->restAt D m (numTo D P m) r=numTo D P (m-r):=by
 induction r with
 |zero=>intro _;rfl
 |succ r ih =>
  intro b;rw[restAt,ih ω]
  have e:m-r=(m-1-r)+1:=ω;rw[e,numTo,show m-(r+1)=m-1-r by omega]
  have a:=h (m-1-r) ω
  rw[Nat.mul_comm,Nat.mul_add_div ω,Nat.div_eq_of_lt a,Nat.add_zero]
theorem sX{D:Nat->Dm}{P:Nat->Nat}{m:Nat}(h:∀j,j<m->P j<(D j).n){k:Nat}(a:k<m):cD D m (numTo D P m) k=P k:=by
 unfold cD;rw[B3 h _ ω,show m-(m-1-k)=k+1 by omega,numTo]
 have b:=h k a;rw[Nat.mul_comm,Nat.mul_add_mod,Nat.mod_eq_of_lt b]
theorem Fr{D:Nat->Dm}{m n:Nat}(c:n<prodN D m)(k:Nat):k<=m->numTo D (cD D m n) k=restAt D m n (m-k):=by
 have b:∀r,r<=m->restAt D m n r<prodN D (m-r):=by
  intro r
  induction r with
  |zero=>intro _;exact c
  |succ r ih =>
   intro g;have a:=ih ω
   have e:m-r=(m-1-r)+1:=ω;rw[e,prodN]at a;rw[restAt,show m-(r+1)=m-1-r by omega]
   exact Nat.div_lt_of_lt_mul (by rw[Nat.mul_comm];exact a)
 induction k with
 |zero =>
  intro _;have a:=b m zT;rw[Nat.sub_self]at a;have d:prodN D 0=1:=rfl;rw[numTo,Nat.sub_zero]
  omega
 |succ k ih =>
  intro f;rw[numTo,ih ω]
  have e:m-k=(m-1-k)+1:=ω;rw[e,restAt,show m-1-(m-1-k)=k by omega,show m-(k+1)=m-1-k by omega]
  unfold cD;have:=Nat.div_add_mod (restAt D m n (m-1-k)) (D k).n;rw[Nat.mul_comm]at this;exact this
theorem xK{D:Nat->Dm}{m n:Nat}(a:n<prodN D m):numTo D (cD D m n) m=n:=by
 rw[Fr a m zT,Nat.sub_self];rfl
theorem wz{D:Nat->Dm}{m n k:Nat}(h:1<=(D k).n):cD D m n k<(D k).n:=Nat.mod_lt _ h
def cutB(c:UInt8):List UInt8->List (List UInt8)
 | []=>[[]]
 |x :: t=>if x=c then[]:: cutB c t else match cutB c t with
  | []=>[[x]]
  |a :: r=>(x :: a):: r
def kM(c:UInt8):List (List UInt8)->List UInt8
 | []=>[]
 | [a]=>a
 |a :: b :: r=>a++c :: kM c (b :: r)
theorem o6(c:UInt8)(s:List UInt8):cutB c s≠[]:=by
 cases s with
 |nil=>simp[cutB]
 |cons x t =>
  rw[cutB]
  split
  ·simp
  split<;>simp
theorem qv(c:UInt8)(a:List UInt8){r:List (List UInt8)}(h:r≠[]):kM c (a :: r)=a++c :: kM c r:=by
 cases r with
 |nil=>exact absurd rfl h
 |cons b r=>rfl
theorem lG{c:UInt8}{a:List UInt8}(h:c∉a):cutB c a=[a]:=by
 induction a with
 |nil=>rfl
 |cons x t ih =>
  simp only[List.mem_cons,not_or]at h;rw[cutB,if_neg (fun e=>h.1 e.symm),ih h.2]
theorem eG{c:UInt8}{a:List UInt8}(h:c∉a)(s:List UInt8):cutB c (a++c :: s)=a :: cutB c s:=by
 induction a with
 |nil=>simp[cutB]
 |cons x t ih =>
  simp only[List.mem_cons,not_or]at h;rw[List.cons_append,cutB,if_neg (fun e=>h.1 e.symm),ih h.2]
theorem Hn{c:UInt8}{l:List (List UInt8)}(d:l≠[])(h:∀a∈l,c∉a):cutB c (kM c l)=l:=by
 induction l with
 |nil=>exact absurd rfl d
 |cons a r ih =>
  cases r with
  |nil=>exact lG (h a (List.mem_cons_self ..))
  |cons b r=>rw[kM,eG (h a (List.mem_cons_self ..)),ih σ fun x e=>h x (List.mem_cons_of_mem _ e)]
def sr(D:Nat->Dm)(L:List Int)(i:Nat):Bool:=decide (L.getD i 0<0)||decide (((D i).n:Int)<=L.getD i 0)
def aK(D:Nat->Dm)(n:Nat)(L:List Int):Int:=if L.length≠n then 3 else if 0<=findFrom (sr D L) n 0 then 1 else 0
def placeErr(D:Nat->Dm)(n:Nat)(L:List Int):Int:=if(ag D n).2.2≠0 then(ag D n).2.2 else aK D n L
theorem PQ{D:Nat->Dm}{n:Nat}{L:List Int}(h:L.length≠n):aK D n L=3:=by unfold aK;rw[if_pos h]
theorem PR{D:Nat->Dm}{n:Nat}{L:List Int}(h:L.length=n)(a:0<=findFrom (sr D L) n 0):aK D n L=1:=by unfold aK;rw[if_neg (by simpa using h),if_pos a]
theorem Pp{D:Nat->Dm}{n:Nat}{L:List Int}(h:L.length=n)(a :¬ 0<=findFrom (sr D L) n 0):aK D n L=0:=by unfold aK;rw[if_neg (by simpa using h),if_neg a]
theorem PK{D:Nat->Dm}{n:Nat}{L:List Int}(h:(ag D n).2.2≠0):placeErr D n L=(ag D n).2.2:=by unfold placeErr;rw[if_pos h]
theorem Md{D:Nat->Dm}{n:Nat}{L:List Int}(h:(ag D n).2.2=0):placeErr D n L=aK D n L:=by unfold placeErr;rw[if_neg (by simpa using h)]
structure InO(D:Nat->Dm)(n:Nat)(L:List Int):Prop where
 right:(ag D n).2.2=0
 len:L.length=n
 lo:∀i,i<n->0<=L.getD i 0
 hi:∀i,i<n->L.getD i 0<((D i).n:Int)
theorem ao{D:Nat->Dm}{n:Nat}(h:(ag D n).2.2=0):1<=n/\n<=4/\prodN D n<=3000/\∀i,i<n->1<=(D i).n/\(D i).n<=12:=by
 have e:=aZ h;unfold ag at h
 split at h
 ·simp at h
 split at h
 ·simp at h
 split at h
 ·rename_i h3;exact absurd h h3
 split at h
 ·simp at h
 rename_i a b c d
 exact⟨ω,ω,ω,fun i f=>⟨(aq (e.2 i f)).2.1,(aq (e.2 i f)).2.2.1⟩⟩
theorem jR{D:Nat->Dm}{n:Nat}{L:List Int}(h:placeErr D n L=0):InO D n L:=by
 unfold placeErr at h
 split at h
 ·rename_i h1;exact absurd h h1
 rename_i h1
 unfold aK at h
 split at h
 ·cases h
 split at h
 ·cases h
 rename_i h2 h3
 have c:∀i,i<n->sr D L i=false:=fun i a=>by
  rcases findFrom_cases (sr D L) n 0 with⟨_,b⟩|⟨k,b,_⟩
  ·exact b i zU ω
  rw[b]at h3;omega
 exact⟨by simpa using h1,by simpa using h2,fun i a=>by have:=c i a;simp[sr,-List.getD_eq_getElem?_getD]at this;omega,fun i a=>by have:=c i a;simp[sr,-List.getD_eq_getElem?_getD]at this;omega⟩
theorem InO.ok{D:Nat->Dm}{n:Nat}{L:List Int}(h:InO D n L):placeErr D n L=0:=by
 rw[Md h.right,Pp h.len];rw[aN]
 ·decide
 intro j _ c;have a:=h.lo j ω
 have b:=h.hi j ω
 simp[sr,-List.getD_eq_getElem?_getD]
 omega
def numI(D:Nat->Dm)(L:List Int):Nat->Int
 | 0=>0
 |k+1=>numI D L k*((D k).n:Int)+L.getD k 0
theorem qN{D:Nat->Dm}{L:List Int}(k:Nat)(h:∀i,i<k->0<=L.getD i 0):numI D L k=(numTo D (fun i=>(L.getD i 0).toNat) k:Int):=by
 induction k with
 |zero=>rfl
 |succ k ih =>
  have:=h k ω
  rw[numI,numTo,ih fun i a=>h i ω,Int.natCast_add,Int.natCast_mul,Int.toNat_of_nonneg this]
theorem yg{D:Nat->Dm}{k:Nat}(h:∀j,j<k->(D j).n<=12)(a:k<=4):prodN D k<=20736:=by
 have b:=ye h;have c:12 ^ k<=12 ^ 4:=Nat.pow_le_pow_right (by decide) a
 have d:(12:Nat) ^ 4=20736:=by decide
 omega
theorem bQ{D:Nat->Dm}{n:Nat}{L:List Int}(h:InO D n L){k:Nat}(e:k<=n):0<=numI D L k/\numI D L k<(prodN D k:Int)/\prodN D k<=20736:=by
 obtain⟨_,d,_,a⟩:=ao h.right;rw[qN k fun i hi=>h.lo i ω]
 have c:=xJ (D:=D) (P:=fun i=>(L.getD i 0).toNat) k fun j b=>by
  have:=h.lo j ω
  have:=h.hi j ω
  omega
 refine⟨ω,ω,yg (fun j b=>(a j ω).2) ω⟩
def numV(D:Nat->Dm)(n:Nat)(L:List Int):Int:=if placeErr D n L=0 then numI D L n else 0
def ah(D:Nat->Dm)(n x:Nat):List Int:=(List.range n).map fun j=>(cD D n x j:Int)
theorem fF(D:Nat->Dm)(n x:Nat):(ah D n x).length=n:=by simp[ah]
theorem kp{D:Nat->Dm}{n x i:Nat}(h:i<n):(ah D n x).getD i 0=(cD D n x i:Int):=by
 simp[ah,List.getD,h]
theorem dp{D:Nat->Dm}{n x:Nat}(h:(ag D n).2.2=0):InO D n (ah D n x):=by
 obtain⟨_,_,_,b⟩:=ao h;exact⟨h,fF ..,fun i a=>by rw[kp a];omega,fun i a=>by rw[kp a];have:=wz (D:=D) (m:=n) (n:=x) (k:=i) (b i a).1;omega⟩
theorem Bp{D:Nat->Dm}{P Q:Nat->Nat}(k:Nat)(h:∀i,i<k->P i=Q i):numTo D P k=numTo D Q k:=by
 induction k with
 |zero=>rfl
 |succ k ih=>rw[numTo,numTo,ih fun i a=>h i ω,h k ω]
theorem nj{D:Nat->Dm}{n x:Nat}(h:(ag D n).2.2=0)(b:x<prodN D n):numI D (ah D n x) n=(x:Int):=by
 rw[qN n (dp h).lo,Bp (Q:=cD D n x) n fun i a=>by rw[kp a];omega,xK b]
theorem iO{D:Nat->Dm}{n:Nat}{L:List Int}(h:InO D n L):ah D n (numI D L n).toNat=L:=by
 have c:∀j,j<n->(L.getD j 0).toNat<(D j).n:=fun j b=>by have:=h.lo j b;have:=h.hi j b;omega
 rw[qN n h.lo,Int.toNat_natCast];apply List.ext_getElem
 ·rw[fF,h.len]
 intro i a d;rw[fF]at a;have e:=sX c a;have g:=h.lo i a;have f:L.getD i 0=L[i]:=by simp[List.getD,d]
 simp only[ah,List.getElem_map,List.getElem_range];rw[e,←f]
 omega
def fW(D:Nat->Dm)(L:List Int)(i:Nat):ByteArray:=((D i).mem (L.getD i 0).toNat).name
def aY(D:Nat->Dm)(L:List Int):Nat->List UInt8
 | 0=>[]
 |k+1=>aY D L k++((if k=0 then[]else[46])++(fW D L k).data.toList)
def nameL(D:Nat->Dm)(L:List Int)(k:Nat):List (List UInt8):=(List.range k).map fun i=>(fW D L i).data.toList
def rO(D:Nat->Dm)(n:Nat)(L:List Int):ByteArray:=if placeErr D n L=0 then⟨(aY D L n).toArray⟩else⟨#[]⟩
theorem joinB_snoc(c:UInt8)(l:List (List UInt8))(x:List UInt8):kM c (l++[x])=kM c l++((if l.length=0 then[]else[c])++x):=by
 induction l with
 |nil=>simp[kM]
 |cons a r ih =>
  rw[List.cons_append,qv c a σ,ih]
  cases r with
  |nil=>simp[kM]
  |cons b r=>rw[qv c a σ];simp
theorem Gn(D:Nat->Dm)(L:List Int)(k:Nat):aY D L k=kM 46 (nameL D L k):=by
 induction k with
 |zero=>rfl
 |succ k ih=>rw[aY,nameL,List.range_succ,List.map_append,List.map_singleton,joinB_snoc,ih];simp[nameL]
theorem Fh{s:ByteArray}(h:nameErr s=0):(46:UInt8)∉s.data.toList/\s.size<=8:=by
 unfold nameErr at h
 split at h
 ·cases h
 split at h
 ·cases h
 rename_i h1 h2
 refine⟨fun f=>?_,ω⟩
 obtain⟨i,e,d⟩:=List.getElem_of_mem f;have g:s.data.toList.length=s.size:=by simp
 rcases findFrom_cases (eV s) s.size 0 with⟨_,a⟩|⟨k,a,_⟩
 ·have b:=a i zU ω
  have c:byteN s i=46:=by
   unfold byteN;rw[List.getD,zX e,Option.getD_some,d]
   decide
  rw[eV,c]at b;exact absurd b (by decide)
 rw[a]at h2;omega
theorem IS{M:Nat->Mem}{i:Nat}(h:aQ M i=0):nameErr (M i).name=0:=by
 unfold aQ at h
 split at h
 ·simp at h
 rename_i h1;simpa using h1
theorem InO.name{D:Nat->Dm}{n:Nat}{L:List Int}(h:InO D n L){i:Nat}(hi:i<n):(46:UInt8)∉(fW D L i).data.toList/\(fW D L i).size<=8:=by
 have a:=(aZ h.right).2 i hi;have b:=h.lo i hi;have c:=h.hi i hi;exact Fh (IS ((aq a).2.2.2 _ ω))
theorem InO.cut{D:Nat->Dm}{n:Nat}{L:List Int}(h:InO D n L):cutB 46 (aY D L n)=nameL D L n:=by
 have d:=(ao h.right).1;rw[Gn];refine Hn (fun e=>?_) fun a b=>?_
 ·have:=congrArg List.length e
  simp[nameL]at this
  omega
 simp[nameL]at b
 obtain⟨i,c,rfl⟩:=b;exact(h.name c).1
theorem InO.short{D:Nat->Dm}{n:Nat}{L:List Int}(h:InO D n L){k:Nat}(d:k<=n):(aY D L k).length<=9*k:=by
 induction k with
 |zero=>exact zT
 |succ k ih =>
  have a:=ih ω
  have b:=(h.name (i:=k) ω).2
  have c:(fW D L k).data.toList.length=(fW D L k).size:=by simp
  rw[aY,List.length_append,List.length_append]
  split<;>simp_all<;>omega
def pieces(s:ByteArray):List ByteArray:=(cutB 46 s.data.toList).map fun l=>⟨l.toArray⟩
def nA(s:ByteArray)(i:Nat):ByteArray:=(pieces s).getD i ⟨#[]⟩
def pk(D:Nat->Dm)(s:ByteArray)(i:Nat):Int:=findFrom (fun j=>same ((D i).mem j).name (nA s i)) (D i).n 0
def kP(D:Nat->Dm)(s:ByteArray)(i:Nat):Bool:=decide (pk D s i<0)
def gh(D:Nat->Dm)(n:Nat)(s:ByteArray):Int:=if(pieces s).length≠n then 2 else if 0<=findFrom (kP D s) n 0 then 5 else 0
def parseErr(D:Nat->Dm)(n:Nat)(s:ByteArray):Int:=if(ag D n).2.2≠0 then(ag D n).2.2 else gh D n s
def jZ(D:Nat->Dm)(s:ByteArray)(k:Nat):List Int:=(List.range k).map (pk D s)
def parseL(D:Nat->Dm)(n:Nat)(s:ByteArray):List Int:=if parseErr D n s=0 then jZ D s n else[]
theorem PM{D:Nat->Dm}{n:Nat}{s:ByteArray}(h:(pieces s).length≠n):gh D n s=2:=by unfold gh;rw[if_pos h]
theorem PO{D:Nat->Dm}{n:Nat}{s:ByteArray}(h:(pieces s).length=n)(a:0<=findFrom (kP D s) n 0):gh D n s=5:=by unfold gh;rw[if_neg (by simpa using h),if_pos a]
theorem Pi{D:Nat->Dm}{n:Nat}{s:ByteArray}(h:(pieces s).length=n)(a :¬ 0<=findFrom (kP D s) n 0):gh D n s=0:=by unfold gh;rw[if_neg (by simpa using h),if_neg a]
theorem PJ{D:Nat->Dm}{n:Nat}{s:ByteArray}(h:(ag D n).2.2≠0):parseErr D n s=(ag D n).2.2:=by unfold parseErr;rw[if_pos h]
theorem Ph{D:Nat->Dm}{n:Nat}{s:ByteArray}(h:(ag D n).2.2=0):parseErr D n s=gh D n s:=by unfold parseErr;rw[if_neg (by simpa using h)]
theorem nD(D:Nat->Dm)(s:ByteArray)(k:Nat):(jZ D s k).length=k:=by simp[jZ]
theorem Gp{D:Nat->Dm}{n:Nat}{L:List Int}(h:InO D n L):parseErr D n ⟨(aY D L n).toArray⟩=0/\jZ D ⟨(aY D L n).toArray⟩ n=L:=by
 have d:=h.cut;have g:(pieces ⟨(aY D L n).toArray⟩).length=n:=by simp[pieces,d,nameL]
 have e:∀i,i<n->pk D ⟨(aY D L n).toArray⟩ i=L.getD i 0:=fun i hi=>by
  have a:=(aZ h.right).2 i hi;have c:=h.lo i hi;have k:=h.hi i hi;have b:=Ii a (m:=(L.getD i 0).toNat) ω
  have f:nA ⟨(aY D L n).toArray⟩ i=fW D L i:=by
   simp[nA,pieces,d,nameL,List.getD,hi]
  unfold pk;rw[f];unfold dP at b;rw[if_neg (by simpa using a)]at b
  split at b
  ·exact absurd (congrArg Prod.snd b) (by show ¬(5:Int)=0;decide)
  have:=congrArg Prod.fst b;simp only at this;unfold fW;rw[this]
  omega
 refine⟨?_,?_⟩
 ·rw[Ph h.right,Pi g]
  rw[aN]
  ·decide
  intro j _ l;have:=h.lo j ω
  simp[kP,e j ω,-List.getD_eq_getElem?_getD]
  omega
 apply List.ext_getElem
 ·rw[nD,h.len]
 intro i a c;rw[nD]at a;have:=e i a
 simp[List.getD,c]at this
 simp[jZ,this]
end Go.Proofs.YtjfampgnhccodaaGreatDoor
namespace Go.Proofs.YtjfampgnhccodaaGreatDoor
open Go.ChangeShapes Go.WideShapes Go.ChangeAt Go.RowKit
set_option maxRecDepth 20000
section
variable {S:Type} {s:ByteArray} {tk:S->ByteArray->S} {r r1 r2:Rd S} {f:Nat}
theorem xp(h :¬r.at'<s.size):dv s tk f r=(r,true):=by
 cases f with
 |zero=>rfl
 |succ k=>rw[dv,if_neg h]
theorem xt(h:r.at'<s.size)(a:(cS s tk r).2=false):dv s tk (f+1) r=((cS s tk r).1,false):=by rw[dv,if_pos h,if_neg (by rw[a];decide)]
theorem xq(h:r.at'<s.size)(a:(cS s tk r).2=true)(b:(aw s tk (cS s tk r).1).2=false):dv s tk (f+1) r=((aw s tk (cS s tk r).1).1,false):=by rw[dv,if_pos h,if_pos a,if_neg (by rw[b];decide)]
theorem Dn(h:r.at'<s.size)(a:(cS s tk r).2=true)(b:(aw s tk (cS s tk r).1).2=true):dv s tk (f+1) r=dv s tk f (aw s tk (cS s tk r).1).1:=by rw[dv,if_pos h,if_pos a,if_pos b]
theorem GQ(h:(aw s tk r).2=false):iz s tk r=((aw s tk r).1,false):=by rw[iz,if_neg (by rw[h];decide)]
theorem vD(h:(aw s tk r).2=true)(a:dv s tk s.size (aw s tk r).1=(r1,false)):iz s tk r=(r1,false):=by rw[iz,if_pos h,a,if_neg (fun e=>Bool.noConfusion e)]
theorem KW(h:(aw s tk r).2=true)(a:dv s tk s.size (aw s tk r).1=(r1,true)):iz s tk r=(r1,decide (r1.opn=0)):=by rw[iz,if_pos h,a,if_pos rfl]
theorem MC(a:(cS s tk r).2=true):(cS s tk r).1.at'=r.at'+1:=by
 unfold cS at *
 split
 ·rename_i h;rw[if_pos h]at a;cases a
 rfl
theorem xP:∀(f:Nat) (r:Rd S),r.at'<=(opensR s tk f r).at'
 | 0,r=>zT
 |f+1,r=>by
  rw[opensR]
  split
  ·exact zV (by simp[wordR]) (xP f _)
  exact zT
theorem mO:∀(f:Nat) (r:Rd S),r.at'<=(aX s tk f r).at'
 | 0,r=>zT
 |f+1,r=>by
  rw[aX]
  split
  ·exact zV (by simp[wordR]) (mO f _)
  exact zT
theorem qT(r:Rd S):r.at'<=(aw s tk r).1.at':=by
 have a:r.at'<=(bA s tk r).at':=xP _ r;unfold aw
 split
 ·exact zV (zV a (by simp[wordR])) (mO _ _)
 split
 ·exact zV (zV a (by simp[wordR])) (mO _ _)
 exact a
end
theorem JG{S:Type}(T:Tkr S)(U:T.Ok)(q:Nat)(s:ByteArray)(r:Rd S)(w:World)(hs:s.size<=T.M)(P:q<T.N)(h:q≠T.p)(hR:RdS T w q s false r):
  Calls Tryz.prog 246 #[.pointer (some ⟨q,0,none⟩)] w fun e w'=>i6 T q s true w (iz s T.tk r) e w':=by
 have HR:=aa hR;have R:Hid T.Ok:=U;have ah:=U.small;have h0:=oz T U q s r w hs P h hR;clear hR U
 go_enter Tryz.func246,Tryz.ntmps246
 go_wp2_with fail;refine h0.mono ?_;rintro e w1⟨x,⟨E,rfl,H⟩|⟨E,rfl⟩⟩
 case inr =>
  have o:Hid (iz s T.tk r=((aw s T.tk r).1,false)):=GQ E;clear E h0;go_wp2_with fail;exact⟨rfl,i6.no o.o x⟩
 case inl =>
  have V:=aa E;have D:=aa H;have Y:=aa x;clear E H x h0;obtain⟨r1,z⟩:=ar ((aw s T.tk r).1);have X:=aa z;rw[z]at D;clear z;go_wp2_with fail
  go_loopg [] s.size (fun g wj =>∃(a:Rd S),dv s T.tk g a=dv s T.tk s.size r1/\s.size-a.at'<=g/\RdS T wj q s true a/\Kept T.N (fun k=>k=T.p\/k=q) w wj)
  case atStart=>exact⟨r1,rfl,ω,D.o,Y.o⟩
  case round =>
   obtain⟨a,J,ag,f,L⟩:=hrel;have Q:=aa J;have j:=aa f;have C:=aa L;have c0:=f.rd.c0;have c1:=f.rd.c1;have ab:=f.inn;clear J f L
   by_cases n:a.at'<s.size
   ·have ae:(a.at':Int)<(s.size:Int):=ω;obtain⟨g',K⟩:∃g',gk=g'+1:=⟨gk-1,ω⟩
    have B:=aa K;clear K;go_wp2_with fail
    go_quiet (fail)
    rename_i nq
    have b:Bl wr (wr.drewN nq):=aj zS nq;have c:=aa (j.o.later R.o P h b);have d:=aa (C.o.trans (aF b j.o.room));have A:=J7 T R.o q s a (wr.drewN nq) hs P h c.o;clear b;go_wp2_with fail;refine A.mono ?_;rintro e w2⟨l,⟨F,rfl,v⟩|⟨F,rfl⟩⟩
    case inr =>
     have o:Hid (iz s T.tk r=((cS s T.tk a).1,false)):=by
      refine vD V.o ?_;rw[X.o,←Q.o,B.o,xt n F]
     have i:=d.o.trans l;clear F A l;go_wp2_with fail;exact⟨rfl,i6.no o.o i⟩
    case inl =>
     have W:=aa F;have i:=aa (d.o.trans l);have af:=aa v;have y:=oz T R.o q s (cS s T.tk a).1 w2 hs P h v;clear F A l v;go_wp2_with fail;refine y.mono ?_;rintro e w3⟨m,⟨G,rfl,I⟩|⟨G,rfl⟩⟩
     case inr =>
      have o:Hid (iz s T.tk r=((aw s T.tk (cS s T.tk a).1).1,false)):=by
       refine vD V.o ?_;rw[X.o,←Q.o,B.o,xq n W.o G]
      have u:=i.o.trans m;clear G y m;go_wp2_with fail;exact⟨rfl,i6.no o.o u⟩
     case inl =>
      have HN:Hid (dv s T.tk (g'+1) a=dv s T.tk g' (aw s T.tk (cS s T.tk a).1).1):=Dn n W.o G;have u:=aa (i.o.trans m);have Z:=aa I;have ac:=qT (s:=s) (tk:=T.tk) (cS s T.tk a).1;rw[MC W.o]at ac;clear G y m I;go_wp2_with fail
      go_roundg g'
      case measure=>have:=B.o;omega
      case rel=>exact⟨_,by rw[←HN.o,←B.o,Q.o],by have:=B.o;omega,Z.o,u.o⟩
   have ae:(s.size:Int)<=(a.at':Int):=ω;have HL:Hid (dv s T.tk s.size (aw s T.tk r).1=(a,true)):=by show _=_;rw[X.o,←Q.o,xp n]
   have o:Hid (iz s T.tk r=(a,decide (a.opn=0))):=KW V.o HL.o;go_wp2_with fail
   go_quiet (fail)
   rename_i nq
   have b:Bl wr (wr.drewN nq):=aj zS nq;have c:=aa (j.o.later R.o P h b);have d:=aa (C.o.trans (aF b j.o.room));have d2:=c.o.rd.c2;clear b
   by_cases ho:a.opn=0
   ·have O:(a.opn:Int)=0:=ω;have t:Hid (iz s T.tk r=(a,true)):=by show _=_;rw[o.o,decide_eq_true ho]
    rw[O]at d2;go_wp2_with fail
    first|go_end0|skip
    exact i6.ok t.o d.o c.o
   have O:0<(a.opn:Int):=ω;have t:Hid (iz s T.tk r=(a,false)):=by show _=_;rw[o.o,decide_eq_false ho]
   go_wp2_with fail;refine(rL q a.at' a.opn s T.fv _ c.o.rd).mono ?_;rintro e w5⟨rfl,ad⟩;go_wp2_with fail;exact⟨rfl,i6.no t.o (d.o.trans (aF ad c.o.room))⟩
theorem Ns(a:Nat)(w:World):(Instr.typeAssert (.iface 294 (.int .i64 a)) 20 294 true).run Tryz.prog w=.ok (.tuple #[.int .i64 a,.bool true]) w:=by
 simp[Instr.typeAssert,run_underlying Tryz.underlying294]
theorem oS(pa pe:Addr)(a:Nat)(x y:Value)(w:World)(h:w.cell? pa=some x)(j:w.frozen? pa=false)(b:w.cell? pe=some y)(f:w.frozen? pe=false)(c:pa≠pe):
  CallsD Tryz.prog 245 #[.pointer (some pa),.pointer (some pe)] (.panicking (OS a)) w fun e u' w' =>
   e=.returned (.tuple #[])/\u'=.panicking [{ v:=.iface 294 (.int .i64 a),recovered:=true }]/\w'=(w.setCell pa (.int .i64 a)).setCell pe (.iface 71 (.int .i64 2)):=by
 unfold OS;refine callsD_of_wpS Tryz.func245 rfl fun c₀ cs d=>?_
 apply wpS_seq;apply wpS_region
 simp[wpOpsS,go_sem,recoverD,d,Tryz.ntmps245,Exit.thenS]
 refine wpS_of_wp ?_
 change Code.wp _ _ _ { tmps:=#[.pointer (some pa),.pointer (some pe),undef,undef,undef,.iface 294 (.int .i64 a),undef,undef,undef,undef,undef,undef,undef],defers:=[] } w
 have i:=Ns a;have g:(w.setCell pa (.int .i64 a)).cell? pe=some y:=(World.cell?_setCell_other _ _ _ _ c).trans b;go_wp2
 simp[bodyPostS,results,Tryz.results245]
theorem zb(pa pe:Addr)(w:World):
  CallsD Tryz.prog 245 #[.pointer (some pa),.pointer (some pe)] .returning w fun e u' w'=>e=.returned (.tuple #[])/\u'=.returning/\w'=w:=by
 refine callsD_of_wpS Tryz.func245 rfl fun c₀ cs a=>?_
 apply wpS_seq;apply wpS_region
 simp[wpOpsS,go_sem,recoverD,a,Tryz.ntmps245,Exit.thenS]
 refine wpS_of_wp ?_
 change Code.wp _ _ _ { tmps:=#[.pointer (some pa),.pointer (some pe),undef,undef,undef,.nilIface,undef,undef,undef,undef,undef,undef,undef],defers:=[] } w
 go_wp2;cases c₀
 simp_all [bodyPostS,results,Tryz.results245]
def fX(w:World)(s:ByteArray)(fv:Value):World:=((w.alloc (.cells #[.int .i64 0] 3)).alloc (.cells #[.nilIface] 29)).alloc (.cells #[.string s,.int .i64 0,.int .i64 0,fv] 296)
theorem BX(w:World)(s:ByteArray)(fv:Value):(fX w s fv).heap.size=w.heap.size+3:=by unfold fX;simp
theorem yp(w:World)(s:ByteArray)(fv:Value):Bl w (fX w s fv):=by unfold fX;go_grown
theorem JK(w:World)(s:ByteArray)(fv:Value):dg (fX w s fv) (w.heap.size+1+1) s 0 0 fv:=by
 unfold dg fX;have h:=heap_alloc_new ((w.alloc (.cells #[.int .i64 0] 3)).alloc (.cells #[.nilIface] 29)) (.cells #[.string s,.int .i64 0,.int .i64 0,fv] 296)
 simpa using h
theorem JJ(w:World)(s:ByteArray)(fv:Value):(fX w s fv).heap[w.heap.size]?=some (.cells #[.int .i64 0] 3 (0,0)):=by
 unfold fX;rw[heap_alloc_old _ _ (by simp;omega),heap_alloc_old _ _ σ]
 exact heap_alloc_new _ _
theorem FP(w:World)(s:ByteArray)(fv:Value):(fX w s fv).heap[w.heap.size+1]?=some (.cells #[.nilIface] 29 (0,0)):=by
 unfold fX;rw[heap_alloc_old _ _ σ]
 have h:=heap_alloc_new (w.alloc (.cells #[.int .i64 0] 3)) (.cells #[.nilIface] 29)
 simpa using h
theorem uL{w:World}{q T:Nat}{v:Value}(h:w.heap[q]?=some (.cells #[v] T (0,0))):w.cell? ⟨q,0,none⟩=some v/\w.frozen? ⟨q,0,none⟩=false:=⟨by simp[World.cell?,h],by simp[World.frozen?,h]⟩
theorem te{S:Type}(T:Tkr S)(J:T.Ok)(s:ByteArray)(st:S)(w:World)(hs:s.size<=T.M)(hN:T.N=w.heap.size+3)(hp:T.p<w.heap.size)(hI:T.I st w)(Z:T.G 0 0 false st)(x:Rd S×Bool)(hx:iz s T.tk ⟨0,0,st⟩=x):
  Calls Tryz.prog 195 #[.string s,T.fv] w fun e w'=>(Kept w.heap.size (fun k=>k=T.p) w w'/\T.N<=w'.heap.size)/\((x.2=true/\e=.returned (.tuple #[.int .i64 0,.nilIface])/\T.I x.1.st w'/\T.G x.1.at' x.1.opn true x.1.st)\/(x.2=false/\e=.returned (.tuple #[.int .i64 (x.1.at':Int),errV 2]))):=by
 have ad:∀(fn:Fn) (first cap:Array Value) (w:World),(Instr.makeFunc fn first cap).run Tryz.prog w=.ok (.func fn first cap) w:=fun _ _ _ _=>rfl
 have m:=yp w s T.fv;have hz:=BX w s T.fv;have hq:w.heap.size+1+1<T.N:=ω;have H:w.heap.size+1+1≠T.p:=ω;have C:RdS T (fX w s T.fv) (w.heap.size+1+1) s false ⟨0,0,st⟩:=⟨JK w s T.fv,J.stay _ _ _ _ hq H hI (je m),Z,zU,zT,ω⟩
 have a:=JG T J (w.heap.size+1+1) s ⟨0,0,st⟩ (fX w s T.fv) hs hq H C;rw[hx]at a;have o:=aa m;have L:Hid ((fX w s T.fv).heap[w.heap.size]?=some (.cells #[.int .i64 0] 3 (0,0))):=JJ w s T.fv;have O:Hid ((fX w s T.fv).heap[w.heap.size+1]?=some (.cells #[.nilIface] 29 (0,0))):=FP w s T.fv;have Y:=aa hz;have X:Hid T.Ok:=J;clear m hz C hI Z J;obtain⟨W,hW⟩:=ar (fX w s T.fv);rw[hW]at a o L O Y;have Q:w.heap.size<T.N:=ω;have R:w.heap.size+1<T.N:=ω;have D:w.heap.size≠T.p:=ω;have E:w.heap.size+1≠T.p:=ω;have V:Hid (∀(w1:World) (u v:Value),w1.cell? ⟨w.heap.size,0,none⟩=some (.int .i64 0)->w1.cell? ⟨w.heap.size+1,0,none⟩=some .nilIface->Kept T.N (fun k=>k=T.p\/k=w.heap.size+1+1) W w1->((w1.setCell ⟨w.heap.size,0,none⟩ u).setCell ⟨w.heap.size+1,0,none⟩ v).cell? ⟨w.heap.size,0,none⟩=some u/\((w1.setCell ⟨w.heap.size,0,none⟩ u).setCell ⟨w.heap.size+1,0,none⟩ v).cell? ⟨w.heap.size+1,0,none⟩=some v/\Kept w.heap.size (fun k=>k=T.p) w ((w1.setCell ⟨w.heap.size,0,none⟩ u).setCell ⟨w.heap.size+1,0,none⟩ v)/\T.N<=((w1.setCell ⟨w.heap.size,0,none⟩ u).setCell ⟨w.heap.size+1,0,none⟩ v).heap.size):=by
  intro w1 u v z A d;refine⟨?_,?_,⟨?_,?_,?_,?_,?_⟩,?_⟩
  ·rw[World.cell?_setCell_other _ _ _ _ σ]
   exact World.cell?_setCell_same _ _ _ z
  ·refine World.cell?_setCell_same _ _ _ (u:=.nilIface) ?_
   rw[World.cell?_setCell_other _ _ _ _ σ]
   exact A
  ·exact(show _ from d.os).trans o.o.os
  ·exact(show _ from d.tape).trans o.o.tape
  ·exact(show _ from d.output).trans o.o.output
  ·have:=d.size;have:=o.o.size;simp;omega
  ·intro k b ac
   rw[ae _ _ _ _ _ ω,ae _ _ _ _ _ ω,d.block k ω ω]
   exact o.o.block k b
  have:=d.size;have:=Y.o;simp;omega
 unfold fX Tkr.fv at hW;unfold Tkr.fv
 go_enter_defers Tryz.func195,Tryz.ntmps195
 go_wp2_with fail;refine a.mono ?_;rintro e w1⟨b,⟨y,rfl,B⟩|⟨y,rfl⟩⟩
 case inl =>
  have n:∀k,k<T.N->k≠T.p->k≠w.heap.size+1+1->w1.heap[k]?=W.heap[k]?:=fun k z A d=>b.block k z (fun h=>h.elim A d)
  have P:=uL ((n w.heap.size ω ω ω).trans L.o)
  have ce:=uL ((n (w.heap.size+1) ω ω ω).trans O.o)
  obtain⟨g,r⟩:=P;obtain⟨i,t⟩:=ce;have K:=aa y;have q:=aa B;have l:=aa b;clear y B b a n;go_wp2_with fail;refine leaves_cons (f:=245) (args:=#[.pointer (some ⟨w.heap.size,0,none⟩),.pointer (some ⟨w.heap.size+1,0,none⟩)]) σ (by simp[go_sem]) ?_
  refine(zb ⟨w.heap.size,0,none⟩ ⟨w.heap.size+1,0,none⟩ _).mono ?_;rintro e u' ab⟨rfl,rfl,rfl⟩;obtain⟨r1,r2,U⟩:=V.o w1 (.int .i64 0) .nilIface g i l.o;have r4:=X.o.stay _ _ _ _ R E (X.o.stay _ _ _ _ Q D q.o.mem (dI (j:=0) (v:=.int .i64 0) (dt w1 (some w.heap.size)))) (dI (j:=0) (v:=.nilIface) (dt _ (some (w.heap.size+1))));have c:(results Tryz.f195 #[.string s,.func (.func T.F) T.first #[],undef,undef,.pointer (some ⟨w.heap.size,0,none⟩),.pointer (some ⟨w.heap.size+1,0,none⟩),.pointer (some ⟨w.heap.size+1+1,0,none⟩),.func (.func 245) #[] #[.pointer (some ⟨w.heap.size,0,none⟩),.pointer (some ⟨w.heap.size+1,0,none⟩)],.string s,.func (.func T.F) T.first #[],.agg #[.string s,.int .i64 0,.int .i64 0,.func (.func T.F) T.first #[]],.tuple #[]]).run Tryz.prog ((w1.setCell ⟨w.heap.size,0,none⟩ (.int .i64 0)).setCell ⟨w.heap.size+1,0,none⟩ .nilIface)=.ok (.tuple #[.int .i64 0,.nilIface]) ((w1.setCell ⟨w.heap.size,0,none⟩ (.int .i64 0)).setCell ⟨w.heap.size+1,0,none⟩ .nilIface):=by
   simp[results,Tryz.results195,go_sem,r1,r2]
  exact⟨_,c,U,Or.inl ⟨K.o,rfl,r4,q.o.good⟩⟩
 case inr =>
  have n:∀k,k<T.N->k≠T.p->k≠w.heap.size+1+1->w1.heap[k]?=W.heap[k]?:=fun k z A d=>b.block k z (fun h=>h.elim A d)
  have P:=uL ((n w.heap.size ω ω ω).trans L.o)
  have ce:=uL ((n (w.heap.size+1) ω ω ω).trans O.o)
  obtain⟨g,r⟩:=P;obtain⟨i,t⟩:=ce;have K:=aa y;have l:=aa b;clear y b a n;go_wp2_with fail;refine leaves_cons (f:=245) (args:=#[.pointer (some ⟨w.heap.size,0,none⟩),.pointer (some ⟨w.heap.size+1,0,none⟩)]) σ (by simp[go_sem]) ?_
  refine(oS ⟨w.heap.size,0,none⟩ ⟨w.heap.size+1,0,none⟩ x.1.at' _ _ w1 g r i t σ).mono ?_
  rintro e u' ab⟨rfl,rfl,rfl⟩;obtain⟨r1,r2,U⟩:=V.o w1 (.int .i64 x.1.at') (.iface 71 (.int .i64 2)) g i l.o;have c:(results Tryz.f195 #[.string s,.func (.func T.F) T.first #[],undef,undef,.pointer (some ⟨w.heap.size,0,none⟩),.pointer (some ⟨w.heap.size+1,0,none⟩),.pointer (some ⟨w.heap.size+1+1,0,none⟩),.func (.func 245) #[] #[.pointer (some ⟨w.heap.size,0,none⟩),.pointer (some ⟨w.heap.size+1,0,none⟩)],.string s,.func (.func T.F) T.first #[],.agg #[.string s,.int .i64 0,.int .i64 0,.func (.func T.F) T.first #[]],undef]).run Tryz.prog ((w1.setCell ⟨w.heap.size,0,none⟩ (.int .i64 x.1.at')).setCell ⟨w.heap.size+1,0,none⟩ (.iface 71 (.int .i64 2)))=.ok (.tuple #[.int .i64 (x.1.at':Int),.iface 71 (.int .i64 2)]) ((w1.setCell ⟨w.heap.size,0,none⟩ (.int .i64 x.1.at')).setCell ⟨w.heap.size+1,0,none⟩ (.iface 71 (.int .i64 2))):=by
   simp[results,Tryz.results195,go_sem,r1,r2]
  exact⟨_,c,U,Or.inr ⟨K.o,rfl⟩⟩
end Go.Proofs.YtjfampgnhccodaaGreatDoor
namespace Go.Proofs.YtjfampgnhccodaaGreatDoor
open Go.Lib
theorem decFrom_append(l1 l2:List UInt8):∀aa,decFrom aa (l1++l2)=(decFrom aa l1).bind fun m=>decFrom m l2:=by
 induction l1 with
 |nil=>intro aa;rfl
 |cons a t ih =>
  intro aa;simp only[List.cons_append,decFrom];cases digitVal a with
  |none=>rfl
  |some d=>exact ih _
theorem jM(d:Nat)(h:d<10):digitVal (UInt8.ofNat (48+d))=some d:=by
 have e:(UInt8.ofNat (48+d)).toNat=48+d:=by simp;omega
 unfold digitVal;rw[e,if_pos ω]
 congr 1
 omega
theorem lI(u:Nat):∀aa,decFrom aa (decDigits u)=some (aa*10 ^ (decDigits u).length+u):=by
 induction u using Nat.strongRecOn with
 |_ u ih =>
  intro aa
  by_cases h:u<10
  ·rw[decDigits_one h]
   simp only[decFrom,jM u h,List.length_singleton,Nat.pow_one]
  rw[decDigits,dif_neg h,decFrom_append,ih (u / 10) ω]
  simp only[Option.bind_some,decFrom,jM (u % 10) ω,List.length_append,List.length_singleton,Nat.pow_succ]
  congr 1
  have e:u / 10*10+u % 10=u:=ω;generalize 10 ^ (decDigits (u / 10)).length=p at *;rw[Nat.add_mul,Nat.mul_assoc]
  omega
theorem lH(u:Nat):decDigits u≠[]:=by
 rw[decDigits]
 split<;>simp
theorem decNat_decDigits(u:Nat):decNat (decDigits u)=some u:=by
 unfold decNat;rw[if_neg (by simp[lH]),lI]
 simp
theorem jQ(u:Nat):∃d r,decDigits u=UInt8.ofNat (48+d):: r/\d<10/\(1<=u->1<=d)/\(u<10->r=[]):=by
 induction u using Nat.strongRecOn with
 |_ u ih =>
  by_cases h:u<10
  ·exact⟨u,[],by rw[decDigits_one h],h,fun h=>h,fun _=>rfl⟩
  obtain⟨d,r,b,c,e,_⟩:=ih (u / 10) ω
  exact⟨d,r++[UInt8.ofNat (48+u % 10)],by rw[decDigits,dif_neg h,b];rfl,c,fun _=>e ω,fun a=>absurd a h⟩
theorem fd(d:Nat)(h:d<10):(UInt8.ofNat (48+d)).toNat=48+d:=by simp;omega
theorem sH(n:Int):atoi (itoa n)=some n:=by
 unfold itoa
 split
 ·next h =>
  simp only[atoi,beq_self_eq_true,if_true,decNat_decDigits,Option.map_some]
  congr 1
  omega
 next h =>
 obtain⟨d,r,e,g,_,_⟩:=jQ n.toNat;have c:(UInt8.ofNat (48+d) == 45)=false:=by
  rw[beq_eq_false_iff_ne];intro f;have:=congrArg UInt8.toNat f;rw[fd d g]at this;have a:(45:UInt8).toNat=45:=rfl
  omega
 have b:(UInt8.ofNat (48+d) == 43)=false:=by
  rw[beq_eq_false_iff_ne];intro f;have:=congrArg UInt8.toNat f;rw[fd d g]at this;have a:(43:UInt8).toNat=43:=rfl
  omega
 have i:=decNat_decDigits n.toNat;rw[e]at i|-;simp only[atoi,c,b,Bool.false_eq_true,if_false,i,Option.map_some]
 congr 1
 omega
def uF(l:List UInt8):Option Int :=
 if(trimPrefix l [45]).length<=15 then(match atoi l with|some v=>if itoa v=l then some v else none|none=>none)else none
theorem ji(u k:Nat)(c:1<=k)(h:u<10 ^ k):(decDigits u).length<=k:=by
 induction k generalizing u with
 |zero=>omega
 |succ k ih =>
  by_cases b:u<10
  ·rw[decDigits_one b];simp
  rw[decDigits,dif_neg b,List.length_append,List.length_singleton];have a:1<=k:=by
   rcases Nat.eq_zero_or_pos k with rfl|h0
   ·omega
   exact h0
  have:=ih (u / 10) a (by rw[Nat.pow_succ]at h;omega)
  omega
theorem kw(n:Int):trimPrefix (itoa n) [45]=decDigits n.natAbs:=by
 unfold itoa
 split
 ·next h=>simp[trimPrefix,hasPrefix]
 next h =>
 have e:n.toNat=n.natAbs:=ω;rw[e];obtain⟨d,r,e,f,_,_⟩:=jQ n.natAbs;rw[e];have hne :¬(45:UInt8)=UInt8.ofNat (48+d):=by
  intro g;have c:=congrArg UInt8.toNat g;have a:(45:UInt8).toNat=45:=rfl;rw[fd d f,a]at c
  omega
 generalize UInt8.ofNat (48+d)=b at *;unfold trimPrefix;rw[if_neg];unfold hasPrefix
 simp[hne]
theorem Fq(n:Int)(b : -1000000000000<=n)(c:n<=1000000000000):uF (itoa n)=some n:=by
 unfold uF;have a:=ji n.natAbs 15 ω ω
 rw[kw,if_pos a,sH]
 simp
end Go.Proofs.YtjfampgnhccodaaGreatDoor
namespace Go.Proofs.YtjfampgnhccodaaGreatDoor
open Go.ChangeShapes Go.WideShapes Go.ChangeAt Go.RowKit
theorem jN{w:World}{o:Obj}{k:Nat}{x:Obj}(h:w.heap[k]?=some x):(w.alloc o).heap[k]?=some x:=by
 rw[heap_alloc_old _ _ (zY h).1];exact h
theorem wH{w:World}{cs:Array Value}{t k:Nat}(h:w.heap.size=k):(w.alloc (.cells cs t)).heap[k]?=some (.cells cs t (0,0)):=by
 subst h;exact heap_alloc_new ..
end Go.Proofs.YtjfampgnhccodaaGreatDoor
namespace Go.Proofs
open Go.Shelf
def Tryz.lays166_ren:Go.Shelf.Ren:=⟨fun| 166=>34| 240=>77| 276=>122|n=>n,fun| 0=>0| 3=>3| 4=>4| 9=>9| 20=>20| 37=>95| 70=>94| 72=>97| 75=>29| 164=>200| 5=>5| 80=>103|n=>n,fun|n=>n⟩
theorem Tryz.lays166:Go.Proofs.Lays.n166 Tryz.prog Tryz.lays166_ren:={
 mixed:=by kernel_rfl
 f166:=Tryz.func34.trans (congrArg some (by kernel_rfl))
 f240:=Tryz.func77.trans (congrArg some (by kernel_rfl))
 f276:=Tryz.func122.trans (congrArg some (by kernel_rfl))
 t0:=Tryz.underlying0
 a0:=Tryz.isAgg0
 z0:=Tryz.sizeOf0
 v0:=Tryz.zeroValue0
 t3:=Tryz.underlying3
 a3:=Tryz.isAgg3
 z3:=Tryz.sizeOf3
 v3:=Tryz.zeroValue3
 t4:=Tryz.underlying4
 a4:=Tryz.isAgg4
 z4:=Tryz.sizeOf4
 v4:=Tryz.zeroValue4
 t9:=Tryz.underlying9
 a9:=Tryz.isAgg9
 z9:=Tryz.sizeOf9
 v9:=Tryz.zeroValue9
 t20:=Tryz.underlying20
 a20:=Tryz.isAgg20
 z20:=Tryz.sizeOf20
 v20:=Tryz.zeroValue20
 t37:=Tryz.underlying95
 a37:=Tryz.isAgg95
 z37:=Tryz.sizeOf95
 v37:=Tryz.zeroValue95
 t70:=Tryz.underlying94
 a70:=Tryz.isAgg94
 z70:=Tryz.sizeOf94
 v70:=Tryz.zeroValue94
 t72:=Tryz.underlying97
 a72:=Tryz.isAgg97
 z72:=Tryz.sizeOf97
 v72:=Tryz.zeroValue97
 t75:=Tryz.underlying29
 a75:=Tryz.isAgg29
 z75:=Tryz.sizeOf29
 v75:=Tryz.zeroValue29
 t164:=Tryz.underlying200
 a164:=Tryz.isAgg200
 z164:=Tryz.sizeOf200
 v164:=Tryz.zeroValue200 }
theorem Tryz.extra166:Builder.Extra Tryz.prog Tryz.lays166_ren:={
 sizeBuilder:=by kernel_rfl
 liesBuilder:=by kernel_rfl
 t5:=Tryz.underlying5
 a5:=Tryz.isAgg5
 z5:=Tryz.sizeOf5
 v5:=Tryz.zeroValue5
 infoByte:=by kernel_rfl
 cellsByte:=by kernel_rfl
 sizeByte:=by kernel_rfl
 neB5:=by decide }
def Tryz.lays169_ren:Go.Shelf.Ren:=⟨fun| 169=>41|n=>n,fun| 0=>0| 3=>3| 9=>9| 37=>95| 70=>94| 72=>97| 127=>162| 5=>5|n=>n,fun|n=>n⟩
theorem Tryz.lays169:Go.Proofs.Lays.n169 Tryz.prog Tryz.lays169_ren:={
 mixed:=by kernel_rfl
 f169:=Tryz.func41.trans (congrArg some (by kernel_rfl))
 t0:=Tryz.underlying0
 a0:=Tryz.isAgg0
 z0:=Tryz.sizeOf0
 v0:=Tryz.zeroValue0
 t3:=Tryz.underlying3
 a3:=Tryz.isAgg3
 z3:=Tryz.sizeOf3
 v3:=Tryz.zeroValue3
 t9:=Tryz.underlying9
 a9:=Tryz.isAgg9
 z9:=Tryz.sizeOf9
 v9:=Tryz.zeroValue9
 t37:=Tryz.underlying95
 a37:=Tryz.isAgg95
 z37:=Tryz.sizeOf95
 v37:=Tryz.zeroValue95
 t70:=Tryz.underlying94
 a70:=Tryz.isAgg94
 z70:=Tryz.sizeOf94
 v70:=Tryz.zeroValue94
 t72:=Tryz.underlying97
 a72:=Tryz.isAgg97
 z72:=Tryz.sizeOf97
 v72:=Tryz.zeroValue97
 t127:=Tryz.underlying162
 a127:=Tryz.isAgg162
 z127:=Tryz.sizeOf162
 v127:=Tryz.zeroValue162 }
theorem Tryz.extra169:Builder.Extra Tryz.prog Tryz.lays169_ren:={
 sizeBuilder:=by kernel_rfl
 liesBuilder:=by kernel_rfl
 t5:=Tryz.underlying5
 a5:=Tryz.isAgg5
 z5:=Tryz.sizeOf5
 v5:=Tryz.zeroValue5
 infoByte:=by kernel_rfl
 cellsByte:=by kernel_rfl
 sizeByte:=by kernel_rfl
 neB5:=by decide }
end Go.Proofs
namespace Go.Proofs.YtjfampgnhccodaaGreatDoor
open Go Go.ChangeShapes Go.WideShapes Go.ChangeAt Go.RowKit
def Ag(X:List Nat)(s s':Nat->Value):Prop := ∀i,i∉X->s' i=s i
end Go.Proofs.YtjfampgnhccodaaGreatDoor
namespace Go.Proofs.YtjfampgnhccodaaGreatDoor
open Go Go.ChangeShapes Go.WideShapes Go.ChangeAt Go.RowKit
set_option maxRecDepth 1000000
set_option maxHeartbeats 64000000
theorem rc(b j:Nat):(⟨b,0,none⟩:Addr).add j=⟨b,j,none⟩:=by unfold Addr.add;split<;>simp_all
theorem cV{w:World}{base e aa n:Nat}{v:Value}{xs:List Value}(h:w.ownsRow base e aa v n xs):∃A cap,v=.slice A n cap:=by
 rcases h.2 with⟨rfl,b⟩|⟨g,cap,a,rfl,_⟩
 ·exact⟨none,0,by rw[b]⟩
 exact⟨_,_,rfl⟩
end Go.Proofs.YtjfampgnhccodaaGreatDoor
namespace Go.Proofs.YtjfampgnhccodaaGreatDoor
open Go.ChangeShapes Go.WideShapes Go.ChangeAt Go.RowKit
set_option maxRecDepth 20000
theorem Ig:bo 183:=fun args w=>by simp[callFunc,Tryz.func183];rfl
theorem EK(m:Mem)(s:ByteArray)(q:Nat)(w:World)(a:q<w.heap.size)(h:w.cell? ⟨q,0,none⟩=some (.string s)):Rt 183 #[jh m,.pointer (some ⟨q,0,none⟩)] w (.bool (same m.name s)):=by
 unfold jh
 go_enter Tryz.func183,Tryz.ntmps183
 go_wp2_with fail;go_ret;exact⟨by simp[same],by go_grown⟩
def fe(w:World)(d:Dm)(A:Option Addr)(cap:Nat)(s:ByteArray)(T T':Nat):World:=(aH w d A cap T).alloc (.cells #[.string s] T')
theorem Bx(w:World)(d:Dm)(A:Option Addr)(cap:Nat)(s:ByteArray)(T T':Nat):(fe w d A cap s T T').cell? ⟨w.heap.size,2,none⟩=some (.slice A d.n cap)/\(fe w d A cap s T T').cell? ⟨w.heap.size+1,0,none⟩=some (.string s):=by
 refine⟨?_,?_⟩
 ·unfold fe
  rw[World.cell?_alloc_lt _ _ ⟨w.heap.size,2,none⟩ (by rw[bg];exact Nat.lt_succ_self _)]
  exact(fE w d A cap T).2.2
 unfold fe;rw[←bg w d A cap T]
 simp
theorem uS(w:World)(d:Dm)(A:Option Addr)(cap:Nat)(s:ByteArray)(T T':Nat):(fe w d A cap s T T').heap.size=w.heap.size+2:=by unfold fe;simp[bg]
theorem ss(w:World)(d:Dm)(A:Option Addr)(cap:Nat)(s:ByteArray)(T T':Nat):Bl w (fe w d A cap s T T'):=by unfold fe aH;go_grown
theorem wO{d:Dm}{s:ByteArray}(h:(am d).2≠0):dP d s=(0,(am d).2):=by unfold dP;rw[if_pos h]
theorem lT{d:Dm}{s:ByteArray}(h:(am d).2=0)(a:findFrom (fun j=>same (d.mem j).name s) d.n 0<0):dP d s=(0,5):=by unfold dP;rw[if_neg (by simpa using h),if_pos a]
theorem lV{d:Dm}{s:ByteArray}(h:(am d).2=0)(a :¬findFrom (fun j=>same (d.mem j).name s) d.n 0<0):dP d s=(findFrom (fun j=>same (d.mem j).name s) d.n 0,0):=by unfold dP;rw[if_neg (by simpa using h),if_neg a]
theorem Ih(d:Dm)(A:Option Addr)(cap:Nat)(s:ByteArray)(w:World)(z:dC w A cap d.n d.mem):Rt 133 #[dw d A cap,.string s] w (.tuple #[.int .i64 (dP d s).1,errV (dP d s).2]):=by
 have F:=uS w d A cap s 67 9;have m:=ss w d A cap s 67 9;have g:=gD d A cap (fe w d A cap s 67 9) (z.later m);obtain⟨o2,o3⟩:=Bx w d A cap s 67 9;unfold dw at g|-;have C:=aa z;have x:Hid ((fe w d A cap s 67 9).cell? ⟨w.heap.size,2,none⟩=some (.slice A d.n cap)/\(fe w d A cap s 67 9).cell? ⟨w.heap.size+1,0,none⟩=some (.string s)):=⟨o2,o3⟩;have k:=aa m;have u:=aa F;clear z o2 o3 m F
 by_cases i:(am d).2=0
 ·obtain⟨D,I,B,-⟩:=aq i
  rw[i,D,errV_zero]at g;have q:=aa i;clear i D
  go_enter Tryz.func133,Tryz.ntmps133
  go_wp2_with fail;refine g.mono ?_;rintro e w1⟨rfl,a⟩;have y:Bl w w1:=ad k.o a;have H:w.heap.size+1<w1.heap.size:=by
   have:=a.size;rw[u.o]at this
   omega
  have K:w1.cell? ⟨w.heap.size,2,none⟩=some (.slice A d.n cap):=aM a (by show w.heap.size<_;rw[u.o];omega) x.o.1
  have E:w1.cell? ⟨w.heap.size+1,0,none⟩=some (.string s):=aM a (by show w.heap.size+1<_;rw[u.o];omega) x.o.2
  obtain⟨G,J|⟨b,o,rfl,r⟩⟩:=C.o.later y
  ·omega
  have h:=jg 183 (w.heap.size+1) Ig b o d.n cap d.mem (fun j=>same (d.mem j).name s) w1 B r (fun j w' _ t=>EK (d.mem j) s (w.heap.size+1) w' (zW H t.size) (aM t H E))
  clear a g r E k u x C
  by_cases v:findFrom (fun j=>same (d.mem j).name s) d.n 0<0
  ·have l:Hid (dP d s=(0,5)):=lT q.o v
   generalize findFrom (fun j=>same (d.mem j).name s) d.n 0=f at h v
   go_wp2_with fail;refine h.mono ?_;rintro e w2⟨rfl,p⟩;go_wp2_with fail
   go_ret2
   exact⟨by rw[l.o];rfl,ad y p⟩
  have l:Hid (dP d s=(findFrom (fun j=>same (d.mem j).name s) d.n 0,0)):=lV q.o v
  generalize findFrom (fun j=>same (d.mem j).name s) d.n 0=f at h v l
  go_wp2_with fail;refine h.mono ?_;rintro e w2⟨rfl,p⟩;go_wp2_with fail
  go_ret2
  exact⟨by rw[l.o];rfl,ad y p⟩
 have l:Hid (dP d s=(0,(am d).2)):=wO i;rw[ac i]at g;have q:Hid (errV (am d).2=.iface 71 (.int .i64 (am d).2)):=ac i;clear i;generalize (am d).2=c at g l q
 go_enter Tryz.func133,Tryz.ntmps133
 go_wp2_with fail;refine g.mono ?_;rintro e w1⟨rfl,a⟩;go_wp2_with fail
 go_ret2
 exact⟨by rw[l.o,q.o];rfl,ad k.o a⟩
end Go.Proofs.YtjfampgnhccodaaGreatDoor
namespace Go.Proofs.YtjfampgnhccodaaGreatDoor
open Go Go.ChangeShapes Go.WideShapes Go.ChangeAt Go.RowKit
theorem BJ{H:Type}{enc:TypeId×Value->H}{P:Program}{f:Func}{s:ChangeSpec}{ab fresh a:Bool}{W W':World}{args:Array Value}{v:Value}{ds gs:List (DataW H)}{aa pa pv:List MemPlace}
  (k:DataW.Whole enc P f.params.toList s.vars ab W args.toList ds gs aa)
  (i:∀(b:Nat) (sp:Nat->Bool) (l:Bool),DataW.TrodAll enc P W' b sp l f.resultTypes.toList (v.resultList f.resultTypes.size) (s.fn H (ds++gs)).results [])
  (d:∀sp:Nat->Bool,(∀p∈aa,sp p.block=true)->DataW.TrodAll enc P W' 0 sp true f.params.toList args.toList (s.fn H (ds++gs)).args pa)
  (e:∀sp:Nat->Bool,(∀p∈aa,sp p.block=true)->DataW.TrodVars enc P W' sp s.vars (s.fn H (ds++gs)).vars pv)
  (j:aa=pa++pv) (m:W.keptBut W' (·∈aa)):
  s.post enc P f ab fresh a false W args v W':=by
 have c:∀p∈aa,(fun b=>decide (b<W.heap.size)) p.block=true:=fun p g=>by simpa using k.lt p g
 refine⟨ds,gs,aa,[],pa,pv,k,i _ _ _,d _ c,e _ c,World.keptBut_mono (fun p g=>⟨g,?_⟩) m,fun h=>by cases h⟩
 rw[j,List.mem_append]at g;exact Or.inr g
end Go.Proofs.YtjfampgnhccodaaGreatDoor
