/- What package sheet's s -/
import Derived.Test.YtjfampgnhccodaaGreatDoorShelfC
import Derived.Shelf.Strconv.ErrVarAll
import Derived.Shelf.Strconv.AtoiAll
import Derived.Lib.AtoiAllCases
import Derived.Test.YtjfampgnhccodaaGreatDoorShelfN
import Derived.Test.YtjfampgnhccodaaGreatDoorJTAV
namespace Go.Proofs.YtjfampgnhccodaaGreatDoor
open Tryz ChangeShapes WideShapes ChangeAt RowKit
set_option maxRecDepth 99999
set_option maxHeartbeats 0
theorem nY{w w':World}{a:Addr}{v:Value}(h:w.cell? a=some v)(c:Bl w w'):w'.cell? a=some v:=by
 have b:a.block<w.heap.size:=by
  rcases Nat.lt_or_ge a.block w.heap.size with h'|h'
  ·exact h'
  simp[World.cell?,Array.getElem?_eq_none h']at h
 exact(c.cell (p:=a) b).trans h
theorem rR{w w':World}{name:String}{cs:Array Value}(h:w.var? prog name=some cs)(b:Bl w w'):w'.var? prog name=some cs:=by
 unfold World.var? at *;cases hg:(prog).globalNamed name with
 |none=>simp[hg]at h
 |some g =>
  simp only[hg,Option.bind_some]at h|-;have a:g<w.heap.size:=by
   rcases Nat.lt_or_ge g w.heap.size with h'|h'
   ·exact h'
   rw[Array.getElem?_eq_none h']at h;simp at h
  rw[b.block g a];exact h
def iv(w : World): Prop :=kz w /\ (∃tp p,w.var? prog "strconv.ErrSyntax" =some #[.iface tp p]) /\ (∃tp p,w.var? prog "strconv.ErrRange" =some #[.iface tp p]) /\ ∃m,w.cell? ⟨1, 0,none⟩ =some (.int .i64 m)
theorem iv.later{w w':World}(h:iv w)(a:Bl w w'):iv w':=by
 obtain⟨b,⟨t1,p1,c⟩,⟨t2,p2,d⟩,m,e⟩:=h;exact⟨b.later a,⟨t1,p1,rR c a⟩,⟨t2,p2,rR d a⟩,m,nY e a⟩
theorem sY:∀(k u:Nat),(Lib.decDigits u).length<=k->u<10 ^ k
 | 0,u,h=>absurd (List.length_eq_zero_iff.1 (Nat.le_zero.1 h)) (lH u)
 |k+1,u,h=>by
  by_cases a:u<10
  ·exact zW a (by rw[Nat.pow_succ];have:1<=10 ^ k:=Nat.one_le_pow _ _ ω;omega)
  rw[Lib.decDigits,dif_neg a,List.length_append,List.length_singleton]at h;have:=sY k (u / 10) ω
  rw[Nat.pow_succ]
  omega
theorem qM(l:List UInt8):qO 7 l=match Lib.atoiAll l with
  | .ok v=>if -10000000<v/\v<10000000/\Lib.itoa v=l then some v else none
  |_=>none:=by
 by_cases f:l.length<=18
 ·rw[Lib.atoiAll_short l f]
  cases hn:Lib.atoi l with
  |none =>
   show qO 7 l=none
   unfold qO;rw[xI l hn]
   split<;>rfl
  |some v =>
   show qO 7 l=if _ then _ else _
   by_cases a:Lib.itoa v=l
   ·have b:Lib.trimPrefix l [45]=Lib.decDigits v.natAbs:=by rw[←a,kw]
    by_cases hv : -10000000<v/\v<10000000
    ·rw[if_pos ⟨hv.1,hv.2,a⟩]
     have e:(Lib.trimPrefix l [45]).length<=7:=by rw[b];exact ji _ 7 ω ω
     rw[Dv e];exact LY l ω v hn a
    rw[if_neg fun h=>hv ⟨h.1,h.2.1⟩]
    refine xH ?_;rw[b]
    rcases Nat.lt_or_ge 7 (Lib.decDigits v.natAbs).length with h|h
    ·exact h
    have:=sY 7 _ h
    omega
   rw[if_neg fun h=>a h.2.2]
   unfold qO
   split
   ·unfold uF
    split
    ·rw[hn]
     simp only[if_neg a]
    rfl
   rfl
 have c:7<(Lib.trimPrefix l [45]).length:=by
  unfold Lib.trimPrefix
  split
  ·simp only[List.length_drop,List.length_singleton];omega
  omega
 rw[xH c];cases hn:Lib.atoiAll l with
 | «syntax» =>rfl
 |range=>rfl
 |ok v =>
  show none=if _ then _ else _
  rw[if_neg];rintro⟨g,i,d⟩;have b:Lib.trimPrefix l [45]=Lib.decDigits v.natAbs:=by rw[←d,kw]
  have:=ji v.natAbs 7 ω ω
  rw[b]at c
  omega
theorem yM(s:ByteArray)(b:qO 7 s.data.toList=none)(w:World)(a:Int)
  (h:Calls prog 235 #[.string s] w fun e w'=>(∃N,e=.returned (.tuple #[.int .i64 a,.iface 334 (.pointer (some ⟨N,0,none⟩))]))/\Bl w w'):
  Rt 177 #[.string s] w (.tuple #[.int .i64 (intI s),.bool (f8 s)]):=by
 have d:intI s=0:=by unfold intI;rw[b];rfl
 have c:f8 s=false:=by unfold f8;rw[b];rfl
 rw[d,c];clear d c b
 go_enter func177,ntmps177
 go_wp2_with fail;refine h.mono ?_;rintro e w1⟨⟨N,rfl⟩,f⟩;go_wp2_with fail
 go_ret2
 exact⟨rfl,f⟩
theorem Gb(s:ByteArray)(v:Int)(f:Lib.atoiAll s.data.toList=.ok v)(w:World)(o:kz w)(x:s.size<=1048576):
  Rt 177 #[.string s] w (.tuple #[.int .i64 (intI s),.bool (f8 s)]):=by
 have a:=qM s.data.toList;rw[f]at a;obtain⟨v1,v2⟩:=Lib.atoiAll_bounds f;have j:=(Any.strconv_Atoi_ok laysC172 s ω v f w).mono (R':=fun e w'=>e=.returned (.tuple #[.int .i64 v,.nilIface])/\Bl w w') fun e w' ⟨p,g⟩=>⟨p,by
  rcases g with rfl|⟨t,g⟩
  ·exact zS
  rw[g];exact Lib.bytesWorld_below _ _ _⟩
 by_cases r:v<=-10000000
 ·rw[show(match (Lib.NumEnd.ok v:Lib.NumEnd Int)with | .ok v=>if -10000000<v/\v<10000000/\Lib.itoa v=s.data.toList then some v else none|_=>none)=none from if_neg fun h=>by omega]at a
  have c:intI s=0:=by unfold intI;rw[a];rfl
  have b:f8 s=false:=by unfold f8;rw[a];rfl
  rw[c,b];clear c b f a
  go_enter func177,ntmps177
  go_wp2_with fail;refine j.mono ?_;rintro e w1⟨rfl,d⟩;go_wp2_with fail
  go_ret2
  exact⟨rfl,d⟩
 by_cases u:10000000<=v
 ·rw[show(match (Lib.NumEnd.ok v:Lib.NumEnd Int)with | .ok v=>if -10000000<v/\v<10000000/\Lib.itoa v=s.data.toList then some v else none|_=>none)=none from if_neg fun h=>by omega]at a
  have c:intI s=0:=by unfold intI;rw[a];rfl
  have b:f8 s=false:=by unfold f8;rw[a];rfl
  rw[c,b];clear c b f a
  go_enter func177,ntmps177
  go_wp2_with fail;refine j.mono ?_;rintro e w1⟨rfl,d⟩;go_wp2_with fail
  go_ret2
  exact⟨rfl,d⟩
 obtain⟨q,l⟩:=ar ((Lib.itoa v ==s.toList));have c:intI s=if q=true then v else 0:=by
  unfold intI;rw[a];subst l;rw[ByteArray.toList_eq]
  by_cases h:Lib.itoa v=s.data.toList
  ·rw[show(match (Lib.NumEnd.ok v:Lib.NumEnd Int)with | .ok v=>if -10000000<v/\v<10000000/\Lib.itoa v=s.data.toList then some v else none|_=>none)=some v from if_pos ⟨ω,ω,h⟩,if_pos (by simpa using h)];rfl
  rw[show(match (Lib.NumEnd.ok v:Lib.NumEnd Int)with | .ok v=>if -10000000<v/\v<10000000/\Lib.itoa v=s.data.toList then some v else none|_=>none)=none from if_neg fun i=>h i.2.2,if_neg (by simpa using h)];rfl
 have b:f8 s=q:=by
  unfold f8;rw[a];subst l;rw[ByteArray.toList_eq]
  by_cases h:Lib.itoa v=s.data.toList
  ·rw[show(match (Lib.NumEnd.ok v:Lib.NumEnd Int)with | .ok v=>if -10000000<v/\v<10000000/\Lib.itoa v=s.data.toList then some v else none|_=>none)=some v from if_pos ⟨ω,ω,h⟩]
   exact(beq_iff_eq.2 h).symm
  rw[show(match (Lib.NumEnd.ok v:Lib.NumEnd Int)with | .ok v=>if -10000000<v/\v<10000000/\Lib.itoa v=s.data.toList then some v else none|_=>none)=none from if_neg fun i=>h i.2.2]
  exact(beq_eq_false_iff_ne.2 h).symm
 rw[c,b];have n:=fun w g=>xa v w v1 v2 g
 clear c b f a;generalize Lib.itoa v=t at n l;cases q
 all_goals
  go_enter func177,ntmps177
  go_wp2_with fail;refine j.mono ?_;rintro e w2⟨rfl,d⟩;have m:=o.later d;go_wp2_with fail;refine(n _ m).mono ?_;rintro e w3⟨rfl,k⟩;have b:=ad d k;go_wp2_with fail
  go_ret2
  exact⟨rfl,b⟩
theorem yL(s:ByteArray)(w:World)(f:iv w)(h:s.size<=1048576):
  Rt 177 #[.string s] w (.tuple #[.int .i64 (intI s),.bool (f8 s)]):=by
 obtain⟨g,⟨t1,p1,c⟩,⟨t2,p2,d⟩,-⟩:=f;cases hn:Lib.atoiAll s.data.toList with
 |ok v=>exact Gb s v hn w g h
 | «syntax» =>
  exact yM s (by rw[qM,hn]) w 0 ((Any.strconv_Atoi_syntax_var laysC172 s ω hn t1 p1 w c).mono fun e w' ⟨N,b,_,_,a⟩=>⟨⟨N,b⟩,a⟩)
 |range =>
  exact yM s (by rw[qM,hn]) w _ ((Any.strconv_Atoi_range_var laysC172 s ω hn t2 p2 w d).mono fun e w' ⟨N,b,_,_,a⟩=>⟨⟨N,b⟩,a⟩)
def cntB(s:ByteArray):Bool:=f8 s&&decide (0<=intI s)
def cntI(s:ByteArray):Int:=if cntB s=true then intI s else 0
theorem rF(s:ByteArray)(w:World)(c:iv w)(d:s.size<=1048576):
  Rt 173 #[.string s] w (.tuple #[.int .i64 (cntI s),.bool (cntB s)]):=by
 have h:=yL s w c d;unfold cntI cntB;cases a:f8 s with
 |false =>
  rw[a]at h;simp only[Bool.false_and,Bool.false_eq_true,if_false];generalize intI s=x at h;clear c d a
  go_enter func173,ntmps173
  go_wp2_with fail;refine h.mono ?_;rintro e w1⟨rfl,a⟩;go_wp2_with fail
  go_ret2
  exact⟨rfl,a⟩
 |true =>
  rw[a]at h;generalize intI s=x at h;clear c d a
  by_cases b:0<=x
  ·rw[decide_eq_true b]
   simp only[Bool.true_and,if_true];have f :¬x<0:=ω;clear b
   go_enter func173,ntmps173
   go_wp2_with fail;refine h.mono ?_;rintro e w1⟨rfl,a⟩;go_wp2_with fail
   go_ret2
   exact⟨rfl,a⟩
  rw[decide_eq_false b];simp only[Bool.true_and,Bool.false_eq_true,if_false];have f:x<0:=ω;clear b
  go_enter func173,ntmps173
  go_wp2_with fail;refine h.mono ?_;rintro e w1⟨rfl,a⟩;go_wp2_with fail
  go_ret2
  exact⟨rfl,a⟩
def parI(s:ByteArray):Int:=if gG s [45]=true then -1 else cntI s
theorem NH{s:ByteArray}(h:paOk s=true):parI s=KM s:=by
 unfold parI KM cntI cntB;unfold paOk at h
 split
 ·rfl
 rename_i h1
 have a:gG s [45]=false:=by simpa using h1
 rw[a,Bool.false_or]at h;rw[if_pos h]
theorem yO(s:ByteArray)(w:World)(c:iv w)(d:s.size<=1048576):
  Rt 175 #[.string s] w (.tuple #[.int .i64 (parI s),.bool (paOk s)]):=by
 have h:=rF s w c d;have a:paOk s=(gG s [45]||cntB s):=rfl;rw[a];unfold parI;generalize cntB s=b at h;generalize cntI s=x at h;cases h0:gG s [45]with
 |true =>
  have g:s.toList=[45]:=by simpa [gG]using h0
  simp only[if_true,Bool.true_or];clear c d h h0 a
  go_enter func175,ntmps175
  go_wp2_with fail
  go_ret2
  exact⟨rfl,zS⟩
 |false =>
  have g:(s.toList == [45])=false:=h0;simp only[Bool.false_eq_true,if_false,Bool.false_or];clear c d h0 a
  go_enter func175,ntmps175
  go_wp2_with fail;refine h.mono ?_;rintro e w1⟨rfl,f⟩;go_wp2_with fail
  go_ret2
  exact⟨rfl,f⟩
theorem Cj(s:ByteArray)(c:UInt8)(w:World):Calls prog 171 #[.string s,.string ⟨#[c]⟩] w fun e w'=>e=.returned (.int .i64 (Lib.indexByte s.data.toList c))/\w'=w:=Any.stringslite_Index_one lays219 s c w
def wn(c:UInt8)(s:ByteArray):Value:=if Lib.indexByte s.data.toList c<0 then .tuple #[.string s,.string ⟨#[]⟩,.bool false]else .tuple #[.string (s.extract 0 (Lib.indexByte s.data.toList c).toNat),.string (s.extract ((Lib.indexByte s.data.toList c).toNat+1) s.size),.bool true]
theorem mS{c:UInt8}{s:ByteArray}(h:Lib.indexByte s.data.toList c = -1):wn c s=.tuple #[.string s,.string ⟨#[]⟩,.bool false]:=by unfold wn;rw[if_pos ω]
theorem mT{c:UInt8}{s:ByteArray}{i:Nat}(h:Lib.indexByte s.data.toList c=i):wn c s=.tuple #[.string (s.extract 0 i),.string (s.extract (i+1) s.size),.bool true]:=by unfold wn;rw[if_neg ω,h];rfl
theorem qt{c:UInt8}{s:ByteArray}{i:Nat}(h:Lib.indexByte s.data.toList c=i):i<s.size:=by
 have:=(uh h).1
 simpa using this
theorem F4(s:ByteArray)(c:UInt8)(w:World)(k:s.size<=4611686018427387904):Rt 126 #[.string s,.string ⟨#[c]⟩] w (wn c s):=by
 have d:=fun w=>Cj s c w
 have a:=Lib.indexByte_ge s.data.toList c
 by_cases h:Lib.indexByte s.data.toList c = -1
 ·rw[mS h]
  rw[h]at d;clear h a
  go_enter func126,ntmps126
  go_wp2_with fail;refine(d _).mono ?_;rintro e w1⟨rfl,rfl⟩;go_wp2_with fail
  go_ret3
  exact⟨rfl,zS⟩
 obtain⟨i,b⟩:∃i:Nat,Lib.indexByte s.data.toList c=i:=⟨(Lib.indexByte s.data.toList c).toNat,ω⟩
 have f:=qt b;rw[mT b];rw[b]at d;have c1 :¬((i:Int)<0):=ω;have c2:(i:Int)<=(s.size:Int):=ω;have c3:(i:Int)+1<=(s.size:Int):=ω;have g:(s.size:Int)<=4611686018427387904:=ω;have j:(0:Int)<=(i:Int):=ω;clear h a b f
 go_enter func126,ntmps126
 go_wp2_with fail;refine(d _).mono ?_;rintro e w1⟨rfl,rfl⟩;go_wp2_with fail
 go_quiet (fail)
 go_wp2_with fail
 go_ret3
 exact⟨rfl,aj zS _⟩
theorem yE(s:ByteArray)(c:UInt8)(w:World)(g:s.size<=4611686018427387904):Rt 81 #[.string s,.string ⟨#[c]⟩] w (wn c s):=by
 have h:=F4 s c w g;obtain⟨a,b,f,d⟩:∃a b f,wn c s=.tuple #[.string a,.string b,.bool f]:=by
  unfold wn
  split
  ·exact⟨_,_,_,rfl⟩
  exact⟨_,_,_,rfl⟩
 rw[d]at h|-;clear d g
 go_enter func81,ntmps81
 go_wp2_with fail;refine h.mono ?_;rintro e w1⟨rfl,i⟩;go_wp2_with fail
 go_ret3
 exact⟨rfl,i⟩
def F7(x:ByteArray):Bool:=gG x [43]||gG x [45]||gG x [126]
def F8(x:ByteArray):Int:=if gG x [43]=true then 1 else if gG x [45]=true then -1 else 0
theorem tP(s:ByteArray)(w:World):Calls prog 234 #[.string s] w fun e w'=>e=.returned (.tuple #[.int .i64 (F8 s),.bool (F7 s)])/\w'=w:=by
 unfold F8 F7;cases h0:gG s [43]with
 |true =>
  have g:s.toList=[43]:=by simpa [gG]using h0
  simp only[if_true,Bool.true_or];clear h0
  go_enter func234,ntmps234
  go_wp2_with fail
  go_ret2
  exact⟨rfl,rfl⟩
 |false =>
  have g:(s.toList == [43])=false:=h0;cases h1:gG s [45]with
  |true =>
   have a:s.toList=[45]:=by simpa [gG]using h1
   simp only[if_true,Bool.true_or,Bool.or_true,Bool.false_eq_true,if_false];clear h0 h1 g
   go_enter func234,ntmps234
   go_wp2_with fail
   go_ret2
   exact⟨rfl,rfl⟩
  |false =>
   have a:(s.toList == [45])=false:=h1;cases h2:gG s [126]with
   |true =>
    have b:s.toList=[126]:=by simpa [gG]using h2
    simp only[Bool.or_true,Bool.false_eq_true,if_false];clear h0 h1 h2 g a
    go_enter func234,ntmps234
    go_wp2_with fail
    go_ret2
    exact⟨rfl,rfl⟩
   |false =>
    have b:(s.toList == [126])=false:=h2;simp only[Bool.or_self,Bool.false_eq_true,if_false];clear h0 h1 h2
    go_enter func234,ntmps234
    go_wp2_with fail
    go_ret2
    exact⟨rfl,rfl⟩
def s3(a:UInt8):Bool:=decide (a=45)||decide (a=126)||decide (a=43)
def sgL:List UInt8->Bool
 | []=>false
 | [a]=>s3 a
 | [_,_]=>false
 |a :: b :: _ :: _=>decide (b=61)&&s3 a
def Cf:List UInt8->Bool
 | [a]=>s3 a
 |_=>false
theorem nK(x:ByteArray):sgOk x=sgL x.data.toList:=by
 unfold sgOk;rw[Lib.size_eq x];generalize x.data.toList=l
 rcases l with _|⟨a,_|⟨b,_|⟨c,r⟩⟩⟩
 ·rfl
 ·simp[sgL,s3]
 ·simp[sgL]
 by_cases h:b=61
 ·simp[sgL,s3,h]
 simp[sgL,h]
theorem Di(x:ByteArray)(l:List UInt8):gG x l=decide (x.data.toList=l):=by
 unfold gG;rw[ByteArray.toList_eq]
 by_cases h:x.data.toList=l
 ·rw[decide_eq_true h,h];simp
 rw[decide_eq_false h];simpa using h
theorem sg1_l(x:ByteArray):F7 x=Cf x.data.toList:=by
 unfold F7;simp only[Di];generalize x.data.toList=l
 rcases l with _|⟨a,_|⟨b,r⟩⟩
 ·rfl
 ·simp only[Cf,s3,List.cons.injEq,and_true]
  by_cases c:a=43
  ·subst c;rfl
  by_cases d:a=45
  ·subst d;rfl
  by_cases e:a=126
  ·subst e;rfl
  simp[c,d,e]
 simp[Cf]
theorem J0{x:ByteArray}(h:sgOk x=true):∃a r,x.data.toList=a :: r/\sgI x=(if a=43 then 1 else if a=45 then -1 else 0)/\(r=[]/\foS x=noWd\/(∃c t,r=61 :: c :: t)/\foS x=x.extract 2 x.size):=by
 have j:Mz x=true:=by
  unfold sgOk at h;unfold Mz;rw[Bool.and_eq_true]at h;exact h.1
 have d:=h;rw[nK]at d;have e:=Lib.size_eq x;unfold sgI foS;rw[if_pos j];generalize hl:x.data.toList=l at d e
 rcases l with _|⟨a,_|⟨b,_|⟨c,r⟩⟩⟩
 ·cases d
 ·refine⟨a,[],rfl,?_,Or.inl ⟨rfl,?_⟩⟩
  ·simp only[sgL,s3]at d
   by_cases f:a=43
   ·subst f;rfl
   by_cases g:a=45
   ·subst g;rfl
   by_cases i:a=126
   ·subst i;rfl
   simp[f,g,i]at d
  rw[if_neg]
  simp at e
  omega
 ·cases d
 simp only[sgL,Bool.and_eq_true,decide_eq_true_eq]at d;obtain⟨rfl,d⟩:=d;refine⟨a,61 :: c :: r,rfl,?_,Or.inr ⟨⟨c,r,rfl⟩,?_⟩⟩
 ·simp only[s3]at d
  by_cases f:a=43
  ·subst f;rfl
  by_cases g:a=45
  ·subst g;rfl
  by_cases i:a=126
  ·subst i;rfl
  simp[f,g,i]at d
 rw[if_pos ⟨j,by simp at e;omega⟩]
theorem JZ{x:ByteArray}{a:UInt8}(h:x.data.toList=[a]):F8 x=if a=43 then 1 else if a=45 then -1 else 0:=by
 unfold F8;simp only[Di,h,List.cons.injEq,and_true,decide_eq_true_eq]
theorem Gj{x:ByteArray}(h:Lib.indexByte x.data.toList 61 = -1):F7 x=sgOk x/\(sgOk x=true->F8 x=sgI x/\(⟨#[]⟩:ByteArray)=foS x):=by
 refine⟨?_,fun j=>?_⟩
 ·rw[nK,sg1_l]
  have f:=Lib.indexByte_none h;generalize x.data.toList=l at f
  rcases l with _|⟨a,_|⟨b,_|⟨c,r⟩⟩⟩
  ·rfl
  ·rfl
  ·rfl
  have:b≠61:=fun e=>f 1 (by rw[e];rfl)
  simp[Cf,sgL,this]
 obtain⟨a,r,d,g,⟨rfl,i⟩|⟨⟨c,t,rfl⟩,-⟩⟩:=J0 j
 ·exact⟨(JZ d).trans g.symm,i.symm⟩
 exact absurd (by rw[d];rfl) (Lib.indexByte_none h 1)
theorem Ke{x:ByteArray}{i:Nat}(h:Lib.indexByte x.data.toList 61=i)(d:i+1=x.size):sgOk x=false:=by
 obtain⟨f,g⟩:=Lib.indexByte_some h;rw[Lib.size_eq]at d;rw[nK];generalize x.data.toList=l at f g d
 rcases l with _|⟨a,_|⟨b,_|⟨c,r⟩⟩⟩
 ·rfl
 ·have:i=0:=by simpa using d
  subst this;have:a=61:=by simpa using f
  subst this
  rfl
 ·rfl
 have j:i≠1:=by simp at d;omega
 have:b≠61:=fun e=>g 1 (by simp at d;omega) (by rw[e];rfl)
 simp[sgL,this]
theorem Gk{x:ByteArray}{i:Nat}(h:Lib.indexByte x.data.toList 61=i)(p:i+1<x.size):F7 (x.extract 0 i)=sgOk x/\(sgOk x=true->F8 (x.extract 0 i)=sgI x/\x.extract (i+1) x.size=foS x):=by
 obtain⟨f,k⟩:=Lib.indexByte_some h;have d:=p;rw[Lib.size_eq]at d;have j:(x.extract 0 i).data.toList=x.data.toList.take i:=Lib.extract_from_zero x i;refine⟨?_,fun m=>?_⟩
 ·rw[nK,sg1_l,j]
  generalize x.data.toList=l at f k d
  rcases l with _|⟨a,_|⟨b,_|⟨c,r⟩⟩⟩
  ·simp at d
  ·simp at d
  ·have:i=0:=by simp at d;omega
   subst this
   rfl
  rcases i with _|_|i
  ·have:a=61:=by simpa using f
   subst this
   simp[Cf,sgL,s3]
  ·have:b=61:=by simpa using f
   subst this
   simp[Cf,sgL]
  have:b≠61:=fun e=>k 1 ω (by rw[e];rfl)
  simp[Cf,sgL,this]
 obtain⟨a,r,g,o,⟨rfl,n⟩|⟨⟨c,t,rfl⟩,n⟩⟩:=J0 m
 ·rw[g]at d;simp at d
 have q:i=1:=by
  rcases i with _|_|i
  ·rw[g]at f
   have e:a=61:=by simpa using f
   rw[nK,g,e]at m
   simp[sgL,s3]at m
  ·rfl
  exact absurd (by rw[g];rfl) (k 1 ω)
 subst q;rw[g]at j;exact⟨(JZ j).trans o.symm,n.symm⟩
theorem Gf(x:ByteArray)(w:World)(r:x.size<=1048576):Calls prog 176 #[.string x] w fun e w'=>(∃a f,e=.returned (.tuple #[.int .i64 a,.string f,.bool (sgOk x)])/\(sgOk x=true->a=sgI x/\f=foS x))/\Bl w w':=by
 have b:=yE x 61 w ω
 have c:=Lib.indexByte_ge x.data.toList 61
 by_cases h:Lib.indexByte x.data.toList 61 = -1
 ·rw[mS h]at b
  obtain⟨d,l⟩:=Gj h;have t:=aa d;have k:=aa l;have j:=tP x;rw[d]at j;clear h c d l r
  go_enter func176,ntmps176
  go_wp2_with fail;refine b.mono ?_;rintro e w1⟨rfl,m⟩;go_wp2_with fail;refine(j _).mono ?_;rintro e w2⟨rfl,rfl⟩;go_wp2_with fail
  go_ret3
  exact⟨⟨_,_,rfl,k.o⟩,m⟩
 obtain⟨i,g⟩:∃i:Nat,Lib.indexByte x.data.toList 61=i:=⟨(Lib.indexByte x.data.toList 61).toNat,ω⟩
 have n:=qt g;rw[mT g]at b;have o:(x.extract (i+1) x.size).size=x.size-(i+1):=by rw[ByteArray.size_extract];omega
 by_cases p:i+1=x.size
 ·have s:x.extract (i+1) x.size=⟨#[]⟩:=by
   refine ByteArray.ext (Array.eq_empty_of_size_eq_zero ?_)
   show(x.extract (i+1) x.size).size=0
   omega
  rw[s]at b;rw[Ke g p];generalize x.extract 0 i=y at b;clear h c g n o p s r
  go_enter func176,ntmps176
  go_wp2_with fail;refine b.mono ?_;rintro e w1⟨rfl,m⟩;go_wp2_with fail
  go_ret3
  exact⟨⟨_,_,rfl,fun h=>by cases h⟩,m⟩
 obtain⟨d,l⟩:=Gk g ω
 have k:=aa l;have j:=tP (x.extract 0 i);rw[d]at j;have q:(x.extract (i+1) x.size).toList.isEmpty=false:=tw ω
 clear h c g n d l r p o;generalize x.extract 0 i=y at b j k;generalize x.extract (i+1) x.size=z at b q k
 go_enter func176,ntmps176
 go_wp2_with fail;refine b.mono ?_;rintro e w1⟨rfl,m⟩;go_wp2_with fail;refine(j _).mono ?_;rintro e w2⟨rfl,rfl⟩;go_wp2_with fail
 go_ret3
 exact⟨⟨_,_,rfl,k.o⟩,m⟩
end Go.Proofs.YtjfampgnhccodaaGreatDoor
