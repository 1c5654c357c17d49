/- Reading a text word by -/
import Derived.Test.YtjfampgnhccodaaGreatDoorJTAM
import Derived.Test.YtjfampgnhccodaaGreatDoorJTAN
namespace Go.Proofs.YtjfampgnhccodaaGreatDoor
open Tryz ChangeShapes WideShapes ChangeAt RowKit Lib
set_option maxRecDepth 99999
set_option maxHeartbeats 0
section
variable {S:Type} (s:ByteArray) (tk:S->ByteArray->S)
def fS:Nat->Bool->Rd S->Rd S×Bool
 | 0,_,r=>(r,false)
 |f+1,false,r =>
  if nextB s r.at'=40 then fS f false (wordR s tk 1 ⟨r.at',r.opn+1,r.st⟩)
  else if dV (nextB s r.at')then fS f true (wordR s tk (digitsN s r.at') r)
  else if cZ (nextB s r.at')then fS f true (wordR s tk (leadN cZ (s.extract r.at' s.size)) r)
  else(r,false)
 |f+1,true,r =>
  if 0<r.opn/\nextB s r.at'=41 then fS f true (wordR s tk 1 ⟨r.at',r.opn-1,r.st⟩)
  else if r.at'<s.size then(if signI (nextB s r.at')<0 then(r,false)else fS f false (wordR s tk 1 r))
  else(r,decide (r.opn=0))
end
section
variable {S:Type} {s:ByteArray} {tk:S->ByteArray->S}
theorem o7{a:Nat}(c:a<=s.size)(h:dV (nextB s a)=true):1<=digitsN s a/\a+digitsN s a<=s.size:=by
 have b:a<s.size:=fC (fun e=>by rw[e]at h;revert h;decide) c
 have d:=(fy (n:=0) b h zU).1;refine⟨?_,(pZ (o:=0) c h).1⟩;unfold digitsN
 split<;>omega
theorem pb{a:Nat}(c:a<=s.size)(h:cZ (nextB s a)=true):1<=leadN cZ (s.extract a s.size)/\a+leadN cZ (s.extract a s.size)<=s.size:=by
 have b:a<s.size:=fC (fun e=>by rw[e]at h;revert h;decide) c
 exact⟨(fy (n:=0) b h zU).1,(qz (o:=0) c h).1⟩
theorem et:∀(f g:Nat) (ph:Bool) (r:Rd S),r.at'<=s.size->s.size-r.at'<f->s.size-r.at'<g->fS s tk f ph r=fS s tk g ph r
 | 0,_,_,_,_,h,_=>ω
 |_+1,0,_,_,_,_,h=>ω
 |f+1,g+1,false,r,hr,hf,hg=>by
  rw[fS,fS]
  by_cases a:nextB s r.at'=40
  ·rw[if_pos a,if_pos a]
   have h:=(iL (o:=0) hr a).1;exact et f g false _ h (by show s.size-(r.at'+1)<f;omega) (by show s.size-(r.at'+1)<g;omega)
  rw[if_neg a,if_neg a]
  by_cases b:dV (nextB s r.at')=true
  ·rw[if_pos b,if_pos b]
   have h:=o7 hr b;exact et f g true _ h.2 (by show s.size-(r.at'+digitsN s r.at')<f;omega) (by show s.size-(r.at'+digitsN s r.at')<g;omega)
  rw[if_neg b,if_neg b]
  by_cases c:cZ (nextB s r.at')=true
  ·rw[if_pos c,if_pos c]
   have h:=pb hr c;exact et f g true _ h.2 (by show s.size-(r.at'+leadN cZ (s.extract r.at' s.size))<f;omega) (by show s.size-(r.at'+leadN cZ (s.extract r.at' s.size))<g;omega)
  rw[if_neg c,if_neg c]
 |f+1,g+1,true,r,hr,hf,hg=>by
  rw[fS,fS]
  by_cases a:0<r.opn/\nextB s r.at'=41
  ·rw[if_pos a,if_pos a]
   have h:=(gB (o:=0) hr a.2).1;exact et f g true _ h (by show s.size-(r.at'+1)<f;omega) (by show s.size-(r.at'+1)<g;omega)
  rw[if_neg a,if_neg a]
  by_cases b:r.at'<s.size
  ·rw[if_pos b,if_pos b]
   by_cases c:signI (nextB s r.at')<0
   ·rw[if_pos c,if_pos c]
   rw[if_neg c,if_neg c];exact et f g false _ b (by show s.size-(r.at'+1)<f;omega) (by show s.size-(r.at'+1)<g;omega)
  rw[if_neg b,if_neg b]
end
def cT{S:Type}(s:ByteArray)(tk:S->ByteArray->S)(ph:Bool)(r:Rd S):Rd S×Bool:=fS s tk (s.size+1) ph r
section
variable {S:Type} {s:ByteArray} {tk:S->ByteArray->S} {r:Rd S}
theorem H6(b:r.at'<=s.size)(h:nextB s r.at'=40):cT s tk false r=cT s tk false (wordR s tk 1 ⟨r.at',r.opn+1,r.st⟩):=by
 have a:=(iL (o:=0) b h).1;unfold cT;rw[fS,if_pos h];exact et _ _ _ _ a (by show s.size-(r.at'+1)<_;omega) (by show s.size-(r.at'+1)<_;omega)
theorem Lg(c:r.at'<=s.size)(h:dV (nextB s r.at')=true):cT s tk false r=cT s tk true (wordR s tk (digitsN s r.at') r):=by
 have b:=o7 c h;have a:nextB s r.at'≠40:=fun e=>by rw[e]at h;revert h;decide
 unfold cT;rw[fS,if_neg a,if_pos h];exact et _ _ _ _ b.2 (by show s.size-(r.at'+digitsN s r.at')<_;omega) (by show s.size-(r.at'+digitsN s r.at')<_;omega)
theorem Lh(c:r.at'<=s.size)(h:cZ (nextB s r.at')=true):cT s tk false r=cT s tk true (wordR s tk (leadN cZ (s.extract r.at' s.size)) r):=by
 have b:=pb c h;have a:nextB s r.at'≠40:=fun e=>by rw[e]at h;revert h;decide
 have hd :¬dV (nextB s r.at')=true:=fun e=>by unfold dV at e;unfold cZ at h;simp at e h;omega
 unfold cT;rw[fS,if_neg a,if_neg hd,if_pos h];exact et _ _ _ _ b.2 (by show s.size-(r.at'+leadN cZ (s.extract r.at' s.size))<_;omega) (by show s.size-(r.at'+leadN cZ (s.extract r.at' s.size))<_;omega)
theorem Hz(h:nextB s r.at'≠40)(a:dV (nextB s r.at')=false)(b:cZ (nextB s r.at')=false):cT s tk false r=(r,false):=by
 unfold cT;rw[fS,if_neg h,if_neg (by rw[a];decide),if_neg (by rw[b];decide)]
theorem EE(b:r.at'<=s.size)(h:0<r.opn/\nextB s r.at'=41):cT s tk true r=cT s tk true (wordR s tk 1 ⟨r.at',r.opn-1,r.st⟩):=by
 have a:=(gB (o:=0) b h.2).1;unfold cT;rw[fS,if_pos h];exact et _ _ _ _ a (by show s.size-(r.at'+1)<_;omega) (by show s.size-(r.at'+1)<_;omega)
theorem H7(h :¬(0<r.opn/\nextB s r.at'=41))(a:r.at'<s.size)(b :¬signI (nextB s r.at')<0):cT s tk true r=cT s tk false (wordR s tk 1 r):=by
 have e:fS s tk (s.size+1) true r=fS s tk s.size false (wordR s tk 1 r):=by rw[fS,if_neg h,if_pos a,if_neg b]
 unfold cT;rw[e];exact et _ _ _ _ a (by show s.size-(r.at'+1)<_;omega) (by show s.size-(r.at'+1)<_;omega)
theorem Lf(h :¬(0<r.opn/\nextB s r.at'=41))(a:r.at'<s.size)(b:signI (nextB s r.at')<0):cT s tk true r=(r,false):=by
 unfold cT;rw[fS,if_neg h,if_pos a,if_pos b]
theorem Db(h :¬(0<r.opn/\nextB s r.at'=41))(a :¬r.at'<s.size):cT s tk true r=(r,decide (r.opn=0)):=by
 unfold cT;rw[fS,if_neg h,if_neg a]
theorem sZ:∀(f:Nat) (r:Rd S),r.at'<=s.size->cT s tk false r=cT s tk false (opensR s tk f r)
 | 0,_,_=>rfl
 |f+1,r,hr=>by
  rw[opensR]
  split
  ·rename_i h
   rw[H6 hr h];exact sZ f _ (iL (o:=0) hr h).1
  rfl
theorem tB:∀(f:Nat) (r:Rd S),r.at'<=s.size->s.size-r.at'<=f->nextB s (opensR s tk f r).at'≠40
 | 0,r,hr,hf=>by
  have e:r.at'=s.size:=ω;rw[opensR,e,nextB,if_pos rfl]
  decide
 |f+1,r,hr,hf=>by
  rw[opensR]
  split
  ·rename_i h
   have a:=(iL (o:=0) hr h).1;exact tB f _ a (by show s.size-(r.at'+1)<=f;omega)
  rename_i h;exact h
theorem kY:∀(f:Nat) (r:Rd S),r.at'<=s.size->cT s tk true r=cT s tk true (aX s tk f r)
 | 0,_,_=>rfl
 |f+1,r,hr=>by
  rw[aX]
  split
  ·rename_i h
   rw[EE hr h];exact kY f _ (gB (o:=0) hr h.2).1
  rfl
theorem mN:∀(f:Nat) (r:Rd S),r.at'<=s.size->s.size-r.at'<=f->¬(0<(aX s tk f r).opn/\nextB s (aX s tk f r).at'=41)
 | 0,r,hr,hf=>by
  have e:r.at'=s.size:=ω;rw[aX,e,nextB,if_pos rfl];intro h;exact absurd h.2 (by decide)
 |f+1,r,hr,hf=>by
  rw[aX]
  split
  ·rename_i h
   have a:=(gB (o:=0) hr h.2).1;exact mN f _ a (by show s.size-(r.at'+1)<=f;omega)
  rename_i h;exact h
theorem end_operand(f:r.at'<=s.size):((aw s tk r).2=true/\cT s tk false r=cT s tk true (aw s tk r).1/\¬(0<(aw s tk r).1.opn/\nextB s (aw s tk r).1.at'=41))\/((aw s tk r).2=false/\cT s tk false r=((aw s tk r).1,false)):=by
 have b:(bA s tk r).at'<=s.size:=qS _ r f;have c:cT s tk false r=cT s tk false (bA s tk r):=sZ _ r f;have d:nextB s (bA s tk r).at'≠40:=tB _ r f zT;cases hd:dV (nextB s (bA s tk r).at')
 ·cases hl:cZ (nextB s (bA s tk r).at')
  ·right
   have e:=Dy (s:=s) (tk:=tk) (r:=r) hd hl;rw[e];exact⟨rfl,by rw[c];exact Hz d hd hl⟩
  left
  have e:=xS (s:=s) (tk:=tk) (r:=r) hd hl;rw[e];have a:=pb b hl;refine⟨rfl,?_,mN _ _ a.2 ω⟩
  rw[c,Lh b hl];exact kY _ _ a.2
 left
 have e:=xR (s:=s) (tk:=tk) (r:=r) hd;rw[e];have a:=o7 b hd;refine⟨rfl,?_,mN _ _ a.2 ω⟩
 rw[c,Lg b hd];exact kY _ _ a.2
theorem wJ:∀(f:Nat) (r:Rd S),r.at'<=s.size->s.size-r.at'<=f->¬(0<r.opn/\nextB s r.at'=41)->cT s tk true r=if(dv s tk f r).2 then((dv s tk f r).1,decide ((dv s tk f r).1.opn=0))else((dv s tk f r).1,false)
 | 0,r,hr,hf,hc=>by
  rw[dv,if_pos rfl];exact Db hc ω
 |f+1,r,hr,hf,hc=>by
  by_cases a:r.at'<s.size
  ·by_cases b:signI (nextB s r.at')<0
   ·have e:cS s tk r=(r,false):=by rw[cS,if_pos b]
    rw[xt a (by rw[e]),e,if_neg (fun e=>Bool.noConfusion e)]
    exact Lf hc a b
   have e:cS s tk r=(wordR s tk 1 r,true):=by rw[cS,if_neg b]
   have c:(wordR s tk 1 r).at'<=s.size:=a;rw[H7 hc a b]
   rcases end_operand (tk:=tk) c with⟨g1,g2,g3⟩|⟨g1,g2⟩
   ·rw[Dn a (by rw[e]) (by rw[e];exact g1),e,g2]
    have d:=qT (s:=s) (tk:=tk) (wordR s tk 1 r);have g:(wordR s tk 1 r).at'=r.at'+1:=rfl;exact wJ f _ (eB _ c) ω g3
   rw[xq a (by rw[e]) (by rw[e];exact g1),e,if_neg (fun e=>Bool.noConfusion e)]
   exact g2
  rw[xp a,if_pos rfl];exact Db hc a
theorem y8(a:r.at'<=s.size):iz s tk r=cT s tk false r:=by
 rcases end_operand (tk:=tk) a with⟨g1,g2,g3⟩|⟨g1,g2⟩
 ·rw[g2,wJ s.size _ (eB _ a) ω g3]
  unfold iz;rw[if_pos g1]
 rw[g2,GQ g1]
end
def KP(l:List Nd):Nat->Nat->Tre
 | 0,_=>.num 0
 |f+1,i=>if(l.getD i bT).op=1 then .num (l.getD i bT).n else if(l.getD i bT).op=2 then .ref (l.getD i bT).name else .bin (l.getD i bT).op (KP l f (l.getD i bT).left.toNat) (KP l f (l.getD i bT).right.toNat)
def aI(l:List Nd)(i:Nat):Tre:=KP l (i+1) i
def ua(l:List Nd):Prop := ∀j,j<l.length->ndErr (l.getD j bT) j=0
theorem qR{x:Nd}{i:Nat}(h:ndErr x i=0):1<=x.op/\x.op<=6:=by
 unfold ndErr at h
 split at h
 ·cases h
 omega
theorem mD{l:List Nd}(c:ua l):∀(f g i:Nat),i<l.length->i<f->i<g->KP l f i=KP l g i
 | 0,_,_,_,h,_=>ω
 |_+1,0,_,_,_,h=>ω
 |f+1,g+1,i,hi,hf,hg=>by
  rw[KP,KP]
  by_cases a:(l.getD i bT).op=1
  ·rw[if_pos a,if_pos a]
  rw[if_neg a,if_neg a]
  by_cases b:(l.getD i bT).op=2
  ·rw[if_pos b,if_pos b]
  rw[if_neg b,if_neg b];have d:=qR (c i hi);obtain⟨a1,a2,a3,a4⟩:=e8 (c i hi) ω
  rw[mD c f g _ ω ω ω,mD c f g (l.getD i bT).right.toNat ω ω ω]
section
variable {l:List Nd} {i:Nat}
theorem yT(h:(l.getD i bT).op=1):aI l i=.num (l.getD i bT).n:=by unfold aI;rw[KP,if_pos h]
theorem rQ(h:(l.getD i bT).op=2):aI l i=.ref (l.getD i bT).name:=by unfold aI;rw[KP,if_neg ω,if_pos h]
theorem rP(a:ua l)(b:i<l.length)(h:2<(l.getD i bT).op):aI l i=.bin (l.getD i bT).op (aI l (l.getD i bT).left.toNat) (aI l (l.getD i bT).right.toNat):=by
 obtain⟨a1,a2,a3,a4⟩:=e8 (a i b) h;unfold aI;rw[KP,if_neg ω,if_neg ω,mD a i _ _ ω ω (Nat.lt_succ_self _),mD a i _ (l.getD i bT).right.toNat ω ω (Nat.lt_succ_self _)]
end
theorem Il{s:ByteArray}(h:prsE s=0):ax (bK s)=0:=by
 have a:bK s=fU s:=by unfold bK;rw[if_pos h]
 rw[a];unfold prsE at h
 split at h
 ·split at h<;>cases h
 split at h
 ·exact h
 cases h
section
variable (N:List ByteArray) (C:List (Int×Int))
def refC(s:ByteArray):Int×Int:=C.getD (db N s).toNat noC
def iX:Tre->Int×Int
 | .num n=>iI n
 | .ref s=>refC N C s
 | .bin o a b=>Br o (iX a) (iX b)
end
def refsT:Tre->List ByteArray
 | .num _=>[]
 | .ref s=>[s]
 | .bin _ a b=>refsT a++refsT b
def missT(N:List ByteArray)(t:Tre):Bool:=(refsT t).any fun s=>decide (db N s<0)
theorem N5(N:List ByteArray){C:List (Int×Int)}(d:∀c∈C,uI c):∀t:Tre,uI (iX N C t)
 | .num n=>me n
 | .ref s=>by
  rw[iX,refC,zZ];cases h:C[(db N s).toNat]? with
  |none=>exact Jb
  |some c=>exact d c (List.mem_of_getElem? h)
 | .bin o a b=>Jj o _ _
/-! the names of a tree are those of the nodes -/
theorem FS{l:List Nd}(c:ua l)(s:ByteArray):∀i,i<l.length->s∈refsT (aI l i)->∃j,j<l.length/\(l.getD j bT).op=2/\(l.getD j bT).name=s:=by
 intro i
 induction i using Nat.strongRecOn with
 |_ i ih =>
  intro b a;have f:=qR (c i b)
  by_cases e:(l.getD i bT).op=1
  ·rw[yT e]at a;cases a
  by_cases d:(l.getD i bT).op=2
  ·rw[rQ d,refsT,List.mem_singleton]at a
   exact⟨i,b,d,a.symm⟩
  obtain⟨a1,a2,a3,a4⟩:=e8 (c i b) ω
  rw[rP c b ω,refsT,List.mem_append]at a
  rcases a with a|a
  ·exact ih _ ω ω a
  exact ih _ ω ω a
theorem yU{l:List Nd}(j:Nat):∀k,1<=usedTo l k j->∃i,i<k/\1<=uses (l.getD i bT) j
 | 0,h=>by cases h
 |k+1,h=>by
  by_cases a:1<=uses (l.getD k bT) j
  ·exact⟨k,Nat.lt_succ_self _,a⟩
  have c:1<=usedTo l k j+uses (l.getD k bT) j:=h;obtain⟨i,d,b⟩:=yU (l:=l) j k ω
  exact⟨i,ω,b⟩
theorem Mj{l:List Nd}(h:ax l=0)(s:ByteArray):∀n j,l.length-j=n->j<l.length->s∈refsT (aI l j)->s∈refsT (aI l (l.length-1)):=by
 obtain⟨p,q,k,m⟩:=dH h;intro n
 induction n using Nat.strongRecOn with
 |_ n ih =>
  intro j t r f
  by_cases e:j=l.length-1
  ·rw[←e];exact f
  obtain⟨i,d,c⟩:=yU (l:=l) j l.length (by rw[m j ω];exact zT)
  unfold uses at c
  split at c
  ·rename_i hop
   obtain⟨a1,a2,a3,a4⟩:=e8 (k i d) hop;have g:s∈refsT (aI l i):=by
    rw[rP k d hop,refsT,List.mem_append]
    by_cases a:(l.getD i bT).left=(j:Int)
    ·left;rw[a];exact f
    by_cases b:(l.getD i bT).right=(j:Int)
    ·right;rw[b];exact f
    rw[if_neg a,if_neg b]at c;omega
   have o:j<i:=by
    by_cases a:(l.getD i bT).left=(j:Int)
    ·omega
    by_cases b:(l.getD i bT).right=(j:Int)
    ·omega
    rw[if_neg a,if_neg b]at c;omega
   exact ih (l.length-i) ω i rfl d g
  omega
theorem rz{l:List Nd}(h:ax l=0)(s:ByteArray):s∈refsT (aI l (l.length-1))↔∃j,j<l.length/\(l.getD j bT).op=2/\(l.getD j bT).name=s:=by
 obtain⟨e,a,d,f⟩:=dH h;refine⟨FS d s _ ω,fun⟨j,c,a,b⟩=>?_⟩
 refine Mj h s _ j rfl c ?_;rw[rQ a,b,refsT];exact List.mem_singleton.2 rfl
def jy(N:List ByteArray)(l:List Nd)(i:Nat):Bool:=decide ((l.getD i bT).op=2)&&decide (db N (l.getD i bT).name<0)
theorem xA{N:List ByteArray}{l:List Nd}(h:ax l=0){i:Nat}(b:i<l.length)(a:jy N l i=true):missT N (aI l (l.length-1))=true:=by
 simp only[jy,Bool.and_eq_true,decide_eq_true_eq]at a;unfold missT;rw[List.any_eq_true];exact⟨_,(rz h _).2 ⟨i,b,a.1,rfl⟩,decide_eq_true a.2⟩
theorem LJ{N:List ByteArray}{l:List Nd}(h:ax l=0)(g:∀i,i<l.length->jy N l i=false):missT N (aI l (l.length-1))=false:=by
 rw[Bool.eq_false_iff];intro e;unfold missT at e;rw[List.any_eq_true]at e;obtain⟨s,a,b⟩:=e;obtain⟨j,f,c,d⟩:=(rz h s).1 a;have:=g j f;unfold jy at this;rw[d,c]at this
 simp at this b
 omega
def nP(l:List Nd)(N:List ByteArray)(C:List (Int×Int)):Int:=if ax l≠0 then ax l else if dO N C≠0 then dO N C else if missT N (aI l (l.length-1))=true then 5 else 0
def sC(l:List Nd)(N:List ByteArray)(C:List (Int×Int)):Int×Int:=if nP l N C=0 then iX N C (aI l (l.length-1))else noC
theorem wS{D:Nat->Dm}{n:Nat}{xs:List EnL}(a:Ens D n (lE xs)):∀k,k<xs.length->(xs.getD k noL).e.pl.length<=4:=fun k c=>by
 have b:(xs.getD k noL).e∈lE xs:=List.mem_map.2 ⟨_,cJ c,rfl⟩;exact gr (a.each _ b).1
theorem Nz{xs ys:List EnL}(h:lE ys=lE xs):ys.length=xs.length:=by rw[←aR,h,aR]
def Dz(w:World)(A:Option Addr)(m c:Nat)(N:Int)(cl:Bool):World:=w.alloc (.cells #[.slice A m c,.int .i64 N,.bool cl] 47)
theorem oD(w:World)(A:Option Addr)(m c:Nat)(N:Int)(a:Bool):Bl w (Dz w A m c N a):=by unfold Dz;go_grown
def Jq(w:World)(A0:Option Addr)(n cap:Nat)(A:Option Addr)(m c:Nat)(N:Int)(cl:Bool):World:=Dz (aE w A0 n cap 24) A m c N cl
theorem xW(w:World)(A0:Option Addr)(n cap:Nat)(A:Option Addr)(m c:Nat)(N:Int)(a:Bool):Bl w (Jq w A0 n cap A m c N a):=ad (ay ..) (oD ..)
theorem EZ{M:Nat}(A0:Option Addr)(cap n:Nat)(D:Nat->Dm)(A:Nat->Option Addr)(C:Nat->Nat)(g q:Nat)(xs:List EnL)(Ax:Option Addr)(f:Nat)(x:Ed)(w:World)(r:aL w A0 cap n D A C)(s:de w Ax f x.pl)(t:a7 w g q xs)(d:Ens D n (lE xs))(i:dQ M xs)(y:M<=w.heap.size):
  Calls prog 72 #[.agg #[.slice A0 n cap],.slice (some ⟨g,0,none⟩) xs.length q,.agg #[.slice Ax x.pl.length f,.int .i64 x.n,.bool x.clear]] w fun e w'=>pF M w g (editErr D n (lE xs) x) (editV (lE xs) x) e w':=by
 obtain⟨p,N,z⟩:=x;have a:=xW w A0 n cap Ax p.length f N z;have b:=aa a;cases z
 ·have h:=E3 A0 cap n D A C g q xs Ax f p N (Jq w A0 n cap Ax p.length f N false) (r.later a) (s.later a) (t.later a) d i (zV y a.size)
  have o:editV (lE xs) ⟨p,N,false⟩=setL (lE xs) p N:=rfl;rw[o];generalize editErr D n (lE xs) ⟨p,N,false⟩=E at h;generalize setL (lE xs) p N=l at h;simp only;generalize p.length=m at h b;generalize xs.length=nx at h;clear r s t d a o
  go_enter func72,ntmps72
  go_wp2_with fail;refine h.mono ?_;rintro e w1⟨⟨B,c,ys,rfl,j⟩,k⟩;have u:=aa j;have v:Hid (w.grownBy w1 (some g)):=aS (aC b.o) k;clear j k;go_wp2_with fail
  go_ret2
  exact⟨⟨B,c,ys,rfl,u.o⟩,v.o⟩
 have h:=yW A0 cap n D A C g q xs Ax f p N (Jq w A0 n cap Ax p.length f N true) (r.later a) (s.later a) (t.later a) d i;have o:editV (lE xs) ⟨p,N,true⟩=clrL (lE xs) p:=rfl;rw[o];generalize editErr D n (lE xs) ⟨p,N,true⟩=E at h;generalize clrL (lE xs) p=l at h;simp only;generalize p.length=m at h b;generalize xs.length=nx at h;clear r s t d a o
 go_enter func72,ntmps72
 go_wp2_with fail;refine h.mono ?_;rintro e w1⟨⟨B,c,ys,rfl,j⟩,k⟩;have u:=aa j;have v:Hid (w.grownBy w1 (some g)):=aS (aC b.o) k;clear j k;go_wp2_with fail
 go_ret2
 exact⟨⟨B,c,ys,rfl,u.o⟩,v.o⟩
theorem Da(ys:List EdL){k:Nat}(h:k<ys.length):(lD ys).drop k=(ys.getD k di).x :: (lD ys).drop (k+1):=by
 have a:k<(lD ys).length:=by rw[ij];exact h
 rw[List.drop_eq_getElem_cons a]
 congr 1
 simp[lD,List.getD,h]
theorem Hv{D:Nat->Dm}{n:Nat}{l:List En}{ys:List EdL}{k:Nat}(h:k<ys.length)(a:editErr D n l (ys.getD k di).x=0):aT D n l k ((lD ys).drop k)=aT D n (editV l (ys.getD k di).x) (k+1) ((lD ys).drop (k+1)):=by rw[Da ys h,jd _ a]
theorem EB{D:Nat->Dm}{n:Nat}{l:List En}{ys:List EdL}{k:Nat}(h:k<ys.length)(a:editErr D n l (ys.getD k di).x≠0):aT D n l k ((lD ys).drop k)=([],(k:Int),editErr D n l (ys.getD k di).x):=by rw[Da ys h,kK _ a]
theorem EC{D:Nat->Dm}{n:Nat}{l:List En}{ys:List EdL}{k:Nat}(h:ys.length<=k):aT D n l k ((lD ys).drop k)=(l,0,0):=by rw[List.drop_eq_nil_of_le (by rw[ij];exact h)];rfl
theorem wI{D:Nat->Dm}{n:Nat}(l:List En){ys:List EdL}(h:60<ys.length):editsV D n l (lD ys)=([],0,4):=by unfold editsV;rw[if_pos (by rw[ij];exact h)]
theorem zE{D:Nat->Dm}{n:Nat}{l:List En}{ys:List EdL}(h :¬ 60<ys.length)(a:entsErr D n l≠0):editsV D n l (lD ys)=([],0,entsErr D n l):=by unfold editsV;rw[if_neg (by rw[ij];exact h),if_pos a]
theorem EA{D:Nat->Dm}{n:Nat}{l:List En}{ys:List EdL}(h :¬ 60<ys.length)(a:entsErr D n l=0):editsV D n l (lD ys)=aT D n l 0 ((lD ys).drop 0):=by unfold editsV;rw[if_neg (by rw[ij];exact h),if_neg (by simpa using a)];rfl
def vw(w:World)(v:List En×Int×Int)(e:Ending)(w':World):Prop:=(∃B c zs,e=.returned (.tuple #[.slice B zs.length c,.int .i64 v.2.1,errV v.2.2])/\bU w' B c zs/\lE zs=v.1/\eU w.heap.size B/\dQ w.heap.size zs)/\Bl w w'
theorem Iw(A0:Option Addr)(cap n:Nat)(D:Nat->Dm)(A:Nat->Option Addr)(C:Nat->Nat)(AE:Option Addr)(ce:Nat)(xs:List EnL)(AX:Option Addr)(cx:Nat)(ys:List EdL)(w:World)(hM:aL w A0 cap n D A C)(hE:bU w AE ce xs)(hX:oQ w AX cx ys):
  Calls prog 30 #[.agg #[.slice A0 n cap],.slice AE xs.length ce,.slice AX ys.length cx] w fun e w'=>vw w (editsV D n (lE xs) (lD ys)) e w':=by
 have y:=ay w A0 n cap 24;have K:=aa y;unfold vw
 by_cases m:60<ys.length
 ·have HV:Hid (editsV D n (lE xs) (lD ys)=([],0,4)):=wI _ m
  have s:60<(ys.length:Int):=ω;generalize editsV D n (lE xs) (lD ys)=V at HV;generalize xs.length=nx;generalize ys.length=ny at m s;clear hM hE hX y
  go_enter func30,ntmps30
  go_wp2_with fail
  go_ret3
  rw[HV.o];exact⟨⟨none,0,[],rfl,bU.nil _ _ _ (by decide),rfl,eU.none _,fun _ h=>(by cases h)⟩,K.o⟩
 have h:=dW A0 cap n D A C AE ce xs (aE w A0 n cap 24) (hM.later y) (hE.later y);have s:(ys.length:Int)<=60:=ω;by_cases a:entsErr D n (lE xs)=0
 ·have L:=qd a
  have HV:Hid (editsV D n (lE xs) (lD ys)=aT D n (lE xs) 0 ((lD ys).drop 0)):=EA m a;have Q:Hid (∀w',Bl w w'->Calls prog 21 #[.slice AE xs.length ce] w' fun e ab =>∃g zs,e=.returned (.slice (some ⟨g,0,none⟩) xs.length xs.length)/\w'.heap.size<=g/\a7 ab g xs.length zs/\zs.length=xs.length/\lE zs=lE xs/\dQ w'.heap.size zs/\Bl w' ab):=fun w' aw=>by
   refine(tg AE ce xs w' (um L) (wS L) (hE.later aw)).mono ?_;rintro e ab⟨⟨zs,rfl,t,I,M⟩,hb⟩;exact⟨w'.heap.size,zs,rfl,zT,t,Nz I,I,M,hb⟩
  have HM:=aa hM;have HX:=aa hX;have ak:=aa L;rw[a,errV_zero]at h;generalize editsV D n (lE xs) (lD ys)=V at HV;obtain⟨ny,X⟩:=ar ys.length;obtain⟨nx,ah⟩:=ar xs.length;have R:=aa X;rw[X]at s|-;rw[ah]at h Q|-;clear a L hM hE hX y m X ah
  go_enter func30,ntmps30
  go_wp2_with fail;refine h.mono ?_;rintro e w1⟨rfl,p⟩;have G:Bl w w1:=ad K.o p;have u:=aa G;have c1:w1.cell? ⟨w.heap.size,0,none⟩=some (.slice A0 n cap):=aM p (by show w.heap.size<_;rw[aB];omega) (aU ..)
  have ai:w.heap.size<w1.heap.size:=by have:=p.size;rw[aB]at this;omega
  have h2:=Q.o w1 G;have am:=aa (HM.o.later G);have aq:=aa (HX.o.later G);clear p h G HM HX K Q;go_wp2_with fail;refine h2.mono ?_;rintro e w2⟨g0,z,rfl,ag,t,aj,I,M,ae⟩;have ap:Hid (a7 w2 g0 nx z/\w1.heap.size<=g0/\z.length=nx/\lE z=lE xs/\dQ w1.heap.size z/\Bl w1 w2):=⟨t,ag,aj,I,M,ae⟩;clear ag t aj I M ae h2;go_wp2_with fail
  go_loopg [10,29] ny (fun gm ax az wr =>∃(k g cg:Nat) (zs:List EnL),k<=ny/\gm=ny-k/\az=.int .i64 k/\ax=.slice (some ⟨g,0,none⟩) zs.length cg/\Hid (w1.heap.size<=g/\a7 wr g cg zs/\Ens D n (lE zs)/\dQ w1.heap.size zs)/\Hid (aT D n (lE zs) k ((lD ys).drop k)=aT D n (lE xs) 0 ((lD ys).drop 0))/\Bl w1 wr)
  case atStart =>
   obtain⟨r1,r2,r3,r4,r6,r5⟩:=ap.o;exact⟨0,g0,nx,z,zU,rfl,rfl,by rw[r3],⟨r2,r1,by rw[r4];exact ak.o,r6⟩,(by rw[r4]:aT D n (lE z) 0 ((lD ys).drop 0)=_),r5⟩
  case round =>
   obtain⟨k,g,cg,zs,hk,rfl,rfl,rfl,f,HF,i⟩:=hrel;have F:=aa i
   by_cases av:k<ny
   ·have U:k<ys.length:=by rw[R.o];exact av
    have aA:(k:Int)<(ny:Int):=ω;obtain⟨-,-,h0|⟨b,o,rfl,T⟩⟩:=aq.o.later i
    ·have:=R.o;rw[h0]at this;simp at this;omega
    obtain⟨Z,d1,d2,Y⟩:=T.2 k U;have c0:wr.cell? ⟨w.heap.size,0,none⟩=some (.slice A0 n cap):=aM i ai c1;have aC:w.heap.size<wr.heap.size:=zW ai i.size;have q:=oD wr (ys.getD k di).A (ys.getD k di).x.pl.length (ys.getD k di).c (ys.getD k di).x.n (ys.getD k di).x.clear;have d:=aa q;have a:=EZ A0 cap n D A C g cg zs (ys.getD k di).A (ys.getD k di).c (ys.getD k di).x (Dz wr (ys.getD k di).A (ys.getD k di).x.pl.length (ys.getD k di).c (ys.getD k di).x.n (ys.getD k di).x.clear) ((am.o.later i).later q) (Y.later q) (f.o.2.1.later q) f.o.2.2.1 f.o.2.2.2 (zV i.size q.size)
    by_cases l:editErr D n (lE zs) (ys.getD k di).x=0
    ·have S:Hid (aT D n (lE zs) k ((lD ys).drop k)=aT D n (editV (lE zs) (ys.getD k di).x) (k+1) ((lD ys).drop (k+1))):=Hv U l
     have P:=aa ((f.o.2.2.1.edit l).2);rw[l]at a;generalize editV (lE zs) (ys.getD k di).x=l2 at a S P;generalize (ys.getD k di).A=A1 at Z a d;generalize (ys.getD k di).c=k1 at Z a d;generalize (ys.getD k di).x.n=n1 at d1 a d;generalize (ys.getD k di).x.clear=q1 at d2 a d;generalize (ys.getD k di).x.pl.length=m1 at Z a d;obtain⟨nz,J⟩:=ar zs.length;rw[J]at a|-;clear T Y q i l J;go_wp2_with fail;refine a.mono ?_;rintro e w3⟨⟨B,c,j,rfl,hc⟩,hg⟩;obtain⟨g2,rfl,af,H,W,N⟩:∃g',B=some ⟨g',0,none⟩/\g<=g'/\a7 w3 g' c j/\lE j=l2/\dQ w1.heap.size j:=by
      rcases hc with⟨h1,_⟩|⟨_,h1⟩
      ·exact absurd rfl h1
      exact h1
     have an:Hid (w1.heap.size<=g2/\a7 w3 g2 c j/\Ens D n (lE j)/\dQ w1.heap.size j):=⟨zV f.o.1 af,H,by rw[W];exact P.o,N⟩
     have al:Hid (aT D n (lE j) (k+1) ((lD ys).drop (k+1))=aT D n (lE xs) 0 ((lD ys).drop 0)):=by show _=_;rw[W,←S.o];exact HF.o
     have O:Hid (Bl w1 w3):=gP (ad F.o d.o) hg (ad F.o d.o).size f.o.1;rw[errV_zero];clear hc hg H W af N a S P;go_wp2_with fail
     go_roundg (ny-(k+1))
     case measure=>omega
     case rel=>exact⟨k+1,g2,c,j,ω,rfl,by go_num,rfl,an,al,O.o⟩
    have r:Hid (V=([],(k:Int),editErr D n (lE zs) (ys.getD k di).x)):=by show _=_;rw[HV.o,←HF.o,EB U l]
    have v:Hid (errV (editErr D n (lE zs) (ys.getD k di).x)=.iface 71 (.int .i64 (editErr D n (lE zs) (ys.getD k di).x))):=ac l;have ao:=aa l;generalize editErr D n (lE zs) (ys.getD k di).x=E at a r v ao;generalize editV (lE zs) (ys.getD k di).x=l2 at a;generalize (ys.getD k di).A=A1 at Z a d;generalize (ys.getD k di).c=k1 at Z a d;generalize (ys.getD k di).x.n=n1 at d1 a d;generalize (ys.getD k di).x.clear=q1 at d2 a d;generalize (ys.getD k di).x.pl.length=m1 at Z a d;obtain⟨nz,J⟩:=ar zs.length;rw[J]at a|-;clear T Y q i l J;go_wp2_with fail;refine a.mono ?_;rintro e w3⟨⟨B,c,j,rfl,hc⟩,hg⟩;have O:Hid (Bl w1 w3):=gP (ad F.o d.o) hg (ad F.o d.o).size f.o.1;rw[v.o];clear hc hg a;go_wp2_with fail
    go_ret3
    rw[r.o];exact⟨⟨none,0,[],by rw[v.o];rfl,bU.nil _ _ _ (by decide),rfl,eU.none _,fun _ h=>(by cases h)⟩,ad u.o O.o⟩
   have au:k=ny:=ω;subst au;have r:Hid (V=(lE zs,0,0)):=by show _=_;rw[HV.o,←HF.o,EC (by rw[R.o];exact zT)]
   clear i;go_wp2_with fail
   go_ret3
   rw[r.o];exact⟨⟨_,_,zs,rfl,f.o.2.1.ensV,rfl,fun b o e=>by cases e;exact zV u.o.size f.o.1,f.o.2.2.2.le u.o.size⟩,ad u.o F.o⟩
 have HV:Hid (editsV D n (lE xs) (lD ys)=([],0,entsErr D n (lE xs))):=zE m a;have v:Hid (errV (entsErr D n (lE xs))=.iface 71 (.int .i64 (entsErr D n (lE xs)))):=ac a;rw[ac a]at h;generalize editsV D n (lE xs) (lD ys)=V at HV;generalize entsErr D n (lE xs)=E at h HV v a;generalize xs.length=nx at h;generalize ys.length=ny at m s;clear hM hE hX y m a
 go_enter func30,ntmps30
 go_wp2_with fail;refine h.mono ?_;rintro e w1⟨rfl,p⟩;have u:=aa (ad K.o p);clear p;go_wp2_with fail
 go_ret3
 rw[HV.o];exact⟨⟨none,0,[],by rw[v.o];rfl,bU.nil _ _ _ (by decide),rfl,eU.none _,fun _ h=>(by cases h)⟩,u.o⟩
end Go.Proofs.YtjfampgnhccodaaGreatDoor
