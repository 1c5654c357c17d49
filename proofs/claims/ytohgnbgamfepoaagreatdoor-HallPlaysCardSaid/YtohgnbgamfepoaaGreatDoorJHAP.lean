/- What the members of a -/
import Derived.Test.YtohgnbgamfepoaaGreatDoorShelfG
import Derived.Laws.Cover1
import Derived.Test.YtohgnbgamfepoaaGreatDoorJHAO
namespace Go.Proofs.YtohgnbgamfepoaaGreatDoor
open ChangeShapes WideShapes ChangeAt RowKit
set_option maxRecDepth 99999
set_option maxHeartbeats 0
def whL (d:Dm) (nm:List UInt8):Int:=findFrom (fun j=>same (d.mem j).name ⟨nm.toArray⟩) d.n 0
theorem nr (s:ByteArray) (nm:List UInt8):same s ⟨nm.toArray⟩=decide (s.data.toList=nm):=by
 unfold same;rw [ByteArray.toList_eq,ByteArray.toList_eq]
 by_cases h:s.data.toList=nm
 ·simp [h]
 simp [h]
theorem whL_cases (d:Dm) (nm:List UInt8):(whL d nm = -1∧∀ j,j<d.n→(d.mem j).name.data.toList≠nm)∨∃ k:Nat,whL d nm=(k:Int)∧k<d.n∧(d.mem k).name.data.toList=nm:=by
 unfold whL
 rcases findFrom_cases (fun j=>same (d.mem j).name ⟨nm.toArray⟩) d.n 0 with ⟨a,c⟩ | ⟨k,a,_,e,b,_⟩
 ·refine Or.inl ⟨a,fun j f=>?_⟩
  have:=c j (zU) (by omega)
  rw [nr] at this;exact of_decide_eq_false this
 refine Or.inr ⟨k,a,by omega,?_⟩
 rw [nr] at b;exact of_decide_eq_true b
theorem CC {d:Dm} (h:(ay d).2=0) {j k:Nat} (g:j<d.n) (l:k<d.n) (e:(d.mem j).name.data.toList=(d.mem k).name.data.toList):j=k:=by
 obtain ⟨_,_,_,c⟩:=aI h;have f:∀ {a b:Nat},(d.mem a).name.data.toList=(d.mem b).name.data.toList→same (d.mem a).name (d.mem b).name=true:=fun {a b} e=>by
  unfold same;rw [ByteArray.toList_eq,ByteArray.toList_eq,e]
  simp
 rcases Nat.lt_trichotomy j k with h1 | h1 | h1
 ·have:=js (c k l)
  have:=fX (q:=fun i=>same (d.mem i).name (d.mem k).name) h1 (f e)
  omega
 ·exact h1
 have:=js (c j g);have:=fX (q:=fun i=>same (d.mem i).name (d.mem j).name) h1 (f e.symm)
 omega
theorem IV {d:Dm} (h:(ay d).2=0) {k:Nat} (b:k<d.n):whL d (d.mem k).name.data.toList=(k:Int):=by
 rcases whL_cases d (d.mem k).name.data.toList with ⟨_,a⟩ | ⟨m,c,a,e⟩
 ·exact absurd rfl (a k b)
 rw [c,CC h a b e]
def kn (d:Dm) (i:Nat):List (List UInt8):=dr (bI (d.mem i).formula) (bI (d.mem i).formula).length
theorem nO {l:List Nd} {x:Nd} (a:x∈l) (h:x.op=2):x.name.data.toList∈dr l l.length:=by
 unfold dr;rw [List.take_length];exact List.mem_map.2 ⟨x,List.mem_filter.2 ⟨a,by simp [h]⟩,rfl⟩
theorem AD {l:List Nd} {nm:List UInt8} (h:nm∈dr l l.length):∃ x∈l,x.op=2∧x.name.data.toList=nm:=by
 unfold dr at h;rw [List.take_length] at h;obtain ⟨x,c,rfl⟩:=List.mem_map.1 h;obtain ⟨a,b⟩:=List.mem_filter.1 c;exact ⟨x,a,by simpa using b,rfl⟩
def mErr (d:Dm) (i:Nat):Int:=if (d.mem i).formula.size=0 then 0 else if prsE (d.mem i).formula≠0 then prsE (d.mem i).formula else if (kn d i).any (fun nm=>decide (whL d nm<0))=true then 5 else 0
def wg (d:Dm) (k:Int):Bool:=decide ((d.mem k.toNat).sign≠0)
def AS (d:Dm) (i k:Nat):Bool:=if (d.mem i).formula.size=0 then iJ d.mem i k && wg d k else (kn d i).contains (d.mem k).name.data.toList
def ep (d:Dm) (i:Nat):List Int:=selTo (AS d i) d.n
theorem iC (d:Dm) (i:Nat):(ep d i).Pairwise (· < ·):=fl _ _
theorem eo {d:Dm} {i:Nat} {x:Int} (h:x∈ep d i):0≤x∧x<(d.n:Int):=by
 obtain ⟨m,rfl,a,-⟩:=cS x h
 omega
theorem sC (d:Dm) (i:Nat):(ep d i).length≤d.n:=cG _ _
def eV (d:Dm):List (List Int):=(List.range d.n).map (ep d)
theorem fI (d:Dm):(eV d).length=d.n:=by simp [eV]
theorem mu {d:Dm} {i:Nat} (h:i<d.n):(eV d).getD i []=ep d i:=by
 unfold eV
 simp [List.getD,h]
theorem lp (d:Dm):nA (eV d):=fun i a x b=>by
 rw [fI] at a ⊢;rw [mu a] at b;exact eo b
def tM (d:Dm) (i:Nat):Bool:=decide (mErr d i≠0)
noncomputable def bv (d:Dm):Int×Int :=
 if (ay d).2≠0 then ay d
 else if 0≤findFrom (tM d) d.n 0 then (findFrom (tM d) d.n 0,mErr d (findFrom (tM d) d.n 0).toNat)
 else if 0≤findFrom (cycB (eV d)) d.n 0 then (findFrom (cycB (eV d)) d.n 0,8)
 else (-1,0)
theorem Kw {d:Dm} (h:(ay d).2≠0):bv d=ay d:=by unfold bv;rw [if_pos h]
theorem Kq {d:Dm} (h:(ay d).2=0) {i:Nat} (f:i<d.n) (a:mErr d i≠0) (b:∀ j,j<i→mErr d j=0):bv d=((i:Int),mErr d i):=by
 have e:findFrom (tM d) d.n 0=(i:Int):=eP (zU) (by omega) (decide_eq_true a) fun j _ c=>decide_eq_false (by simpa using b j c)
 unfold bv;rw [if_neg (by simpa using h),e,if_pos (by omega),Int.toNat_natCast]
theorem Ke {d:Dm} (a:∀ j,j<d.n→mErr d j=0):findFrom (tM d) d.n 0 = -1:=bR fun j _ b=>decide_eq_false (by simpa using a j (by omega))
theorem Kx {d:Dm} (h:(ay d).2=0) (b:∀ j,j<d.n→mErr d j=0) {i:Nat} (f:i<d.n) (a:cycB (eV d) i=true) (e:∀ j,j<i→cycB (eV d) j=false):bv d=((i:Int),8):=by
 unfold bv;rw [if_neg (by simpa using h),Ke b,if_neg (by omega),eP (zU) (by omega) a fun j _ c=>e j c,if_pos (by omega)]
theorem Ky {d:Dm} (h:(ay d).2=0) (a:∀ j,j<d.n→mErr d j=0) (b:∀ j,j<d.n→cycB (eV d) j=false):bv d=(-1,0):=by
 unfold bv;rw [if_neg (by simpa using h),Ke a,if_neg (by omega),bR fun j _ c=>b j (by omega),if_neg (by omega)]
theorem bJ {d:Dm} (h:(bv d).2=0):(ay d).2=0∧(∀ j,j<d.n→mErr d j=0)∧(∀ j,j<d.n→cycB (eV d) j=false)∧(bv d).1 = -1:=by
 by_cases a:(ay d).2=0
 ·rcases findFrom_cases (tM d) d.n 0 with ⟨_,l⟩ | ⟨k,_,_,m,c,e⟩
  ·have f:∀ j,j<d.n→mErr d j=0:=fun j b=>by
    have:=l j (zU) (by omega)
    unfold tM at this
    simpa using this
   rcases findFrom_cases (cycB (eV d)) d.n 0 with ⟨_,o⟩ | ⟨k,_,_,m,c,e⟩
   ·have i:∀ j,j<d.n→cycB (eV d) j=false:=fun j b=>o j (zU) (by omega)
    exact ⟨a,f,i,by rw [Ky a f i]⟩
   rw [Kx a f (by omega) c fun j b=>e j (zU) b] at h
   cases h
  have g:mErr d k≠0:=of_decide_eq_true c;rw [Kq a (by omega) g fun j b=>by have:=e j (zU) b;unfold tM at this;simpa using this] at h
  exact absurd h g
 rw [Kw a] at h;exact absurd h a
theorem mF {d:Dm} (h:(bv d).2=0):∀ i:Nat,i<(eV d).length→cycB (eV d) i=false:=fun i a=>(bJ h).2.2.1 i (by rw [←fI d];exact a)
theorem fB {d:Dm} (n:(ay d).2=0) {i:Nat} (g:(d.mem i).formula.size≠0) (c:mErr d i=0) (z:Int):z∈ep d i↔∃ nm∈kn d i,z=whL d nm:=by
 have e:∀ nm∈kn d i,0≤whL d nm:=fun nm j=>by
  unfold mErr at c;rw [if_neg g] at c
  split at c
  ·rename_i f;exact absurd c f
  split at c
  ·cases c
  rename_i a
  rw [List.any_eq_true] at a;exact Decidable.byContradiction fun b=>a ⟨nm,j,decide_eq_true (by omega)⟩
 constructor
 ·intro h
  obtain ⟨m,rfl,a,b⟩:=cS z h;unfold AS at b;rw [if_neg g,List.contains_iff_mem] at b;exact ⟨_,b,(IV n a).symm⟩
 rintro ⟨nm,f,rfl⟩
 rcases whL_cases d nm with ⟨a,_⟩ | ⟨k,a,b,l⟩
 ·have:=e nm f;omega
 rw [a];refine jU b ?_;unfold AS;rw [if_neg g,List.contains_iff_mem,l];exact f
theorem gH {d:Dm} {i:Nat} (a:(d.mem i).formula.size=0):(bA d.mem d.n i).filter (wg d)=ep d i:=by
 refine tg _ _ _ _ fun j _=>?_
 unfold AS;rw [if_pos a,Bool.and_eq_true]
/-! sorted, each once -/
theorem Gy (zs:List (List UInt8)):(zs.mergeSort fun x y=>decide (x≤y)).Pairwise (fun a b=>a≤b):=by
 have h:=List.pairwise_mergeSort (le:=fun x y:List UInt8=>decide (x≤y)) (fun a b c h k=>by simp at *;exact List.le_trans h k) (fun a b=>by simp;exact List.le_total a b) zs
 exact h.imp fun h=>by simpa using h
theorem lN (zs:List Int):(zs.mergeSort fun x y=>decide (x≤y)).Pairwise (fun a b=>a≤b):=by
 have h:=List.pairwise_mergeSort (le:=fun x y:Int=>decide (x≤y)) (fun a b c h k=>by simp at *;omega) (fun a b=>by simp;omega) zs
 exact h.imp fun h=>by simpa using h
theorem EI (zs:List (List UInt8)) (x:List UInt8):x∈Lib.compact zs↔x∈zs:=by
 unfold Lib.compact;have h:∀ m,m≤zs.length→∀ x,x∈Lib.compactUpTo zs.toArray m↔∃ j,j<m∧zs.toArray[j]! = x:=by
  intro m
  induction m with
  | zero=>intro _ x;simp [Lib.compactUpTo]
  | succ m ih =>
   intro k x;rw [Lib.compactUpTo_succ,List.mem_append,ih (by omega)]
   constructor
   ·rintro (⟨j,a,b⟩ | a)
    ·exact ⟨j,by omega,b⟩
    split at a
    ·exact ⟨m,by omega,(List.mem_singleton.1 a).symm⟩
    cases a
   rintro ⟨j,a,b⟩
   by_cases e:j<m
   ·exact Or.inl ⟨j,e,b⟩
   have e:j=m:=by omega
   subst e
   by_cases c:Lib.keeps zs.toArray j=true
   ·exact Or.inr (by rw [if_pos c,←b];simp)
   unfold Lib.keeps at c;rw [decide_eq_true_iff] at c;have i:j≠0:=fun e=>c (Or.inl e)
   have f:zs.toArray[j]! = zs.toArray[j-1]! := Decidable.byContradiction fun e=>c (Or.inr e)
   exact Or.inl ⟨j-1,by omega,by rw [←f];exact b⟩
 rw [h _ (zT)]
 constructor
 ·rintro ⟨j,a,rfl⟩
  rw [getElem!_pos _ j (by simpa using a)]
  simp
 intro g;obtain ⟨j,d,rfl⟩:=List.getElem_of_mem g;exact ⟨j,d,by rw [getElem!_pos _ j (by simpa using d)];simp⟩
theorem wK (zs:List (List UInt8)) (r:zs.Pairwise (fun a b=>a≤b)):(Lib.compact zs).Nodup:=by
 unfold Lib.compact;have d:∀ i j,i≤j→j<zs.length→zs.toArray[i]!≤zs.toArray[j]! := fun i j q l=>by
  rw [getElem!_pos _ i (by simp;omega),getElem!_pos _ j (by simpa using l)]
  by_cases e:i=j
  ·subst e;exact List.le_refl _
  have:=List.pairwise_iff_getElem.1 r i j (by omega) l (by omega)
  simpa using this
 have h:∀ m,m≤zs.length→(Lib.compactUpTo zs.toArray m).Nodup∧∀ x∈Lib.compactUpTo zs.toArray m,∃ j,j<m∧zs.toArray[j]! = x:=by
  intro m
  induction m with
  | zero=>intro _;exact ⟨by simp [Lib.compactUpTo],fun x c=>by simp [Lib.compactUpTo] at c⟩
  | succ m ih =>
   intro s;obtain ⟨n,k⟩:=ih (by omega)
   rw [Lib.compactUpTo_succ];refine ⟨?_,fun x c=>?_⟩
   ·rw [List.nodup_append]
    refine ⟨n,by split <;> simp,fun a p b g e=>?_⟩
    split at g
    ·rename_i hk
     rw [List.mem_singleton.1 g] at e;obtain ⟨j,o,f⟩:=k a p;unfold Lib.keeps at hk
     rcases of_decide_eq_true hk with h5 | h5
     ·omega
     refine h5 (List.le_antisymm ?_ (d (m-1) m (by omega) (by omega)))
     rw [←e,←f];exact d j (m-1) (by omega) (by omega)
    cases g
   rcases List.mem_append.1 c with c | c
   ·obtain ⟨j,o,f⟩:=k x c
    exact ⟨j,by omega,f⟩
   split at c
   ·exact ⟨m,by omega,(List.mem_singleton.1 c).symm⟩
   cases c
 exact (h _ (zT)).1
theorem dN {s:ByteArray} (h:prsE s=0):aA (bI s)=0:=by
 have a:bI s=eF s:=by unfold bI;rw [if_pos h]
 rw [a];unfold prsE at h
 split at h
 ·split at h <;> cases h
 split at h
 ·exact h
 cases h
theorem jP {l:List Nd} (h:aA l=0):(aX l).Nodup∧∀ x,x∈aX l↔x∈dr l l.length:=by
 unfold aX;rw [if_pos h];refine ⟨wK _ (Gy _),fun x=>?_⟩
 rw [EI];exact (List.mergeSort_perm _ _).mem_iff
theorem rO {d:Dm} (w:(ay d).2=0) {i:Nat} (B:(d.mem i).formula.size≠0) (A:mErr d i=0) (C:prsE (d.mem i).formula=0):(((aX (bI (d.mem i).formula)).map (whL d)).mergeSort fun x y=>decide (x≤y))=ep d i:=by
 obtain ⟨q,o⟩:=jP (dN C);have p:∀ z,z∈(aX (bI (d.mem i).formula)).map (whL d)↔z∈ep d i:=fun z=>by
  rw [fB w B A,List.mem_map]
  constructor
  ·rintro ⟨nm,c,rfl⟩;exact ⟨nm,(o nm).1 c,rfl⟩
  rintro ⟨nm,c,rfl⟩;exact ⟨nm,(o nm).2 c,rfl⟩
 have l:((aX (bI (d.mem i).formula)).map (whL d)).Pairwise (fun a b=>a≠b):=by
  rw [List.pairwise_map];have f:∀ nm∈aX (bI (d.mem i).formula),0≤whL d nm:=fun nm h=>(eo ((p _).1 (List.mem_map.2 ⟨nm,h,rfl⟩))).1
  refine List.Pairwise.imp_of_mem (R:=fun a b=>a≠b) (fun {a b} u v g e=>?_) q
  rcases whL_cases d a with ⟨c,_⟩ | ⟨k,c,_,r⟩
  ·have:=f a u;omega
  rcases whL_cases d b with ⟨s,_⟩ | ⟨m,s,_,t⟩
  ·have:=f b v;omega
  have:k=m:=by omega
  exact g (by rw [←r,←t,this])
 refine jb _ _ ?_ (iC d i) fun z=>?_
 ·have n:=(List.mergeSort_perm ((aX (bI (d.mem i).formula)).map (whL d)) (fun x y=>decide (x≤y)))
  have j:List.Pairwise (fun a b=>a≠b) (((aX (bI (d.mem i).formula)).map (whL d)).mergeSort fun x y=>decide (x≤y)):=n.symm.pairwise l fun {a b} h e=>h e.symm
  exact ((lN _).and j).imp fun h=>by omega
 rw [(List.mergeSort_perm _ _).mem_iff,p]
theorem nQ {w:World} {b b' e size n:Nat} {v:Value} {xs:List Value} (h:w.ownsRow b e size v n xs) (a:b'≤b):w.ownsRow b' e size v n xs:=by
 refine ⟨h.1,?_⟩
 rcases h.2 with h0 | ⟨g,cap,cur,h1,h2,h3⟩
 ·exact Or.inl h0
 exact Or.inr ⟨g,cap,cur,h1,zV a h2,h3⟩
theorem yr (u q r:Nat) (H:du u) (A:Option Addr) (n cap:Nat) (p:Nat→Bool) (w:World) (M:n≤12) (F:JW u q r w n p):Calls Tryz.prog 235 #[.slice A n cap,.func (.func u) #[] #[.pointer (some ⟨q,0,none⟩),.pointer (some ⟨r,0,none⟩)]] w fun e w'=>(∃ v,e=.returned v∧w'.ownsRow w.heap.size 3 1 v (selTo p n).length (aE (selTo p n)))∧Bl w w':=by
 obtain ⟨i0,x,B,C,D⟩:=info_parts Tryz.infoInt;have G:=aa F;have J:(n:Int)≤12:=by omega
 clear F;unfold du at H
 go_enter Tryz.func235,Tryz.ntmps235
 go_wp2_with fail
 go_loopg [5,9] n (fun g s5 s9 wr => ∃ (k:Nat),k≤n∧g=n-k∧s9=.int .i64 k∧wr.ownsRow w.heap.size 3 1 s5 (selTo p k).length (aE (selTo p k))∧Bl w wr)
 case atStart=>exact ⟨0,zU,rfl,rfl,World.ownsRow_nil _ _ _ _,zS⟩
 case round =>
  obtain ⟨k,L,rfl,rfl,a,f⟩:=hrel;have t:=aa f;have o:=aa a
  by_cases z:k<n
  ·have I:(k:Int)<(n:Int):=by omega
   have h:=G.out k wr z f;clear f a;cases hb:p k
   ·rw [hb] at h
    have m:=aa hb;clear hb;go_wp2_with fail;refine h.mono ?_;rintro e w1 ⟨rfl,b⟩;go_wp2_with fail
    go_roundg (n-(k+1))
    case measure=>omega
    case rel=>exact ⟨k+1,by omega,rfl,by go_num,by rw [gI m.out];exact an o.out b,ae t.out b⟩
   rw [hb] at h;have m:=aa hb;have E:=cG p k;clear hb;go_wp2_with fail;refine h.mono ?_;rintro e w1 ⟨rfl,b⟩;have a:=an o.out b;have i:=ae t.out b;have K:=i.size;have j:=aa i;clear b i
   go_wp2_with (at_builtin;refine wpList_append_own _ rfl _ _ 26 rfl w.heap.size 3 i0 (.int .i64 0) 1 8 Tryz.underlying26 x B C D rfl (by decide) _ _ _ rfl (a.alloc _) ⟨w1.heap.size,0,none⟩ 1 1 [.int .i64 k] rfl rfl bz dG (by unfold maxLen;omega) (by omega) (by simp;omega) ?_)
   intro v' w2 d c _;have l:Hid (Bl w w2):=bD j.out a c;have s:Hid (w2.ownsRow w.heap.size 3 1 v' (selTo p (k+1)).length (aE (selTo p (k+1)))):=by
    show World.ownsRow ..
    rw [jT m.out,mapI_snoc,List.length_append];exact d
   clear d c a;go_wp2_with fail
   go_roundg (n-(k+1))
   case measure=>omega
   case rel=>exact ⟨k+1,by omega,rfl,by go_num,s.out,l.out⟩
  have y:k=n:=by omega
  subst y;clear f a;go_wp2_with fail;go_ret;exact ⟨⟨_,rfl,o.out⟩,t.out⟩
theorem CT (d:Dm) (A:Option Addr) (cap:Nat) (k:Nat) (w:World) (x:(ay d).2=0) (I:k<d.n) (u:eh w A cap d.n d.mem):Calls Tryz.prog 203 #[cQ d A cap,.int .i64 k] w fun e w'=>(∃ v,e=.returned (.tuple #[v,.nilIface])∧w'.ownsRow w.heap.size 3 1 v (bA d.mem d.n k).length (aE (bA d.mem d.n k)))∧Bl w w':=by
 have f:=yk w d A cap k 70 3;have c:=qg d A cap _ 1 [(k:Int)] (vk w d A cap k 70 3) (u.later f) (by simp) (CQ ..)
 have q:=aa f;have D:=aa u;unfold cQ at c ⊢;simp only [List.length_singleton] at c;clear u f;have C:treeErr d [(k:Int)]=0:=by rw [g9 x,if_neg (by omega)]
 ·rw [C,errV_zero] at c
  obtain ⟨-,-,m,-⟩:=aI x;clear C x
  go_enter Tryz.func203,Tryz.ntmps203
  go_wp2_with fail;refine c.mono ?_;rintro e w1 ⟨rfl,a⟩;have t:Bl w w1:=ae q.out a;have G:w.heap.size+1<w1.heap.size:=by have:=a.size;rw [mD] at this;omega
  have E:w1.cell? ⟨w.heap.size,2,none⟩=some (.slice A d.n cap):=aC a (by show w.heap.size<_;rw [mD];omega) (F1 ..)
  have z:w1.cell? ⟨w.heap.size+1,0,none⟩=some (.int .i64 k):=aC a (by show w.heap.size+1<_;rw [mD];omega) (F2 ..)
  obtain ⟨B,H | ⟨b,o,rfl,h⟩⟩:=D.out.later t
  ·omega
  have p:=yr 236 w.heap.size (w.heap.size+1) CS (some ⟨b,o,none⟩) d.n cap (iJ d.mem k) w1 m (fun j w' F g=>yp b o d.n cap j w.heap.size (w.heap.size+1) d.mem k w' F m (h.later g) (aC g (by show w.heap.size<_;omega) E) (aC g G z))
  have y:=aa t;clear a c h z t;go_wp2_with fail;refine p.mono ?_;rintro e w2 ⟨⟨v2,rfl,i⟩,l⟩;have s:=aa i;have r:=aa (ae y.out l);clear i l p;go_wp2_with fail
  go_ret2
  exact ⟨⟨v2,rfl,nQ s.out y.out.size⟩,r.out⟩
def D1 (w:World) (A:Option Addr) (c:Nat) (N:List ByteArray):Prop:=N.length≤c∧N.length<4611686018427387904∧c≤9223372036854775807∧(N=[]∨∃ b o,A=some ⟨b,o,none⟩∧b<w.heap.size∧∀ j,j<N.length→w.cell? ⟨b,o+j,none⟩=some (.string (N.getD j jj)))
theorem D1.later {w w':World} {A:Option Addr} {c:Nat} {N:List ByteArray} (h:D1 w A c N) (i:Bl w w'):D1 w' A c N:=by
 obtain ⟨d,e,f,a | ⟨b,o,a,g,k⟩⟩:=h
 ·exact ⟨d,e,f,Or.inl a⟩
 exact ⟨d,e,f,Or.inr ⟨b,o,a,zW g i.size,fun j l=>aC i g (k j l)⟩⟩
theorem vC (An:Option Addr) (cn:Nat) (N:List ByteArray) (Ac:Option Addr) (cc:Nat) (C:List (Int×Int)) (w:World) (hN:D1 w An cn N) (hC:dx w Ac cc C) :
  Rt 145 #[.slice An N.length cn,.slice Ac C.length cc] w (errV (dP N C)):=by
 by_cases c:C.length=N.length
 case neg =>
  have hb:((C.length:Int) != (N.length:Int))=true:=by simp;omega
  rw [tV c,ak (by decide)]
  clear c hN hC
  go_enter Tryz.func145,Tryz.ntmps145
  go_wp2_with fail;go_ret;exact ⟨rfl,zS⟩
 obtain ⟨-,z,-,I⟩:=hN;obtain ⟨-,-,G⟩:=hC;obtain ⟨n,t⟩:=az N.length;have l:=aa t;have f:=aa (c.trans t);rw [c,t];rw [t] at z 
 by_cases h0:n=0
 ·subst h0
  rw [sn (N:=N) (C:=C) c (fun j r=>by have:=f.out;omega) (fun j _ r=>by omega),errV_zero]
  clear I G c t z
  go_enter Tryz.func145,Tryz.ntmps145
  go_wp2_with fail;refine wp_loop_rounds 1 ?_;rw [rounds_succ];go_wp2_with fail;refine wp_loop_rounds 1 ?_;rw [rounds_succ];go_wp2_with fail;go_ret;exact ⟨rfl,zS⟩
 obtain ⟨b,o,rfl,H⟩:=G.resolve_left (fun e=>by rw [e] at c;simp at c;omega)
 obtain ⟨bn,on,rfl,K,J⟩:=I.resolve_left (fun e=>by rw [e] at t;simp at t;omega)
 have X:=aa H;have Z:=aa J;have hni:(n:Int)<4611686018427387904:=by omega
 have hn0:0<(n:Int):=by omega
 clear c t H J z
 go_enter Tryz.func145,Tryz.ntmps145
 go_wp2_with fail
 go_loopg [17] n (fun g s17 wr => ∃ (k:Nat),k≤n∧g=n-k∧s17=.int .i64 k∧(∀ j,j<k→gB C j=false)∧Bl w wr)
 case atStart=>exact ⟨0,zU,rfl,rfl,fun j r=>absurd r (Nat.not_lt_zero j),zS⟩
 case round =>
  obtain ⟨k,hk,rfl,rfl,p,d⟩:=hrel;have D:=aa p;have P:=aa d;have hbl:b<w.heap.size:=X.out.1;have hsz:=d.size;clear p d
  by_cases M:k<n
  ·have L:(k:Int)<(n:Int):=by omega
   obtain ⟨x0,x1⟩:=(X.out.later P.out).2 k (by rw [f.out];exact M)
   have a:=qR (C.getD k noC).1 (C.getD k noC).2;obtain ⟨kk,A⟩:=az ((C.getD k noC).1);obtain ⟨nn,B⟩:=az ((C.getD k noC).2);have Y:Hid (gB C k = !(good kk nn)):=by show _=_;unfold gB;rw [A,B]
   rw [A] at x0 a;rw [B] at x1 a;clear A B;cases hg:good kk nn
   ·rw [hg] at a
    have F:Hid (dP N C=1):=zL (by rw [f.out,l.out]) (i:=k) (by rw [f.out];exact M) (by rw [Y.out,hg];rfl)
    rw [if_neg (by decide)] at a
    clear hg;go_wp2_with fail;refine (a _).mono ?_;rintro e w1 ⟨rfl,m⟩;have u:Hid (Bl w w1):=ae P.out (ae (by go_grown) m)
    clear m a;go_wp2_with fail;go_ret;exact ⟨by rw [F.out];rfl,u.out⟩
   rw [hg,if_pos rfl] at a;have S:Hid (gB C k=false):=by show _=_;rw [Y.out,hg];rfl
   clear hg;go_wp2_with fail;refine (a _).mono ?_;rintro e w1 ⟨rfl,m⟩;have u:Hid (Bl w w1):=ae P.out (ae (by go_grown) m)
   clear m a;go_wp2_with fail
   go_roundg (n-(k+1))
   case measure=>omega
   case rel=>exact ⟨k+1,by omega,rfl,by go_num,fun j r=>by rcases Nat.lt_succ_iff_lt_or_eq.1 r with h | h;exact D.out j h;rw [h];exact S.out,u.out⟩
  have U:k=n:=by omega
  subst U;have s:Hid (∀ j,j<C.length→gB C j=false):=fun j r=>D.out j (by have:=f.out;omega)
  go_wp2_with fail
  go_loopg [8] k (fun g s8 ws => ∃ (i:Nat),i<k∧g=k-i∧s8=.int .i64 ((i:Int)+1)∧(∀ j,1≤j→j<i+1→fN N j=false)∧Bl w ws)
  case atStart=>exact ⟨0,by omega,rfl,rfl,fun j Q h2=>by omega,P.out⟩
  case round =>
   obtain ⟨i,hi,rfl,rfl,p,d⟩:=hrel;have E:=aa p;have HV:=aa d;clear p
   by_cases q:i+1<k
   ·have L:(i:Int)+1<(k:Int):=by omega
    have c1:=aC d K (Z.out (i+1) (by rw [l.out];exact q))
    have c0:=aC d K (Z.out i (by rw [l.out];omega))
    obtain ⟨x,V⟩:=az (N.getD (i+1) jj);obtain ⟨y,W⟩:=az (N.getD i jj);have O:Hid (fN N (i+1)=(Op.bytesLess x.toList y.toList || x.toList == y.toList)):=by show _=_;unfold fN;rw [V,Nat.add_sub_cancel,W]
    rw [V] at c1;rw [W] at c0;have hsub:(i:Int)+1-1=(i:Int):=by omega
    have hto:((i:Int)+1).toNat=i+1:=by omega
    clear V W d;cases ht:(Op.bytesLess x.toList y.toList || x.toList == y.toList)
    ·have R:Hid (fN N (i+1)=false):=by show _=_;rw [O.out,ht]
     clear O;go_wp2_with fail
     go_quiet (fail)
     have v:Hid (Bl w (wr.drewN nq)):=ac HV.out _;go_wp2_with fail
     go_roundg (k-(i+1))
     case measure=>omega
     case rel=>exact ⟨i+1,q,rfl,by go_num,fun j Q r=>by rcases Nat.lt_succ_iff_lt_or_eq.1 r with h | h;exact E.out j Q h;rw [h];exact R.out,v.out⟩
    have F:Hid (dP N C=7):=zM (by rw [f.out,l.out]) s.out (i:=i+1) (by omega) (by rw [l.out];exact q) (by rw [O.out,ht])
    clear O;go_wp2_with fail
    go_quiet (fail)
    have v:Hid (Bl w (wr.drewN nq)):=ac HV.out _;go_wp2_with fail;go_ret;exact ⟨by rw [F.out];rfl,v.out⟩
   have T:k=i+1:=by omega
   have F:Hid (dP N C=0):=sn (by rw [f.out,l.out]) s.out (fun j Q r=>E.out j Q (by have:=l.out;omega))
   have L : ¬ (i:Int)+1<(k:Int):=by omega
   clear T;go_wp2_with fail;go_ret;exact ⟨by rw [F.out];rfl,HV.out⟩
end Go.Proofs.YtohgnbgamfepoaaGreatDoor
