/- The document's own nam -/
import Derived.Laws.AppendOwnNone
import Derived.Test.YtompdcaikmekkaaGreatDoorJHAO
namespace Go.Proofs.YtompdcaikmekkaaGreatDoor
open ChangeShapes WideShapes ChangeAt RowKit
set_option maxRecDepth 99999
set_option maxHeartbeats 0
def eI (R:List ByteArray):List Value:=R.map Value.string
def iO (l:List Nd) (i:Nat) (R:List ByteArray):Prop:=R.length≤i∧∀ s,s∈R↔∃ j,j<i∧(l.getD j bN).op=2∧(l.getD j bN).name=s
section
variable {l:List Nd} {i:Nat} {R:List ByteArray}
theorem refs_zero:iO l 0 []:=⟨zT,fun _=>⟨fun h=>absurd h List.not_mem_nil,fun ⟨j,h,_⟩=>absurd h (Nat.not_lt_zero j)⟩⟩
theorem C5 (h:iO l i R) (c:(l.getD i bN).op≠2):iO l (i+1) R:=by
 refine ⟨by have:=h.1;omega,fun s=>(h.2 s).trans ⟨fun ⟨j,b,a⟩=>⟨j,by omega,a⟩,fun ⟨j,b,a⟩=>⟨j,?_,a⟩⟩⟩
 by_cases e:j=i
 ·subst e;exact absurd a.1 c
 omega
theorem F2 (h:iO l i R) (f:(l.getD i bN).op=2) (c:(l.getD i bN).name∈R):iO l (i+1) R:=by
 refine ⟨by have:=h.1;omega,fun s=>⟨fun d=>?_,fun ⟨j,b,a⟩=>?_⟩⟩
 ·obtain ⟨j,b,a⟩:=(h.2 s).1 d
  exact ⟨j,by omega,a⟩
 by_cases e:j=i
 ·subst e;rw [←a.2];exact c
 exact (h.2 s).2 ⟨j,by omega,a⟩
theorem lu (h:iO l i R) (f:(l.getD i bN).op=2) (k:Nat):iO l (i+1) (R.take k ++ [(l.getD i bN).name] ++ R.drop k):=by
 refine ⟨?_,fun s=>?_⟩
 ·have:=h.1
  simp only [List.length_append,List.length_take,List.length_drop,List.length_singleton]
  omega
 have a:s∈R.take k ++ [(l.getD i bN).name] ++ R.drop k↔s∈R∨s=(l.getD i bN).name:=by
  rw [List.mem_append,List.mem_append,List.mem_singleton];have d:s∈R↔s∈R.take k∨s∈R.drop k:=by rw [←List.mem_append,List.take_append_drop]
  rw [d]
  constructor
  ·rintro ((h | h) | h)
   ·exact Or.inl (Or.inl h)
   ·exact Or.inr h
   exact Or.inl (Or.inr h)
  rintro ((h | h) | h)
  ·exact Or.inl (Or.inl h)
  ·exact Or.inr h
  exact Or.inl (Or.inr h)
 rw [a,h.2 s]
 constructor
 ·rintro (⟨j,c,b⟩ | rfl)
  ·exact ⟨j,by omega,b⟩
  exact ⟨i,by omega,f,rfl⟩
 rintro ⟨j,c,b⟩
 by_cases e:j=i
 ·subst e;exact Or.inr b.2.symm
 exact Or.inl ⟨j,by omega,b⟩
end
theorem Tryz.infoStR:(Tryz.prog.info? 9).map (fun i=>(i.zero,i.size,i.bytes))=some (some (.string ⟨#[]⟩),1,16):=by kernel_rfl
theorem row_str {w:World} {base:Nat} {v:Value} {R:List ByteArray} (h:w.ownsRow base 9 1 v R.length (eI R)):(R=[]∧v=.slice none 0 0)∨∃ g cap,v=.slice (some ⟨g,0,none⟩) R.length cap∧base≤g∧g<w.heap.size∧R.length≤cap∧cap≤9223372036854775807∧∀ k,k<R.length→w.cell? ⟨g,k,none⟩=some (.string (R.getD k jf)):=by
 rcases h.2 with ⟨rfl,d⟩ | ⟨g,cap,c,rfl,j,a,e,f,m,i⟩
 ·exact Or.inl ⟨List.eq_nil_of_length_eq_zero d,rfl⟩
 refine Or.inr ⟨g,cap,rfl,j,(zY a).1,e,by unfold maxLen at f;omega,fun k l=>?_⟩
 have b:(eI R)[k]?=some (.string (R.getD k jf)):=by simp [eI,List.getD,l]
 rw [←i,List.getElem?_take,if_pos (by omega),Array.getElem?_toList] at b
 simp [World.cell?,a,b]
theorem Iy {x y:ByteArray} (h : ¬ y=x):(y.toList == x.toList)=false:=by
 rw [beq_eq_false_iff_ne];intro e;apply h;rw [Lib.toList_data,Lib.toList_data] at e;obtain ⟨b⟩:=y;obtain ⟨a⟩:=x;exact congrArg ByteArray.mk (Array.toList_inj.1 e)
theorem sU (L:List ByteArray):∀ u∈eI L,u.oneCell'=true:=by
 intro u a;obtain ⟨x,-,rfl⟩:=List.mem_map.1 a
 rfl
theorem vA {w:World} {g:Nat} {R:List ByteArray} (h:∀ j,j<R.length→w.cell? ⟨g,j,none⟩=some (.string (R.getD j jf))) (k:Nat):∀ j u,(eI (R.take k))[j]?=some u→w.cell? ((⟨g,0,none⟩:Addr).add j)=some u:=by
 intro j u a;have b:j<(R.take k).length:=by have:=(List.getElem?_eq_some_iff.1 a).1;simpa [eI] using this
 rw [List.length_take] at b;rw [eI,List.getElem?_map,List.getElem?_take,if_pos (by omega),zX (by omega)] at a
 have e:=h j (by omega)
 rw [zZ,zX (by omega)] at e
 have c:((⟨g,0,none⟩:Addr).add j)=⟨g,j,none⟩:=by rw [Addr.add_lit,Nat.zero_add]
 rw [c,e];exact a
theorem F6 {w:World} {g:Nat} {R:List ByteArray} (h:∀ j,j<R.length→w.cell? ⟨g,j,none⟩=some (.string (R.getD j jf))) (k:Nat):∀ j u,(eI (R.drop k))[j]?=some u→w.cell? ((⟨g,k,none⟩:Addr).add j)=some u:=by
 intro j u a;have b:j<(R.drop k).length:=by have:=(List.getElem?_eq_some_iff.1 a).1;simpa [eI] using this
 rw [List.length_drop] at b;rw [eI,List.getElem?_map,List.getElem?_drop,zX (by omega)] at a
 have e:=h (k+j) (by omega)
 rw [zZ,zX (by omega)] at e
 have c:((⟨g,k,none⟩:Addr).add j)=⟨g,k+j,none⟩:=by rw [Addr.add_lit]
 rw [c,e];exact a
theorem Df (b o cap:Nat) (l:List Nd) (w:World) (h30:l.length≤30) (hN:jY w b o l) :
  Calls Tryz.prog 60 #[.slice (some ⟨b,o,none⟩) l.length cap] w fun e w'=>(∃ v R,e=.returned v∧w'.ownsRow w.heap.size 9 1 v R.length (eI R)∧iO l l.length R)∧Bl w w':=by
 obtain ⟨i0,J,T,U,V⟩:=info_parts Tryz.infoStR;have HN:=aa hN;obtain ⟨n,hn⟩:=aA l.length;have HL:=aa hn;rw [hn] at h30 ⊢;have hni:(n:Int)≤30:=by omega
 clear hN hn
 go_enter Tryz.func60,Tryz.ntmps60
 go_wp2_with fail
 go_loopg [3,4] n (fun g s3 s4 wr => ∃ (i:Nat) (R:List ByteArray),i≤n∧g=n-i∧s4=.int .i64 i∧wr.ownsRow w.heap.size 9 1 s3 R.length (eI R)∧iO l i R∧Bl w wr)
 case atStart=>exact ⟨0,[],zU,rfl,rfl,World.ownsRow_nil _ _ _ _,refs_zero,zS⟩
 case round =>
  obtain ⟨i,R,hi,rfl,rfl,K,hRef,hBw⟩:=hrel;have HO:=aa K;have Z:=aa hRef;have HW:=aa hBw;have hRl:R.length≤30:=by have:=hRef.1;omega
  clear hRef hBw
  by_cases hlt:i<n
  ·have hii:(i:Int)<(n:Int):=by omega
   obtain ⟨x0,x1,x2,x3,x4⟩:=(HN.out.later HW.out).nd (k:=i) (by rw [HL.out];exact hlt)
   have E:b<wr.heap.size:=(HN.out.later HW.out).1;obtain ⟨x,hx⟩:=aA (l.getD i bN);have HX:=aa hx;rw [hx] at x0 x2;clear hx x1 x3 x4
   by_cases hop:x.op=2
   ·rw [hop] at x0
    have Y:Hid ((l.getD i bN).op=2):=by show _=_;rw [HX.out];exact hop
    obtain ⟨nm,hnm⟩:=aA x.name;have HNm:Hid ((l.getD i bN).name=nm):=by show _=_;rw [HX.out];exact hnm
    rw [hnm] at x2;clear hop hnm
    rcases row_str K with ⟨hR0,rfl⟩ | ⟨g,cp,rfl,hgb,hgl,hcp,hcm,KH⟩
    ·subst hR0
     clear K;go_wp2_with fail;refine wp_loop_rounds 1 ?_;rw [rounds_succ];go_wp2_with fail
     go_quiet (fail)
     obtain ⟨W1,C⟩:=aA (wr.drewN nq);have hb1:Bl wr W1:=by rw [←C];exact ac (zS) _
     have A:=aa (ae HW.out hb1);have y0:=aD hb1 E x0;have y2:=aD hb1 E x2;have KI:=zW E hb1.size;rw [C];clear C hb1 x0 x2 E;go_wp2_with fail
     go_quiet (fail)
     obtain ⟨W2,D⟩:=aA (W1.drewN nq);have hb2:Bl W1 W2:=by rw [←D];exact ac (zS) _
     have s:=aa (ae A.out hb2);have x0:=aD hb2 KI y0;have x2:=aD hb2 KI y2;have E:=zW KI hb2.size;rw [D];clear D hb2 y0 y2 KI
     go_wp2_with (at_builtin;first | (refine wpList_append_own_none rfl _ _ 119 rfl w.heap.size 9 i0 1 Tryz.underlying119 J _ 0 [] rfl (World.ownsRow_nil _ _ _ _) rfl ?_) | (refine wpList_append_own_at _ rfl _ _ 119 rfl w.heap.size 9 i0 _ 1 16 Tryz.underlying119 J T U V rfl (by decide) _ 0 [] rfl (World.ownsRow_nil _ _ _ _) ⟨W2.heap.size,0,none⟩ 1 1 [.string nm] rfl rfl bw ?qc1 ?qc2 ?qc3 ?qc4 ?_))
     case qc1=>intro u hu;simp at hu;subst hu;rfl
     case qc2=>unfold maxLen;omega
     case qc3=>omega
     case qc4=>have:=s.out.size;simp;omega
     intro v3 w3 hown3 KJ _ hat3;have HB3:Hid (Bl w w3):=(s.out.alloc s.out.size _).grown KJ (by have:=s.out.size;simp;omega) (fun j c=>by cases c)
     have HO3:=aa hown3;clear hown3 KJ hat3
     go_wp2_with (at_builtin;refine wpList_append_own_none rfl _ _ 119 rfl w.heap.size 9 i0 1 Tryz.underlying119 J _ 1 _ rfl HO3.out rfl ?_)
     have B:=aa (lu Z.out Y.out 0);rw [HNm.out] at B;go_wp2_with fail
     go_roundg (n-(i+1))
     case measure=>omega
     case rel=>exact ⟨i+1,[nm],by omega,rfl,by go_num,HO3.out,B.out,HB3.out⟩
    have hlen:=hRl;obtain ⟨m,hm⟩:=aA R.length;have HM:=aa hm;have hmi:(m:Int)≤30:=by omega
    rw [hm] at hcp KH ⊢;have hcpi:(m:Int)≤(cp:Int):=by omega
    have hcmi:(cp:Int)≤9223372036854775807:=by omega
    have X:=aa KH;clear K KH hm hlen;go_wp2_with fail;have X2:=aa x2;clear x2;obtain ⟨wo,rfl⟩:∃ wo:World,wo=wr:=⟨_,rfl⟩
    go_loopg [5] m (fun g' s5 ws => ∃ (k:Nat),k≤m∧g'=m-k∧s5=.int .i64 k∧Bl wo ws)
    case atStart=>exact ⟨0,zU,rfl,rfl,zS⟩
    case round =>
     obtain ⟨k,hk,rfl,rfl,KG⟩:=hrel;have W:=aa KG;have x2':=aD KG E X2.out;have hblr:=zW E KG.size;have hglr:=zW hgl KG.size
     by_cases hkm:k<m
     ·have hki:(k:Int)<(m:Int):=by omega
      have c0:=aD KG hgl (X.out k hkm);obtain ⟨y,hy⟩:=aA (R.getD k jf);have HY:=aa hy;rw [hy] at c0;clear hy KG;cases hls:Op.bytesLess y.toList nm.toList
      ·go_wp2_with fail
       go_quiet (fail)
       obtain ⟨W1,C⟩:=aA (wr.drewN nq);have z:Bl wr W1:=by rw [←C];exact ac (zS) _
       have HS1:=aa z;have c1:=aD z hglr c0;have x3:=aD z hblr x2';rw [C];clear C z c0 x2' hls
       by_cases hyx:y=nm
       ·have HMem:Hid ((l.getD i bN).name∈R):=by
         show _∈R
         rw [HNm.out,←hyx,←HY.out,zZ,zX (by rw [HM.out];exact hkm)]
         exact List.getElem_mem _
        subst hyx;go_wp2_with fail
        go_quiet (fail)
        have HBq:Hid (Bl w (W1.drewN nq)):=ac (ae HW.out (ae W.out HS1.out)) _;have HOq:=aa (ao HO.out (ac (ae W.out HS1.out) nq));rw [HM.out] at HOq;go_wp2_with fail
        go_roundg (n-(i+1))
        case measure=>omega
        case rel=>exact ⟨i+1,R,by omega,rfl,by go_num,by rw [HM.out];exact HOq.out,F2 Z.out Y.out HMem.out,HBq.out⟩
       have hne:=Iy hyx;clear hyx;go_wp2_with fail
       go_quiet (fail)
       obtain ⟨W2,D⟩:=aA (W1.drewN nq);have Q:Bl W1 W2:=by rw [←D];exact ac (zS) _
       have HS2:=aa (ae HS1.out Q);rw [D];clear D Q c1 x3 hne;have hck : ¬ cp=k:=by omega
       have KT:=aa hk;have H0:Hid (g<W2.heap.size):=zW hgl (ae W.out HS2.out).size;have t:=aa (ae W.out HS2.out);have G:∀ j,j<R.length→W2.cell? ⟨g,j,none⟩=some (.string (R.getD j jf)):=fun j c=>aD t.out hgl (X.out j (by rw [←HM.out];exact c))
       have HCW:=aa G;have z2:=aD t.out E X2.out;have r:=aa (ae HW.out t.out);have S:=zW E t.out.size;clear G
       go_wp2_with (at_builtin;refine wpList_append_own_at _ rfl _ _ 119 rfl w.heap.size 9 i0 _ 1 16 Tryz.underlying119 J T U V rfl (by decide) _ 0 [] rfl (World.ownsRow_nil _ _ _ _) ⟨g,0,none⟩ k cp (eI (R.take k)) rfl ?qa0 ?qa1 ?qa2 ?qa3 ?qa4 ?qa5 ?_)
       case qa0=>rw [eI,List.length_map,List.length_take,HM.out,Nat.mul_one];exact Nat.min_eq_left KT.out
       case qa1=>exact vA HCW.out k
       case qa2=>exact sU _
       case qa3=>unfold maxLen;omega
       case qa4=>omega
       case qa5=>exact r.out.size
       intro v1 w1 H a _ N;have Hat1:=aa N;have h:Bl W2 w1:=⟨a.os,a.tape,a.output,a.size,fun q hq=>a.block q hq (by simp [Value.ownBlock])⟩
       have L:=aa h;have A:=aa (ae r.out h);have HO1:=aa H;have z3:=aD h S z2;have hbl3:=zW S h.size;clear H a N h z2
       go_wp2_with (at_builtin;refine wpList_append_own_at _ rfl _ _ 119 rfl w.heap.size 9 i0 _ 1 16 Tryz.underlying119 J T U V rfl (by decide) _ k _ rfl (ao HO1.out ?qb0) ⟨w1.heap.size,0,none⟩ 1 1 [.string nm] rfl rfl bw ?qb1 ?qb2 ?qb3 ?qb4 ?_)
       case qb0=>exact (zS).alloc (zT) _
       case qb1=>intro u hu;simp at hu;subst hu;rfl
       case qb2=>unfold maxLen;omega
       case qb3=>omega
       case qb4=>have:=A.out.size;simp;omega
       intro v2 w2 I f _ O;have M:∀ j,v1.ownBlock=some j→W2.heap.size≤j:=fun j c=>by
        rcases Hat1.out with e | e
        ·rw [e] at c;cases c
        rw [e] at c;cases c;exact zT
       have s:Hid (Bl w w2):=(A.out.alloc A.out.size _).grown f (by have:=A.out.size;simp;omega) (fun j c=>by have:=M j c;have:=r.out.size;omega)
       have HG2:Hid (Bl W2 w2):=(L.out.alloc L.out.size _).grown f (by have:=L.out.size;simp;omega) (fun j c=>M j c)
       have HO2:=aa I;have hv2:∀ j,v2.ownBlock=some j→W2.heap.size≤j:=fun j c=>by
        rcases O with e | e
        ·exact M j (by rw [←e];exact c)
        rw [e] at c;cases c;have:=L.out.size
        first | omega | (simp;omega)
       have Hv2:=aa hv2;have F:∀ j,j<R.length→w2.cell? ⟨g,j,none⟩=some (.string (R.getD j jf)):=fun j c=>aD HG2.out H0.out (HCW.out j c)
       have HC3:=aa F;clear I f O M hv2 F z3
       go_wp2_with (at_builtin;refine wpList_append_own_at _ rfl _ _ 119 rfl w.heap.size 9 i0 _ 1 16 Tryz.underlying119 J T U V rfl (by decide) _ (k+1) _ rfl HO2.out ⟨g,k,none⟩ (m-k) (cp-k) (eI (R.drop k)) rfl ?qd0 ?qd1 ?qd2 ?qd3 ?qd4 ?qd5 ?_)
       case qd0=>rw [eI,List.length_map,List.length_drop,HM.out,Nat.mul_one]
       case qd1=>exact F6 HC3.out k
       case qd2=>exact sU _
       case qd3=>unfold maxLen;omega
       case qd4=>omega
       case qd5=>exact s.out.size
       intro v4 w4 p d _ P;have HB4:Hid (Bl w w4):=s.out.grown d s.out.size (fun j c=>by have:=Hv2.out j c;have:=r.out.size;omega)
       have HO4:Hid (w4.ownsRow w.heap.size 9 1 v4 (R.take k ++ [nm] ++ R.drop k).length (eI (R.take k ++ [nm] ++ R.drop k))):=by
        have e1:(R.take k ++ [nm] ++ R.drop k).length=k+1+(m-k):=by
         rw [List.length_append,List.length_append,List.length_take,List.length_drop,HM.out,Nat.min_eq_left KT.out];rfl
        have e2:eI (R.take k ++ [nm] ++ R.drop k)=eI (R.take k) ++ .string nm :: eI (R.drop k):=by simp [eI]
        show World.ownsRow ..
        rw [e1,e2];exact p
       have B:=aa (lu Z.out Y.out k);rw [HNm.out] at B;clear p d P;go_wp2_with fail
       go_roundg (n-(i+1))
       case measure=>omega
       case rel=>exact ⟨i+1,_,by omega,rfl,by go_num,HO4.out,B.out,HB4.out⟩
      go_wp2_with fail
      go_quiet (fail)
      have HBq:Hid (Bl wo (wr.drewN nq)):=ac W.out _;go_wp2_with fail
      go_roundg (m-(k+1))
      case measure=>omega
      case rel=>exact ⟨k+1,by omega,rfl,by go_num,HBq.out⟩
     have hke:k=m:=by omega
     subst hke;clear KG;go_wp2_with fail
     go_quiet (fail)
     obtain ⟨W1,C⟩:=aA (wr.drewN nq);have z:Bl wr W1:=by rw [←C];exact ac (zS) _
     have HS1:=aa z;have x3:=aD z hblr x2';rw [C];clear C z x2';go_wp2_with fail
     go_quiet (fail)
     obtain ⟨W2,D⟩:=aA (W1.drewN nq);have Q:Bl W1 W2:=by rw [←D];exact ac (zS) _
     have HS2:=aa (ae HS1.out Q);rw [D];clear D Q x3;have KT:Hid (k≤k):=zT;have H0:Hid (g<W2.heap.size):=zW hgl (ae W.out HS2.out).size;have t:=aa (ae W.out HS2.out);have G:∀ j,j<R.length→W2.cell? ⟨g,j,none⟩=some (.string (R.getD j jf)):=fun j c=>aD t.out hgl (X.out j (by rw [←HM.out];exact c))
     have HCW:=aa G;have z2:=aD t.out E X2.out;have r:=aa (ae HW.out t.out);have S:=zW E t.out.size;clear G
     go_wp2_with (at_builtin;refine wpList_append_own_at _ rfl _ _ 119 rfl w.heap.size 9 i0 _ 1 16 Tryz.underlying119 J T U V rfl (by decide) _ 0 [] rfl (World.ownsRow_nil _ _ _ _) ⟨g,0,none⟩ k cp (eI (R.take k)) rfl ?qa0 ?qa1 ?qa2 ?qa3 ?qa4 ?qa5 ?_)
     case qa0=>rw [eI,List.length_map,List.length_take,HM.out,Nat.mul_one];exact Nat.min_eq_left KT.out
     case qa1=>exact vA HCW.out k
     case qa2=>exact sU _
     case qa3=>unfold maxLen;omega
     case qa4=>omega
     case qa5=>exact r.out.size
     intro v1 w1 H a _ N;have Hat1:=aa N;have h:Bl W2 w1:=⟨a.os,a.tape,a.output,a.size,fun q hq=>a.block q hq (by simp [Value.ownBlock])⟩
     have L:=aa h;have A:=aa (ae r.out h);have HO1:=aa H;have z3:=aD h S z2;have hbl3:=zW S h.size;clear H a N h z2
     go_wp2_with (at_builtin;refine wpList_append_own_at _ rfl _ _ 119 rfl w.heap.size 9 i0 _ 1 16 Tryz.underlying119 J T U V rfl (by decide) _ k _ rfl (ao HO1.out ?qb0) ⟨w1.heap.size,0,none⟩ 1 1 [.string nm] rfl rfl bw ?qb1 ?qb2 ?qb3 ?qb4 ?_)
     case qb0=>exact (zS).alloc (zT) _
     case qb1=>intro u hu;simp at hu;subst hu;rfl
     case qb2=>unfold maxLen;omega
     case qb3=>omega
     case qb4=>have:=A.out.size;simp;omega
     intro v2 w2 I f _ O;have M:∀ j,v1.ownBlock=some j→W2.heap.size≤j:=fun j c=>by
      rcases Hat1.out with e | e
      ·rw [e] at c;cases c
      rw [e] at c;cases c;exact zT
     have s:Hid (Bl w w2):=(A.out.alloc A.out.size _).grown f (by have:=A.out.size;simp;omega) (fun j c=>by have:=M j c;have:=r.out.size;omega)
     have HG2:Hid (Bl W2 w2):=(L.out.alloc L.out.size _).grown f (by have:=L.out.size;simp;omega) (fun j c=>M j c)
     have HO2:=aa I;have hv2:∀ j,v2.ownBlock=some j→W2.heap.size≤j:=fun j c=>by
      rcases O with e | e
      ·exact M j (by rw [←e];exact c)
      rw [e] at c;cases c;have:=L.out.size
      first | omega | (simp;omega)
     have Hv2:=aa hv2;have F:∀ j,j<R.length→w2.cell? ⟨g,j,none⟩=some (.string (R.getD j jf)):=fun j c=>aD HG2.out H0.out (HCW.out j c)
     have HC3:=aa F;clear I f O M hv2 F z3
     by_cases hcc:cp=k
     ·obtain ⟨A2,c2,hv2e⟩:=fL HO2.out
      subst hv2e
      go_wp2_with (at_builtin;(refine wpList_append_own_at _ rfl _ _ 119 rfl w.heap.size 9 i0 _ 1 16 Tryz.underlying119 J T U V rfl (by decide) _ (k+1) _ rfl HO2.out ⟨g,0,none⟩ 0 0 [] rfl rfl ?qd1 ?qd2 ?qd3 ?qd4 ?qd5 ?_))
      case qd1=>intro j u c;simp at c
      case qd2=>intro u hu;simp at hu
      case qd3=>unfold maxLen;omega
      case qd4=>omega
      case qd5=>exact s.out.size
      intro v4 w4 p d _ P;have HB4:Hid (Bl w w4):=s.out.grown d s.out.size (fun j c=>by have:=Hv2.out j c;have:=r.out.size;omega)
      have HO4:Hid (w4.ownsRow w.heap.size 9 1 v4 (R.take k ++ [nm] ++ R.drop k).length (eI (R.take k ++ [nm] ++ R.drop k))):=by
       have e0:R.drop k=[]:=List.drop_eq_nil_of_le (by rw [HM.out];exact zT)
       have e1:(R.take k ++ [nm] ++ R.drop k).length=k+1:=by
        rw [e0,List.append_nil,List.length_append,List.length_take,HM.out,Nat.min_self];rfl
       have e2:eI (R.take k ++ [nm] ++ R.drop k)=eI (R.take k) ++ [.string nm]:=by rw [e0];simp [eI]
       show World.ownsRow ..
       rw [e1,e2];exact p
      have B:=aa (lu Z.out Y.out k);rw [HNm.out] at B;clear p d P;go_wp2_with fail
      go_roundg (n-(i+1))
      case measure=>omega
      case rel=>exact ⟨i+1,_,by omega,rfl,by go_num,HO4.out,B.out,HB4.out⟩
     go_wp2_with (at_builtin;(refine wpList_append_own_at _ rfl _ _ 119 rfl w.heap.size 9 i0 _ 1 16 Tryz.underlying119 J T U V rfl (by decide) _ (k+1) _ rfl HO2.out ⟨g,k,none⟩ 0 (cp-k) [] rfl rfl ?qd1 ?qd2 ?qd3 ?qd4 ?qd5 ?_))
     case qd1=>intro j u c;simp at c
     case qd2=>intro u hu;simp at hu
     case qd3=>unfold maxLen;omega
     case qd4=>omega
     case qd5=>exact s.out.size
     intro v4 w4 p d _ P;have HB4:Hid (Bl w w4):=s.out.grown d s.out.size (fun j c=>by have:=Hv2.out j c;have:=r.out.size;omega)
     have HO4:Hid (w4.ownsRow w.heap.size 9 1 v4 (R.take k ++ [nm] ++ R.drop k).length (eI (R.take k ++ [nm] ++ R.drop k))):=by
      have e0:R.drop k=[]:=List.drop_eq_nil_of_le (by rw [HM.out];exact zT)
      have e1:(R.take k ++ [nm] ++ R.drop k).length=k+1:=by
       rw [e0,List.append_nil,List.length_append,List.length_take,HM.out,Nat.min_self];rfl
      have e2:eI (R.take k ++ [nm] ++ R.drop k)=eI (R.take k) ++ [.string nm]:=by rw [e0];simp [eI]
      show World.ownsRow ..
      rw [e1,e2];exact p
     have B:=aa (lu Z.out Y.out k);rw [HNm.out] at B;clear p d P;go_wp2_with fail
     go_roundg (n-(i+1))
     case measure=>omega
     case rel=>exact ⟨i+1,_,by omega,rfl,by go_num,HO4.out,B.out,HB4.out⟩
   have hne:(x.op != 2)=true:=by simpa using hop
   have Y:Hid ((l.getD i bN).op≠2):=by show _≠_;rw [HX.out];exact hop
   clear hop K;go_wp2_with fail
   go_roundg (n-(i+1))
   case measure=>omega
   case rel=>exact ⟨i+1,R,by omega,rfl,by go_num,HO.out,C5 Z.out Y.out,HW.out⟩
  have hie:i=n:=by omega
  subst hie;clear K;go_wp2_with fail;go_ret;exact ⟨⟨_,R,rfl,HO.out,Z.out⟩,HW.out⟩
end Go.Proofs.YtompdcaikmekkaaGreatDoor
