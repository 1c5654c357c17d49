/- How a member is told, -/
import Derived.Test.YthlhjjabkgpenaaGreatDoorJTAV
import Derived.Test.YthlhjjabkgpenaaGreatDoorJTAY
namespace Go.Proofs.YthlhjjabkgpenaaGreatDoor
open ChangeShapes WideShapes ChangeAt RowKit
set_option maxRecDepth 99999
set_option maxHeartbeats 0
structure WL where
 lf:Bool
 nd:List Nd
 An:Option Addr
 cn:Nat
 nm:List (List UInt8)
 As:Option Addr
 cs:Nat
 ne:List Int
 Ai:Option Addr
 ci:Nat
 sg:List Int
 Ag:Option Addr
 cg:Nat
def ex:WL:=⟨false,[],none,0,[],none,0,[],none,0,[],none,0⟩
def ip (x:WL):List Value:=[.bool x.lf,.slice x.An x.nd.length x.cn,.slice x.As x.nm.length x.cs,.slice x.Ai x.ne.length x.ci,.slice x.Ag x.sg.length x.cg]
def wayV (x:WL):Value:=.agg #[.bool x.lf,.slice x.An x.nd.length x.cn,.slice x.As x.nm.length x.cs,.slice x.Ai x.ne.length x.ci,.slice x.Ag x.sg.length x.cg]
def eM (w:World) (x:WL):Prop:=iR w x.An x.cn x.nd∧jB w x.As x.cs x.nm∧aY w x.Ai x.ci x.ne∧aY w x.Ag x.cg x.sg
theorem CF:(142:Nat)≠164:=by decide
theorem xV:(9:Nat)≠164:=by decide
theorem pp:(3:Nat)≠164:=by decide
theorem CU:(142:Nat)≠152:=by decide
theorem zw:(9:Nat)≠152:=by decide
theorem pR:(3:Nat)≠152:=by decide
theorem zx:(164:Nat)≠152:=by decide
def mZ (T:Nat) (w w':World):Prop := ∀ (b:Nat) (cs:Array Value) (t:Nat) (fr:Nat×Nat),w.heap[b]?=some (Obj.cells cs t fr)→t≠T→w'.heap[b]?=w.heap[b]?
theorem eM.keepW {w w':World} {x:WL} (h:eM w x) (c:mZ 164 w w'):eM w' x :=
 ⟨h.1.keep fun b cs fr a=>c b cs _ fr a CF,h.2.1.keep fun b cs fr a=>c b cs _ fr a xV,h.2.2.1.keep fun b cs fr a=>c b cs _ fr a pp,h.2.2.2.keep fun b cs fr a=>c b cs _ fr a pp⟩
theorem eM.keepA {w w':World} {x:WL} (h:eM w x) (c:mZ 152 w w'):eM w' x :=
 ⟨h.1.keep fun b cs fr a=>c b cs _ fr a CU,h.2.1.keep fun b cs fr a=>c b cs _ fr a zw,h.2.2.1.keep fun b cs fr a=>c b cs _ fr a pR,h.2.2.2.keep fun b cs fr a=>c b cs _ fr a pR⟩
theorem eM.later {w w':World} {x:WL} (h:eM w x) (a:Bl w w'):eM w' x:=⟨h.1.later a,h.2.1.later a,h.2.2.1.later a,h.2.2.2.later a⟩
theorem fl {w:World} {g k T:Nat} {cs:Array Value} {fr:Nat×Nat} {v:Value} (h:w.heap[g]?=some (.cells cs T fr)):mZ T w (w.setCell ⟨g,k,none⟩ v):=fun b c t d a f=>by
 refine ao _ _ _ _ _ fun e=>?_
 rw [e,h] at a;simp only [Option.some.injEq,Obj.cells.injEq] at a;exact f a.2.1.symm
theorem eZ {T:Nat} {w w1 w2:World} (h:mZ T w w1) (k:mZ T w1 w2):mZ T w w2:=fun b cs t fr a c=>by
 have e:=h b cs t fr a c;exact (k b cs t fr (e.trans a) c).trans e
theorem cI {w:World} {g k T:Nat} {cs:Array Value} {fr:Nat×Nat} {v:Value} (h:w.heap[g]?=some (.cells cs T fr)):(w.setCell ⟨g,k,none⟩ v).heap[g]?=some (.cells (cs.setIfInBounds k v) T fr):=by
 rw [Sort.setCell_eq];unfold Sort.mapBlock;simp only [Array.getElem?_modify,if_true,h,Option.map_some]
 rfl
theorem jo {w:World} {g T:Nat} {cs:Array Value} {fr:Nat×Nat} {a b c d e:Value} (h:w.heap[g]?=some (.cells cs T fr)):mZ T w (((((w.setCell ⟨g,0,none⟩ a).setCell ⟨g,1,none⟩ b).setCell ⟨g,2,none⟩ c).setCell ⟨g,3,none⟩ d).setCell ⟨g,4,none⟩ e) :=
 eZ (eZ (eZ (eZ (fl h) (fl (cI h))) (fl (cI (cI h)))) (fl (cI (cI (cI h))))) (fl (cI (cI (cI (cI h)))))
def gF (d:Dm) (k:Int):Int:=(d.mem k.toNat).sign
def fh (d:Dm) (i:Nat) (x:WL):Prop:=((d.mem i).formula.size=0→x.lf=leafB d.mem d.n i∧x.nd=[]∧x.nm=[]∧x.ne=dQ d i∧x.sg=(dQ d i).map (gF d))∧((d.mem i).formula.size≠0→x.lf=false∧x.nd=bE (d.mem i).formula∧x.nm=aQ (bE (d.mem i).formula)∧x.ne=(aQ (bE (d.mem i).formula)).map (whL d)∧x.sg=[])
def b6 (w:World) (d:Dm) (A:Option Addr) (cap:Nat):World:=(aI w d A cap 37).alloc (.cells #[.bool false,.slice none 0 0,.slice none 0 0,.slice none 0 0,.slice none 0 0] 164)
theorem iD (w:World) (d:Dm) (A:Option Addr) (cap:Nat):Bl w (b6 w d A cap):=by unfold b6 aI;go_grown
theorem gh (w:World) (d:Dm) (A:Option Addr) (cap:Nat):(b6 w d A cap).heap.size=w.heap.size+2:=by unfold b6 aI;simp
theorem fO {w w1:World} {d:Dm} {A:Option Addr} {cap:Nat} (a:Below (b6 w d A cap).heap.size (b6 w d A cap) w1):(w1.cell? ⟨w.heap.size,0,none⟩=some (.string d.name)∧w1.cell? ⟨w.heap.size,1,none⟩=some (.int .i64 d.solve)∧w1.cell? ⟨w.heap.size,2,none⟩=some (.slice A d.n cap)∧w.heap.size<w1.heap.size)∧w1.heap[w.heap.size+1]?=some (.cells #[.bool false,.slice none 0 0,.slice none 0 0,.slice none 0 0,.slice none 0 0] 164 (0,0)):=by
 have b:Below (aI w d A cap 37).heap.size (aI w d A cap 37) (b6 w d A cap):=by unfold b6;go_grown
 refine ⟨eT (ae b a),?_⟩;rw [a.block _ (by rw [gh];omega)]
 unfold b6;have h:=heap_alloc_new (aI w d A cap 37) (.cells #[.bool false,.slice none 0 0,.slice none 0 0,.slice none 0 0,.slice none 0 0] 164);rw [aZ] at h;exact h
theorem ie {w:World} {g:Nat} (h:w.heap[g]?=some (.cells #[.bool false,.slice none 0 0,.slice none 0 0,.slice none 0 0,.slice none 0 0] 164 (0,0))):g<w.heap.size∧(w.cell? ⟨g,0,none⟩=some (.bool false)∧w.cell? ⟨g,1,none⟩=some (.slice none 0 0)∧w.cell? ⟨g,2,none⟩=some (.slice none 0 0)∧w.cell? ⟨g,3,none⟩=some (.slice none 0 0)∧w.cell? ⟨g,4,none⟩=some (.slice none 0 0))∧∀ k,w.frozen? ⟨g,k,none⟩=false :=
 ⟨(zY h).1,⟨by simp [World.cell?,h],by simp [World.cell?,h],by simp [World.cell?,h],by simp [World.cell?,h],by simp [World.cell?,h]⟩,fun k=>by simp [World.frozen?,h]⟩
theorem Fc (d:Dm) (P:List Int) {k:Nat} (h:k<P.length):(P.take (k+1)).map (gF d)=(P.take k).map (gF d) ++ [gF d (P.getD k 0)]:=by
 rw [List.take_succ_eq_append_getElem h,List.map_append,zZ,zX h]
 rfl
theorem sL (d:Dm) (A:Option Addr) (cap i:Nat) (w:World) (hR:(a8 d).2=0) (hi:i<d.n) (hf:(d.mem i).formula.size=0) (hM:dP w A cap d.n d.mem) :
  Calls Tryz.prog 142 #[cA d A cap,.int .i64 i] w fun e w'=>(∃ x,e=.returned (.tuple #[wayV x,.nilIface])∧eM w' x∧fh d i x)∧Bl w w':=by
 obtain ⟨hd,-,-,-⟩:=bK hR;obtain ⟨-,-,hd2,-⟩:=aG hd;obtain ⟨i0,hi0,hz0,hz1,hz2⟩:=info_parts Tryz.infoInt;obtain ⟨hcap,h0 | ⟨b,o,rfl,U⟩⟩:=id hM
 ·omega
 have y:=iD w d (some ⟨b,o,none⟩) cap;have hS:=gh w d (some ⟨b,o,none⟩) cap;obtain ⟨⟨o0,o1,o2,hq⟩,Lu⟩:=fO (w:=w) (d:=d) (A:=(some ⟨b,o,none⟩)) (cap:=cap) (zS);have L:treeErr d [(i:Int)]=0:=by rw [gt hd,if_neg (by omega)]
 have Z:rC d i=leafB d.mem d.n i:=by unfold rC;rw [L];simp
 have c:=qW d (some ⟨b,o,none⟩) cap i (b6 w d (some ⟨b,o,none⟩) cap) (hM.later y);rw [L,Z,errV_zero] at c;have s:Hid (∀ w',Bl w w'→Calls Tryz.prog 170 #[cA d (some ⟨b,o,none⟩) cap,.int .i64 i] w' fun e w''=>(∃ A' q,e=.returned (.tuple #[.slice A' (dQ d i).length q,.nilIface])∧aY w'' A' q (dQ d i))∧Bl w' w''):=fun w' hb=>by
  have h:=B5 d (some ⟨b,o,none⟩) cap i w' (hM.later hb);rw [(KU hR hi).1,(KU hR hi).2,errV_zero] at h;exact h
 have u:Hid (∀ w1,Below (b6 w d (some ⟨b,o,none⟩) cap).heap.size (b6 w d (some ⟨b,o,none⟩) cap) w1→(w1.cell? ⟨w.heap.size,0,none⟩=some (.string d.name)∧w1.cell? ⟨w.heap.size,1,none⟩=some (.int .i64 d.solve)∧w1.cell? ⟨w.heap.size,2,none⟩=some (.slice (some ⟨b,o,none⟩) d.n cap)∧w.heap.size<w1.heap.size)∧w1.heap[w.heap.size+1]?=some (.cells #[.bool false,.slice none 0 0,.slice none 0 0,.slice none 0 0,.slice none 0 0] 164 (0,0))):=fun w1 h=>fO h
 have HM:=aa U;have Q:Hid (∀ z∈dQ d i,0≤z∧z<(d.n:Int)):=fun z hz=>ef hz
 have C:(dQ d i).length≤12:=zV (cS _ _) hd2;unfold cA at c s ⊢;obtain ⟨W,hW⟩:=ax (b6 w d (some ⟨b,o,none⟩) cap);rw [hW] at y hS o0 o1 o2 hq Lu c u;unfold b6 aI at hW;have F:=aa y;have H:Hid (∀ A' q A2 c2,fh d i ⟨leafB d.mem d.n i,[],none,0,[],none,0,dQ d i,A',q,(dQ d i).map (gF d),A2,c2⟩):=fun A' q _ _=>⟨fun _=>⟨rfl,rfl,rfl,rfl,rfl⟩,fun h=>absurd hf h⟩
 generalize leafB d.mem d.n i=lf at c H;obtain ⟨P,hP⟩:=ax (dQ d i);rw [hP] at s Q C H;obtain ⟨n,hn⟩:=ax P.length;have M:=aa hn;rw [hn] at s C;have hnI:(n:Int)≤12:=by omega
 have hdI:(d.n:Int)≤12:=by omega
 have hcI:(d.n:Int)≤(cap:Int):=by omega
 clear hd L Z hR hf hM U y Lu hP hn
 go_enter Tryz.func142,Tryz.ntmps142
 go_wp2_with fail;refine c.mono ?_;rintro e w1 ⟨rfl,K⟩;have N:=aa K;obtain ⟨⟨p0,p1,p2,hq1⟩,-⟩:=u.out w1 K;clear K c o0 o1 o2 hW;go_wp2_with fail;refine (s.out w1 (ae F.out N.out)).mono ?_;rintro e w2 ⟨⟨A2,c2,rfl,R⟩,V⟩;have G:=aa (ae N.out V);have O:=aa R;clear V p0 p1 p2 R;go_wp2_with fail
 go_loopg [9,34] n (fun g s9 s34 wr => ∃ (k:Nat) (v:Value),k≤n∧g=n-k∧s34=.int .i64 k∧v=s9∧wr.ownsRow w2.heap.size 3 1 v k (aE ((P.take k).map (gF d)))∧Bl w2 wr)
 case atStart=>exact ⟨0,_,zU,rfl,rfl,rfl,World.ownsRow_nil _ _ _ _,zS⟩
 case round =>
  obtain ⟨k,v,hk,rfl,rfl,rfl,hO,l⟩:=hrel;have HO:=aa hO;have f:=aa l
  by_cases hlt:k<n
  ·have hki:(k:Int)<(n:Int):=by omega
   have B:k<P.length:=by rw [M.out];exact hlt
   obtain ⟨hcS,-,hS0 | ⟨bs,cs,fr,rfl,X,Y⟩⟩:=O.out.later l
   ·have:=M.out;rw [hS0] at this;simp at this;omega
   have cx:=Y k B;have hbs:bs<wr.heap.size:=(zY X).1;rw [M.out] at hcS;have E:P.getD k 0∈P:=by rw [zZ,zX B];exact List.getElem_mem B
   have hz:=Q.out _ E;have t:Hid ((P.take (k+1)).map (gF d)=(P.take k).map (gF d) ++ [gF d (P.getD k 0)]):=Fc d P B;have J:=ae G.out l;obtain ⟨⟨-,-,q2,hq2⟩,-⟩:=u.out wr J;have I:=HM.out.later (ae F.out J);obtain ⟨j,hj⟩:∃ j:Nat,P.getD k 0=(j:Int):=⟨(P.getD k 0).toNat,by omega⟩
   have hjn:j<d.n:=by omega
   have hjI:(j:Int)<(d.n:Int):=by omega
   rw [hj] at cx t;obtain ⟨-,-,m2,-⟩:=I.2 j hjn;have hbl:b<wr.heap.size:=I.1;have Lt:gF d (j:Int)=(d.mem j).sign:=by unfold gF;rw [Int.toNat_natCast]
   rw [Lt] at t;have hBs:=f.out.size;generalize (d.mem j).sign=r at m2 t;clear Y hO l J I hj hz E Lt X
   go_wp2_with (at_builtin;refine wpList_append_own _ rfl _ _ 26 rfl w2.heap.size 3 i0 (.int .i64 0) 1 8 Tryz.underlying26 hi0 hz0 hz1 hz2 rfl (by decide) _ _ _ rfl (HO.out.alloc _) ⟨wr.heap.size,0,none⟩ 1 1 [.int .i64 r] rfl rfl bu dY (by unfold maxLen;omega) (by omega) (by simp;omega) ?_)
   intro v' w5 p m _;have HB5:Hid (Bl w2 w5):=bA f.out HO.out m;have HO5:Hid (w5.ownsRow w2.heap.size 3 1 v' (k+1) (aE ((P.take (k+1)).map (gF d)))):=by
    show World.ownsRow ..
    rw [t.out,mapI_snoc,List.map_take];exact p
   clear p m;go_wp2_with fail
   go_roundg (n-(k+1))
   case measure=>omega
   case rel=>exact ⟨k+1,_,by omega,rfl,by go_num,rfl,HO5.out,HB5.out⟩
  have hke:k=n:=by omega
  subst hke;have T:P.take k=P:=List.take_of_length_le (by rw [M.out];exact zT)
  have HF:Hid (∃ A' q,v=.slice A' k q∧aY wr A' q (P.map (gF d))):=by
   have h:=hO;rw [T] at h;have D:(P.map (gF d)).length=k:=by rw [List.length_map];exact M.out
   rw [←D] at h;obtain ⟨A',q,e,hv⟩:=cE h;rw [D] at e;exact ⟨A',q,e,hv⟩
  obtain ⟨A3,c3,rfl,S⟩:=HF.out;have HI3:=aa S;obtain ⟨-,hr⟩:=u.out wr (ae G.out f.out);obtain ⟨hg,⟨r0,r1,r2,r3,r4⟩,a⟩:=ie hr;have f0:=a 0;have f1:=a 1;have f2:=a 2;have f3:=a 3;have f4:=a 4;have HRr:=aa hr;clear hO l hr a S T HO HF;go_wp2_with fail;refine bodyPost_ret (v:=.tuple #[wayV ⟨lf,[],none,0,[],none,0,P,A2,c2,P.map (gF d),A3,c3⟩,.nilIface]) (by simp [results,Tryz.results142,go_sem,r0,r1,r2,r3,r4,wayV,M.out]) rfl ⟨⟨_,rfl,?_,H.out _ _ _ _⟩,?_⟩
  ·exact eM.keepW (⟨iR.nil _ _ _ (zU),jB.nil _ _ _ (zU),O.out.later f.out,HI3.out⟩:eM wr _) (jo HRr.out)
  exact (((((ae F.out (ae G.out f.out)).setCell (by simp) _).setCell (by simp) _).setCell (by simp) _).setCell (by simp) _).setCell (by simp) _
theorem Hl:dG 168:=fun args w=>by simp [callFunc,Tryz.func168];rfl
theorem FR (m:Mem) (s:ByteArray) (q:Nat) (w:World) (a:q<w.heap.size) (h:w.cell? ⟨q,0,none⟩=some (.string s)):Rt 168 #[pC m,.pointer (some ⟨q,0,none⟩)] w (.bool (same m.name s)):=by
 unfold pC
 go_enter Tryz.func168,Tryz.ntmps168
 go_wp2_with fail;go_ret;exact ⟨by simp [same],by go_grown⟩
theorem pt (d:Dm) (A:Option Addr) (cap i:Nat) (w:World) (hR:(a8 d).2=0) (hi:i<d.n) (hf:(d.mem i).formula.size≠0) (hM:dP w A cap d.n d.mem) :
  Calls Tryz.prog 141 #[cA d A cap,.string (d.mem i).formula] w fun e w'=>(∃ x,e=.returned (.tuple #[wayV x,.nilIface])∧eM w' x∧fh d i x)∧Bl w w':=by
 obtain ⟨hd,LE,-,-⟩:=bK hR;obtain ⟨-,-,hd2,D⟩:=aG hd;obtain ⟨i0,hi0,hz0,hz1,hz2⟩:=info_parts Tryz.infoInt;have hmf:∀ (fn:Fn) (first cap:Array Value) (w:World),(Instr.makeFunc fn first cap).run Tryz.prog w=.ok (.func fn first cap) w:=fun _ _ _ _=>rfl
 obtain ⟨hcap,h0 | ⟨b,o,rfl,Lw⟩⟩:=hM
 ·omega
 have S:=eX hf (LE i hi);have R:=dC S;have LF:=oL R;have K:=iD w d (some ⟨b,o,none⟩) cap;have hS:=gh w d (some ⟨b,o,none⟩) cap;obtain ⟨⟨o0,o1,o2,hq⟩,-⟩:=fO (w:=w) (d:=d) (A:=(some ⟨b,o,none⟩)) (cap:=cap) (zS);have H:Hid (∀ w1,Below (b6 w d (some ⟨b,o,none⟩) cap).heap.size (b6 w d (some ⟨b,o,none⟩) cap) w1→(w1.cell? ⟨w.heap.size,0,none⟩=some (.string d.name)∧w1.cell? ⟨w.heap.size,1,none⟩=some (.int .i64 d.solve)∧w1.cell? ⟨w.heap.size,2,none⟩=some (.slice (some ⟨b,o,none⟩) d.n cap)∧w.heap.size<w1.heap.size)∧w1.heap[w.heap.size+1]?=some (.cells #[.bool false,.slice none 0 0,.slice none 0 0,.slice none 0 0,.slice none 0 0] 164 (0,0))):=fun w1 h=>fO h
 have HM:=aa Lw;unfold cA;obtain ⟨W,hW⟩:=ax (b6 w d (some ⟨b,o,none⟩) cap);rw [hW] at K hS o0 o1 o2 hq H;unfold b6 aI at hW;have T:=aa K;have I:Hid (∀ An cn As cs Ai ci,fh d i ⟨false,bE (d.mem i).formula,An,cn,aQ (bE (d.mem i).formula),As,cs,(aQ (bE (d.mem i).formula)).map (whL d),Ai,ci,[],none,0⟩):=fun _ _ _ _ _ _=>⟨fun h=>absurd h hf,fun _=>⟨rfl,rfl,rfl,rfl,rfl⟩⟩
 have LC:=gd (D i hi);generalize (d.mem i).formula=s at *;have p:=nF s W LC;have a:=fun A c w' hN=>qg A c (bE s) w' hN
 rw [R,errV_zero] at a;rw [S,errV_zero] at p;obtain ⟨L,hL⟩:=ax (aQ (bE s));rw [hL] at LF a I;obtain ⟨l,hl⟩:=ax (bE s);rw [hl] at p a I;generalize (i6 s:Int)=at' at p;obtain ⟨n,hn⟩:=ax L.length;have G:=aa hn;obtain ⟨m,hm⟩:=ax l.length;have HMm:=aa hm;have Y:Hid (∀ A c w',iR w' A c l→Calls Tryz.prog 167 #[.slice A m c] w' fun e w''=>(∃ A' J,e=.returned (.tuple #[.slice A' n J,.nilIface])∧jB w'' A' J L)∧Bl w' w''):=fun A c w' h=>by rw [←hn,←hm];exact a A c w' h.1
 rw [hm] at p;rw [hn] at LF;have hnI:(n:Int)≤30:=by omega
 have hdI:(d.n:Int)≤12:=by omega
 clear S R hL hl hn hm a hd LE D hR hf Lw K LC
 go_enter Tryz.func141,Tryz.ntmps141
 go_wp2_with fail;refine p.mono ?_;rintro e w1 ⟨⟨A1,c1,rfl,N⟩,Lz⟩;have a:=Y.out A1 c1 w1 N;have HN1:=aa N;have HB1:=aa Lz;clear p N Lz o0 o1 o2 hW;go_wp2_with fail;refine a.mono ?_;rintro e w2 ⟨⟨A2,c2,rfl,Lx⟩,P⟩;have F:=aa (ae HB1.out P);have Z:=aa Lx;have HN2:=aa (HN1.out.later P);clear a P Lx;go_wp2_with fail
 go_loopg [10,34] n (fun g s10 s34 wr => ∃ (k:Nat) (v:Value),k≤n∧g=n-k∧s34=.int .i64 k∧v=s10∧wr.ownsRow w2.heap.size 3 1 v k (aE ((L.take k).map (whL d)))∧Bl w2 wr)
 case atStart=>exact ⟨0,_,zU,rfl,rfl,rfl,World.ownsRow_nil _ _ _ _,zS⟩
 case round =>
  obtain ⟨k,v,hk,rfl,rfl,rfl,hO,t⟩:=hrel;have HO:=aa hO;have q:=aa t
  by_cases LD:k<n
  ·have hki:(k:Int)<(n:Int):=by omega
   obtain ⟨hcS,-,hS0 | ⟨bs,os,rfl,hbS,LA⟩⟩:=(Z.out.later t).1
   ·have:=G.out;rw [hS0] at this;simp at this;omega
   have cx:=LA k (by rw [G.out];exact LD)
   rw [G.out] at hcS;have V:Hid ((L.take (k+1)).map (whL d)=(L.take k).map (whL d) ++ [whL d (L.getD k [])]):=yP d L (by rw [G.out];exact LD)
   have O:=ae F.out t;obtain ⟨⟨-,-,p2,hq2⟩,-⟩:=H.out wr O;have Lv:=HM.out.later (ae T.out O);obtain ⟨x,hx⟩:=ax ((⟨(L.getD k []).toArray⟩:ByteArray));have HX:Hid (x.data.toList=L.getD k []):=by show _=_;rw [←hx]
   rw [hx] at cx;obtain ⟨y,hy⟩:=ax (wr.alloc (.cells #[.string x] 9));have B:Bl wr y:=by rw [←hy];exact (zS).alloc (zT) _
   have hsy:y.heap.size=wr.heap.size+1:=by rw [←hy];simp
   have LB:y.cell? ⟨wr.heap.size,0,none⟩=some (.string x):=by
    have h:y.heap[wr.heap.size]?=some (.cells #[.string x] 9 (0,0)):=by rw [←hy];exact heap_alloc_new _ _
    rw [Lib.cell_of_heap h]
    rfl
   have py:=aL B hq2 p2;have C:=kd 168 wr.heap.size Hl b o d.n cap d.mem (fun j=>same (d.mem j).name x) y hd2 (Lv.later B) (fun j w' _ LG=>FR (d.mem j) x wr.heap.size w' (by have:=LG.size;omega) (aL LG (by show wr.heap.size<_;omega) LB))
   rw [k7,HX.out] at C;generalize whL d (L.getD k [])=r at C V;have U:=aa B;generalize d.n=dn at *;clear LA hO t O Lv B LB hx hsy;go_wp2_with fail;refine C.mono ?_;rintro e w4 ⟨rfl,Q⟩;have M:Bl w2 w4:=ae q.out (ae U.out Q);have HB4:=aa M;have X:Hid (w4.ownsRow w2.heap.size 3 1 v k (aE ((L.take k).map (whL d)))):=ar (ar HO.out U.out) Q;have hsz:=M.size;clear Q C M hy
   go_wp2_with (at_builtin;refine wpList_append_own _ rfl _ _ 26 rfl w2.heap.size 3 i0 (.int .i64 0) 1 8 Tryz.underlying26 hi0 hz0 hz1 hz2 rfl (by decide) _ _ _ rfl (X.out.alloc _) ⟨w4.heap.size,0,none⟩ 1 1 [.int .i64 r] rfl rfl bu dY (by unfold maxLen;omega) (by omega) (by simp;omega) ?_)
   intro v' w5 z u _;have HB5:Hid (Bl w2 w5):=bA HB4.out X.out u;have HO5:Hid (w5.ownsRow w2.heap.size 3 1 v' (k+1) (aE ((L.take (k+1)).map (whL d)))):=by
    show World.ownsRow ..
    rw [V.out,mapI_snoc,List.map_take];exact z
   clear z u;go_wp2_with fail
   go_roundg (n-(k+1))
   case measure=>omega
   case rel=>exact ⟨k+1,_,by omega,rfl,by go_num,rfl,HO5.out,HB5.out⟩
  have hke:k=n:=by omega
  subst hke;have Lu:L.take k=L:=List.take_of_length_le (by rw [G.out];exact zT)
  have HF:Hid (∃ A' J,v=.slice A' k J∧aY wr A' J (L.map (whL d))):=by
   have h:=hO;rw [Lu] at h;have E:(L.map (whL d)).length=k:=by rw [List.length_map];exact G.out
   rw [←E] at h;obtain ⟨A',J,e,hv⟩:=cE h;rw [E] at e;exact ⟨A',J,e,hv⟩
  obtain ⟨A3,c3,rfl,Lt⟩:=HF.out;have HI3:=aa Lt;obtain ⟨-,hr⟩:=H.out wr (ae F.out q.out);obtain ⟨hg,⟨r0,r1,r2,r3,r4⟩,f⟩:=ie hr;have f0:=f 0;have f1:=f 1;have f2:=f 2;have f3:=f 3;have f4:=f 4;have HRr:=aa hr;clear hO t hr f Lt Lu HO HF;go_wp2_with fail;refine bodyPost_ret (v:=.tuple #[wayV ⟨false,l,A1,c1,L,A2,c2,L.map (whL d),A3,c3,[],none,0⟩,.nilIface]) (by simp [results,Tryz.results141,go_sem,r0,r1,r2,r3,r4,wayV,G.out,HMm.out]) rfl ⟨⟨_,rfl,?_,I.out _ _ _ _ _ _⟩,?_⟩
  ·exact eM.keepW (⟨HN2.out.later q.out,Z.out.later q.out,HI3.out,aY.nil _ _ _ (zU)⟩:eM wr _) (jo HRr.out)
  exact (((((ae T.out (ae F.out q.out)).setCell (by simp) _).setCell (by simp) _).setCell (by simp) _).setCell (by simp) _).setCell (by simp) _
theorem CG (d:Dm) (A:Option Addr) (cap i:Nat) (w:World) (z:(a8 d).2=0) (H:i<d.n) (N:dP w A cap d.n d.mem) :
  Calls Tryz.prog 120 #[cA d A cap,.int .i64 i] w fun e w'=>(∃ x,e=.returned (.tuple #[wayV x,.nilIface])∧eM w' x∧fh d i x)∧Bl w w':=by
 obtain ⟨G,-,-,-⟩:=bK z;obtain ⟨-,-,Y,-⟩:=aG G;have c:=iD w d A cap;have X:=gh w d A cap;obtain ⟨⟨o0,o1,o2,hq⟩,-⟩:=fO (w:=w) (d:=d) (A:=A) (cap:=cap) (zS);have q:Hid (∀ w1,Below (b6 w d A cap).heap.size (b6 w d A cap) w1→w1.heap[w.heap.size+1]?=some (.cells #[.bool false,.slice none 0 0,.slice none 0 0,.slice none 0 0,.slice none 0 0] 164 (0,0))):=fun w1 h=>(fO h).2
 have k:=N.later c;obtain ⟨P,h0 | ⟨b,o,rfl,l⟩⟩:=N
 ·omega
 obtain ⟨-,-,-,c3⟩:=(l.later c).2 i H;have F:b<(b6 w d (some ⟨b,o,none⟩) cap).heap.size:=(l.later c).1;have C:=fun h=>sL d (some ⟨b,o,none⟩) cap i (b6 w d (some ⟨b,o,none⟩) cap) z H h k
 have j:=fun h=>pt d (some ⟨b,o,none⟩) cap i (b6 w d (some ⟨b,o,none⟩) cap) z H h k
 unfold cA at C j ⊢;obtain ⟨W,O⟩:=ax (b6 w d (some ⟨b,o,none⟩) cap);rw [O] at c X o0 o1 o2 hq q c3 F C j;unfold b6 aI at O;have u:=aa c;have hii:(i:Int)<(d.n:Int):=by omega
 have Z:(d.n:Int)≤12:=by omega
 by_cases t:(d.mem i).formula.size=0
 ·have r:(d.mem i).formula.toList.isEmpty=true:=by rw [aN];simpa using t
  have g:=C t;have Q:Hid (∀ x,fh d i x→fh d i x):=fun _ h=>h
  generalize (d.mem i).formula=fm at c3 r;clear C j t l k c z G
  go_enter Tryz.func120,Tryz.ntmps120
  go_wp2_with fail;refine g.mono ?_;rintro e w1 ⟨⟨x,rfl,B,y⟩,f⟩;have E:=aa B;have D:=aa y;have m:=aa f;have s:=q.out w1 f;obtain ⟨hg,⟨I,J,K,L,M⟩,a⟩:=ie s;have R:=a 0;have S:=a 1;have T:=a 2;have U:=a 3;have V:=a 4;have p:=aa s;unfold wayV;clear B y f g s a;go_wp2_with fail;refine bodyPost_ret (v:=.tuple #[wayV x,.nilIface]) (by simp [results,Tryz.results120,go_sem,I,J,K,L,M,wayV]) rfl ⟨⟨_,rfl,?_,D.out⟩,?_⟩
  ·exact E.out.keepW (jo p.out)
  exact (((((ae u.out m.out).setCell (by simp) _).setCell (by simp) _).setCell (by simp) _).setCell (by simp) _).setCell (by simp) _
 have r:(d.mem i).formula.toList.isEmpty=false:=by rw [aN];simpa using t
 have g:=j t;generalize (d.mem i).formula=fm at c3 r g;clear C j t l k c z G
 go_enter Tryz.func120,Tryz.ntmps120
 go_wp2_with fail;refine g.mono ?_;rintro e w1 ⟨⟨x,rfl,B,y⟩,f⟩;have E:=aa B;have D:=aa y;have m:=aa f;have s:=q.out w1 f;obtain ⟨hg,⟨I,J,K,L,M⟩,a⟩:=ie s;have R:=a 0;have S:=a 1;have T:=a 2;have U:=a 3;have V:=a 4;have p:=aa s;unfold wayV;clear B y f g s a;go_wp2_with fail;refine bodyPost_ret (v:=.tuple #[wayV x,.nilIface]) (by simp [results,Tryz.results120,go_sem,I,J,K,L,M,wayV]) rfl ⟨⟨_,rfl,?_,D.out⟩,?_⟩
 ·exact E.out.keepW (jo p.out)
 exact (((((ae u.out m.out).setCell (by simp) _).setCell (by simp) _).setCell (by simp) _).setCell (by simp) _).setCell (by simp) _
end Go.Proofs.YthlhjjabkgpenaaGreatDoor
