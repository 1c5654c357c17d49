/- By which dim a place i -/
import Derived.Test.YtohgnbgamfepoaaGreatDoorJHAV
namespace Go.Proofs.YtohgnbgamfepoaaGreatDoor
open ChangeShapes WideShapes ChangeAt RowKit
set_option maxRecDepth 99999
set_option maxHeartbeats 0
theorem sk {D:Nat→Dm} {p:List Int} {k:Nat} (a:leafB (D k).mem (D k).n (p.getD k 0).toNat=false) (b:byTo D p k<0∨(D (byTo D p k).toNat).solve<(D k).solve):byTo D p (k+1)=(k:Int):=by rw [byTo,if_pos ⟨a,b⟩]
theorem nB {D:Nat→Dm} {p:List Int} {k:Nat} (h : ¬ (leafB (D k).mem (D k).n (p.getD k 0).toNat=false∧(byTo D p k<0∨(D (byTo D p k).toNat).solve<(D k).solve))):byTo D p (k+1)=byTo D p k:=by rw [byTo,if_neg h]
theorem nR (A0:Option Addr) (cap n:Nat) (D:Nat→Dm) (A:Nat→Option Addr) (C:Nat→Nat) (Ap:Option Addr) (Q:Nat) (L:List Int) (w:World) (N:InO D n L) (hM:aW w A0 cap n D A C) (hP:aZ w Ap Q L):Rt 58 #[.agg #[.slice A0 n cap],.slice Ap L.length Q] w (.int .i64 (byTo D L n)):=by
 obtain ⟨hn1,hn4,-,hd⟩:=au N.right;have hn':(n:Int)≤4:=by omega
 have HD:=aa hd;have HI:=aa N;have O:=N.len;have HM:=aa hM;obtain ⟨u9,S | ⟨bp,op,rfl,I,i⟩⟩:=hP
 ·rw [S] at O;simp at O;omega
 rw [O] at u9 ⊢;have hcpI:(n:Int)≤(Q:Int):=by omega
 have HC:Hid (∀ j,j<n→w.cell? ⟨bp,op+j,none⟩=some (.int .i64 (L.getD j 0))):=fun j l=>i j (by omega)
 have v:=ao w A0 n cap 24;have hS:=av w A0 n cap 24;have T:=aH w A0 n cap 24;obtain ⟨W,X⟩:=az (ax w A0 n cap 24);rw [X] at v hS T;unfold ax at X;have m:=aa v;have HA:=aa T;have J:w.heap.size<W.heap.size:=by omega
 clear O i hd N hM v T
 go_enter Tryz.func58,Tryz.ntmps58
 go_wp2_with fail;clear X
 go_loopg [5,6] n (fun g s5 s6 wr => ∃ (k:Nat),k≤n∧g=n-k∧s5=.int .i64 (byTo D L k)∧s6=.int .i64 k∧Bl W wr)
 case atStart=>exact ⟨0,zU,rfl,rfl,rfl,zS⟩
 case round =>
  obtain ⟨k,hk,rfl,rfl,rfl,d⟩:=hrel;have B:=aa d
  by_cases f:k<n
  ·have hki:(k:Int)<(n:Int):=by omega
   have cw:wr.cell? ⟨w.heap.size,0,none⟩=some (.slice A0 n cap):=aC d J HA.out;have t:w.heap.size<wr.heap.size:=zW J d.size;have R:wr.cell? ⟨bp,op+k,none⟩=some (.int .i64 (L.getD k 0)):=((ae m.out d).cell (p:=⟨bp,op+k,none⟩) I).trans (HC.out k f);have hbpr:bp<wr.heap.size:=zW I (ae m.out d).size;obtain ⟨hcap,S | ⟨b,o,rfl,r⟩⟩:=HM.out.later (ae m.out d)
   ·omega
   have Z:(n:Int)≤(cap:Int):=by omega
   have Y:b<wr.heap.size:=r.1;obtain ⟨d0,d1,d2,d3⟩:=r.2 k f;have hp0:=HI.out.lo k f;have K2:=HI.out.hi k f;obtain ⟨x,K⟩:∃ x:Nat,L.getD k 0=(x:Int):=⟨(L.getD k 0).toNat,by omega⟩
   rw [K] at R K2;obtain ⟨hcm,S | ⟨bm,om,G,H⟩⟩:=d3
   ·have:=(HD.out k f).1;omega
   rw [G] at d2;have E:Hid (∀ w',Bl wr w'→Rt 87 #[.agg #[.string (D k).name,.int .i64 (D k).solve,.slice (some ⟨bm,om,none⟩) (D k).n (C k)],.int .i64 x] w' (.bool (leafB (D k).mem (D k).n x))):=fun w' U=>rL (D k) bm om (C k) x w' (HD.out k f).2 (by omega) (H.later U)
   have HB:Hid (∀ h,leafB (D k).mem (D k).n x=h→(h=true→byTo D L (k+1)=byTo D L k)∧(h=false→(byTo D L k<0→byTo D L (k+1)=(k:Int))∧∀ j:Nat,byTo D L k=(j:Int)→byTo D L (k+1)=if (D j).solve<(D k).solve then (k:Int) else (j:Int))):=fun h e=>by
    refine ⟨fun M=>?_,fun M=>⟨fun e3=>?_,fun j l=>?_⟩⟩
    ·refine nB fun ⟨h1,_⟩=>?_
     rw [K,Int.toNat_natCast,e,M] at h1;cases h1
    ·exact sk (by rw [K,Int.toNat_natCast,e,M]) (Or.inl e3)
    by_cases s:(D j).solve<(D k).solve
    ·rw [if_pos s]
     exact sk (by rw [K,Int.toNat_natCast,e,M]) (Or.inr (by rw [l,Int.toNat_natCast];exact s))
    rw [if_neg s,←l];refine nB fun ⟨_,h2⟩=>?_
    rw [l,Int.toNat_natCast] at h2
    omega
   obtain ⟨lf,z⟩:=az (leafB (D k).mem (D k).n x);have u:=aa (HB.out lf z);rw [z] at E;have F:Hid (∀ w',Bl wr w'→∀ j,j<n→w'.cell? ⟨b,o+j*3+1,none⟩=some (.int .i64 (D j).solve)):=fun w' U j l=>((r.later U).2 j l).2.1
   have P:=aa (by_in D L k);clear K H r G d z HB
   go_upto_region 5 with fail
   go_cut [7] from 8 to 45 (fun s7 wx=>s7=.bool lf∧Bl wr wx)
   case first =>
    go_region_law ((go_simp;refine (E.out _ (by go_grown)).mono ?_;rintro e w3 ⟨rfl,y⟩;have V:=ae (W0:=wr) (by go_grown) y;clear y))
    all_goals go_wp2_with fail
    all_goals go_meet
    all_goals exact ⟨rfl,V⟩
   case rest =>
   obtain ⟨rfl,c⟩:=hcut;obtain ⟨w3,rfl⟩:∃ w3:World,w3=wc:=⟨_,rfl⟩;have q:=aa (ae B.out c);have cw3:=aC c t cw;have hsz3:w.heap.size<w3.heap.size:=zW t c.size;have y:b<w3.heap.size:=zW Y c.size;have ck3:=F.out w3 c k f;cases lf
   ·rcases P.out with hneg | ⟨j,l,hjk⟩
    ·have a:Hid (byTo D L (k+1)=(k:Int)):=(u.out.2 rfl).1 (by omega)
     rw [hneg];clear hneg c;go_wp2_with fail
     go_quiet (fail)
     go_wp2_with fail
     go_roundg (n-(k+1))
     case measure=>omega
     case rel=>exact ⟨k+1,by omega,rfl,by rw [a.out],by go_num,ac q.out _⟩
    have a:Hid (byTo D L (k+1)=if (D j).solve<(D k).solve then (k:Int) else (j:Int)):=(u.out.2 rfl).2 j l
    have cj3:=F.out w3 c j (by omega)
    have hjn:(j:Int)<(n:Int):=by omega
    have hj0:decide ((j:Int)<0)=false:=decide_eq_false (by omega)
    rw [l];clear l c
    by_cases s:(D j).solve<(D k).solve
    ·rw [if_pos s] at a
     have K3:decide ((D j).solve<(D k).solve)=true:=decide_eq_true s;go_wp2_with fail
     go_quiet (fail)
     go_wp2_with fail
     go_roundg (n-(k+1))
     case measure=>omega
     case rel=>exact ⟨k+1,by omega,rfl,by rw [a.out],by go_num,ac q.out _⟩
    rw [if_neg s] at a;have K3:decide ((D j).solve<(D k).solve)=false:=decide_eq_false s;go_wp2_with fail
    go_quiet (fail)
    go_wp2_with fail
    go_roundg (n-(k+1))
    case measure=>omega
    case rel=>exact ⟨k+1,by omega,rfl,by rw [a.out],by go_num,ac q.out _⟩
   have a:Hid (byTo D L (k+1)=byTo D L k):=u.out.1 rfl;generalize byTo D L k=bk at a;clear c;go_wp2_with fail
   go_quiet (fail)
   go_wp2_with fail
   go_roundg (n-(k+1))
   case measure=>omega
   case rel=>exact ⟨k+1,by omega,rfl,by rw [a.out],by go_num,ac q.out _⟩
  have K0:k=n:=by omega
  subst K0;clear d;go_wp2_with fail;go_ret;exact ⟨rfl,ae m.out B.out⟩
def dH (D:Nat→Dm) (n:Nat) (L:List (Int×Int)) (e:En):List (Int×Int):=L.set (numI D e.pl n).toNat (1,e.n)
def wrV (D:Nat→Dm) (n:Nat) (l:List En):List (Int×Int):=l.foldl (dH D n) (List.replicate (prodN D n) (0,0))
theorem ts (D:Nat→Dm) (n:Nat):∀ (l:List En) (L:List (Int×Int)),(l.foldl (dH D n) L).length=L.length
 | [],_=>rfl
 | e :: r,L=>by rw [List.foldl_cons,ts D n r];unfold dH;rw [List.length_set]
theorem nT (D:Nat→Dm) (n:Nat) (l:List En):(wrV D n l).length=prodN D n:=by unfold wrV;rw [ts];simp
theorem IN (D:Nat→Dm) (n:Nat) (L:List (Int×Int)) (xs:List EnL) {k:Nat} (h:k<xs.length):((lE xs).take (k+1)).foldl (dH D n) L=dH D n (((lE xs).take k).foldl (dH D n) L) (xs.getD k aJ).e:=by
 have a:k<(lE xs).length:=by rw [a7];exact h
 rw [List.take_succ_eq_append_getElem a,List.foldl_append];have e:(lE xs)[k]=(xs.getD k aJ).e:=by rw [←lE_at,zZ,zX a];rfl
 rw [e]
 rfl
theorem Ce {x:Int} (h:cX x=true):b6 (1,x):=by
 have hn : -1000000≤x∧x≤1000000:=by simpa [cX] using h
 exact decide_eq_true (Or.inl ⟨rfl,by omega,by omega⟩)
theorem jC (n:Nat) (f:n≤3000) (w:World):(Instr.makeSlice 45 (.int .i64 (n:Int)) (.int .i64 (n:Int))).run Tryz.prog w=.ok (.slice (some ⟨w.heap.size,0,none⟩) n n) (w.alloc (.cells (madeCells #[.int .i64 0,.int .i64 0] (n*2)) 52)):=by
 obtain ⟨i0,a,b,c,d⟩:=info_parts Tryz.infoCe;have e:=run_make (P:=Tryz.prog) w 45 52 i0 _ Tryz.underlying45 a b .i64 .i64 n n (by omega) (Int.le_refl _) (by rw [d];omega) (by omega)
 simp only [Int.toNat_natCast,c] at e;exact e
theorem qN (w:World) (n:Nat):bU (w.alloc (.cells (madeCells #[.int .i64 0,.int .i64 0] (n*2)) 52)) w.heap.size (List.replicate n (0,0)):=by
 refine ⟨_,heap_alloc_new w _,fun k c=>?_⟩
 have a:k<n:=by simpa using c
 have b:(List.replicate n ((0:Int),(0:Int))).getD k noC=(0,0):=by simp [List.getD,a]
 rw [b]
 constructor
 ·simp [madeCells,show k*2<n*2 by omega]
 simp [madeCells,show k*2+1<n*2 by omega,show (k*2+1) % 2=1 by omega]
theorem xg (A0:Option Addr) (cap n:Nat) (D:Nat→Dm) (A:Nat→Option Addr) (C:Nat→Nat) (AE:Option Addr) (d:Nat) (xs:List EnL) (w:World) (g:aW w A0 cap n D A C) (f:b7 w AE d xs) (i:entsErr D n (lE xs)≠0) :
  Calls Tryz.prog 37 #[.agg #[.slice A0 n cap],.slice AE xs.length d] w fun e w'=>(∃ A' c',e=.returned (.tuple #[.slice A' 0 c',.iface 63 (.int .i64 (entsErr D n (lE xs)))]))∧Bl w w':=by
 have a:=ao w A0 n cap 24;have h:=kC A0 cap n D A C AE d xs (ax w A0 n cap 24) (g.later a) (f.later a);have c:=aa a;rw [ak i] at h;clear i g f a;generalize entsErr D n (lE xs)=ee at h;generalize xs.length=N at h
 go_enter Tryz.func37,Tryz.ntmps37
 go_wp2_with fail;refine h.mono ?_;rintro e w1 ⟨rfl,b⟩;have j:=aa (ae c.out b);clear b h;go_wp2_with fail
 go_ret2
 exact ⟨⟨none,0,rfl⟩,j.out⟩
structure WL where
 lf:Bool
 nd:List Nd
 An:Option Addr
 cn:Nat
 nm:List (List UInt8)
 As:Option Addr
 cs:Nat
 ne:List Int
 Ai:Option Addr
 ci:Nat
 sg:List Int
 Ag:Option Addr
 cg:Nat
def eW:WL:=⟨false,[],none,0,[],none,0,[],none,0,[],none,0⟩
def iV (x:WL):List Value:=[.bool x.lf,.slice x.An x.nd.length x.cn,.slice x.As x.nm.length x.cs,.slice x.Ai x.ne.length x.ci,.slice x.Ag x.sg.length x.cg]
def wayV (x:WL):Value:=.agg #[.bool x.lf,.slice x.An x.nd.length x.cn,.slice x.As x.nm.length x.cs,.slice x.Ai x.ne.length x.ci,.slice x.Ag x.sg.length x.cg]
def eC (w:World) (x:WL):Prop:=jl w x.An x.cn x.nd∧jY w x.As x.cs x.nm∧aR w x.Ai x.ci x.ne∧aR w x.Ag x.cg x.sg
theorem DY:(132:Nat)≠155:=by decide
theorem zu:(9:Nat)≠155:=by decide
theorem qm:(3:Nat)≠155:=by decide
theorem El:(132:Nat)≠143:=by decide
theorem BF:(9:Nat)≠143:=by decide
theorem qK:(3:Nat)≠143:=by decide
theorem BG:(155:Nat)≠143:=by decide
def kt (T:Nat) (w w':World):Prop := ∀ (b:Nat) (cs:Array Value) (t:Nat) (fr:Nat×Nat),w.heap[b]?=some (Obj.cells cs t fr)→t≠T→w'.heap[b]?=w.heap[b]?
theorem eC.keepW {w w':World} {x:WL} (h:eC w x) (c:kt 155 w w'):eC w' x :=
 ⟨h.1.keep fun b cs fr a=>c b cs _ fr a DY,h.2.1.keep fun b cs fr a=>c b cs _ fr a zu,h.2.2.1.keep fun b cs fr a=>c b cs _ fr a qm,h.2.2.2.keep fun b cs fr a=>c b cs _ fr a qm⟩
theorem eC.keepA {w w':World} {x:WL} (h:eC w x) (c:kt 143 w w'):eC w' x :=
 ⟨h.1.keep fun b cs fr a=>c b cs _ fr a El,h.2.1.keep fun b cs fr a=>c b cs _ fr a BF,h.2.2.1.keep fun b cs fr a=>c b cs _ fr a qK,h.2.2.2.keep fun b cs fr a=>c b cs _ fr a qK⟩
theorem eC.later {w w':World} {x:WL} (h:eC w x) (a:Bl w w'):eC w' x:=⟨h.1.later a,h.2.1.later a,h.2.2.1.later a,h.2.2.2.later a⟩
theorem eu {w:World} {g k T:Nat} {cs:Array Value} {fr:Nat×Nat} {v:Value} (h:w.heap[g]?=some (.cells cs T fr)):kt T w (w.setCell ⟨g,k,none⟩ v):=fun b c t d a f=>by
 refine ar _ _ _ _ _ fun e=>?_
 rw [e,h] at a;simp only [Option.some.injEq,Obj.cells.injEq] at a;exact f a.2.1.symm
theorem eH {T:Nat} {w w1 w2:World} (h:kt T w w1) (k:kt T w1 w2):kt T w w2:=fun b cs t fr a c=>by
 have e:=h b cs t fr a c;exact (k b cs t fr (e.trans a) c).trans e
theorem cI {w:World} {g k T:Nat} {cs:Array Value} {fr:Nat×Nat} {v:Value} (h:w.heap[g]?=some (.cells cs T fr)):(w.setCell ⟨g,k,none⟩ v).heap[g]?=some (.cells (cs.setIfInBounds k v) T fr):=by
 rw [Sort.setCell_eq];unfold Sort.mapBlock;simp only [Array.getElem?_modify,if_true,h,Option.map_some]
 rfl
theorem jM {w:World} {g T:Nat} {cs:Array Value} {fr:Nat×Nat} {a b c d e:Value} (h:w.heap[g]?=some (.cells cs T fr)):kt T w (((((w.setCell ⟨g,0,none⟩ a).setCell ⟨g,1,none⟩ b).setCell ⟨g,2,none⟩ c).setCell ⟨g,3,none⟩ d).setCell ⟨g,4,none⟩ e) :=
 eH (eH (eH (eH (eu h) (eu (cI h))) (eu (cI (cI h)))) (eu (cI (cI (cI h))))) (eu (cI (cI (cI (cI h)))))
def io (d:Dm) (k:Int):Int:=(d.mem k.toNat).sign
def fK (d:Dm) (i:Nat) (x:WL):Prop:=((d.mem i).formula.size=0→x.lf=leafB d.mem d.n i∧x.nd=[]∧x.nm=[]∧x.ne=ep d i∧x.sg=(ep d i).map (io d))∧((d.mem i).formula.size≠0→x.lf=false∧x.nd=bI (d.mem i).formula∧x.nm=aX (bI (d.mem i).formula)∧x.ne=(aX (bI (d.mem i).formula)).map (whL d)∧x.sg=[])
def cH (w:World) (d:Dm) (A:Option Addr) (cap:Nat):World:=(aL w d A cap 70).alloc (.cells #[.bool false,.slice none 0 0,.slice none 0 0,.slice none 0 0,.slice none 0 0] 155)
theorem i8 (w:World) (d:Dm) (A:Option Addr) (cap:Nat):Bl w (cH w d A cap):=by unfold cH aL;go_grown
theorem gW (w:World) (d:Dm) (A:Option Addr) (cap:Nat):(cH w d A cap).heap.size=w.heap.size+2:=by unfold cH aL;simp
theorem gp {w w1:World} {d:Dm} {A:Option Addr} {cap:Nat} (a:Below (cH w d A cap).heap.size (cH w d A cap) w1):(w1.cell? ⟨w.heap.size,0,none⟩=some (.string d.name)∧w1.cell? ⟨w.heap.size,1,none⟩=some (.int .i64 d.solve)∧w1.cell? ⟨w.heap.size,2,none⟩=some (.slice A d.n cap)∧w.heap.size<w1.heap.size)∧w1.heap[w.heap.size+1]?=some (.cells #[.bool false,.slice none 0 0,.slice none 0 0,.slice none 0 0,.slice none 0 0] 155 (0,0)):=by
 have b:Below (aL w d A cap 70).heap.size (aL w d A cap 70) (cH w d A cap):=by unfold cH;go_grown
 refine ⟨fw (ae b a),?_⟩;rw [a.block _ (by rw [gW];omega)]
 unfold cH;have h:=heap_alloc_new (aL w d A cap 70) (.cells #[.bool false,.slice none 0 0,.slice none 0 0,.slice none 0 0,.slice none 0 0] 155);rw [bg] at h;exact h
theorem iP {w:World} {g:Nat} (h:w.heap[g]?=some (.cells #[.bool false,.slice none 0 0,.slice none 0 0,.slice none 0 0,.slice none 0 0] 155 (0,0))):g<w.heap.size∧(w.cell? ⟨g,0,none⟩=some (.bool false)∧w.cell? ⟨g,1,none⟩=some (.slice none 0 0)∧w.cell? ⟨g,2,none⟩=some (.slice none 0 0)∧w.cell? ⟨g,3,none⟩=some (.slice none 0 0)∧w.cell? ⟨g,4,none⟩=some (.slice none 0 0))∧∀ k,w.frozen? ⟨g,k,none⟩=false :=
 ⟨(zY h).1,⟨by simp [World.cell?,h],by simp [World.cell?,h],by simp [World.cell?,h],by simp [World.cell?,h],by simp [World.cell?,h]⟩,fun k=>by simp [World.frozen?,h]⟩
theorem Gs (d:Dm) (P:List Int) {k:Nat} (h:k<P.length):(P.take (k+1)).map (io d)=(P.take k).map (io d) ++ [io d (P.getD k 0)]:=by
 rw [List.take_succ_eq_append_getElem h,List.map_append,zZ,zX h]
 rfl
theorem tP (d:Dm) (A:Option Addr) (cap i:Nat) (w:World) (hR:(bv d).2=0) (hi:i<d.n) (hf:(d.mem i).formula.size=0) (hM:eh w A cap d.n d.mem) :
  Calls Tryz.prog 141 #[cQ d A cap,.int .i64 i] w fun e w'=>(∃ x,e=.returned (.tuple #[wayV x,.nilIface])∧eC w' x∧fK d i x)∧Bl w w':=by
 obtain ⟨hd,-,-,-⟩:=bJ hR;obtain ⟨-,-,hd2,-⟩:=aI hd;obtain ⟨i0,hi0,hz0,hz1,hz2⟩:=info_parts Tryz.infoInt;obtain ⟨hcap,h0 | ⟨b,o,rfl,U⟩⟩:=id hM
 ·omega
 have y:=i8 w d (some ⟨b,o,none⟩) cap;have hS:=gW w d (some ⟨b,o,none⟩) cap;obtain ⟨⟨o0,o1,o2,hq⟩,K0⟩:=gp (w:=w) (d:=d) (A:=(some ⟨b,o,none⟩)) (cap:=cap) (zS);have L:treeErr d [(i:Int)]=0:=by rw [g9 hd,if_neg (by omega)]
 have Z:sA d i=leafB d.mem d.n i:=by unfold sA;rw [L];simp
 have c:=rQ d (some ⟨b,o,none⟩) cap i (cH w d (some ⟨b,o,none⟩) cap) (hM.later y);rw [L,Z,errV_zero] at c;have s:Hid (∀ w',Bl w w'→Calls Tryz.prog 170 #[cQ d (some ⟨b,o,none⟩) cap,.int .i64 i] w' fun e w''=>(∃ A' q,e=.returned (.tuple #[.slice A' (ep d i).length q,.nilIface])∧aR w'' A' q (ep d i))∧Bl w' w''):=fun w' hb=>by
  have h:=Du d (some ⟨b,o,none⟩) cap i w' (hM.later hb);rw [(Kv hR hi).1,(Kv hR hi).2,errV_zero] at h;exact h
 have u:Hid (∀ w1,Below (cH w d (some ⟨b,o,none⟩) cap).heap.size (cH w d (some ⟨b,o,none⟩) cap) w1→(w1.cell? ⟨w.heap.size,0,none⟩=some (.string d.name)∧w1.cell? ⟨w.heap.size,1,none⟩=some (.int .i64 d.solve)∧w1.cell? ⟨w.heap.size,2,none⟩=some (.slice (some ⟨b,o,none⟩) d.n cap)∧w.heap.size<w1.heap.size)∧w1.heap[w.heap.size+1]?=some (.cells #[.bool false,.slice none 0 0,.slice none 0 0,.slice none 0 0,.slice none 0 0] 155 (0,0))):=fun w1 h=>gp h
 have HM:=aa U;have Q:Hid (∀ z∈ep d i,0≤z∧z<(d.n:Int)):=fun z hz=>eo hz
 have C:(ep d i).length≤12:=zV (cG _ _) hd2;unfold cQ at c s ⊢;obtain ⟨W,hW⟩:=az (cH w d (some ⟨b,o,none⟩) cap);rw [hW] at y hS o0 o1 o2 hq K0 c u;unfold cH aL at hW;have F:=aa y;have H:Hid (∀ A' q A2 c2,fK d i ⟨leafB d.mem d.n i,[],none,0,[],none,0,ep d i,A',q,(ep d i).map (io d),A2,c2⟩):=fun A' q _ _=>⟨fun _=>⟨rfl,rfl,rfl,rfl,rfl⟩,fun h=>absurd hf h⟩
 generalize leafB d.mem d.n i=lf at c H;obtain ⟨P,hP⟩:=az (ep d i);rw [hP] at s Q C H;obtain ⟨n,hn⟩:=az P.length;have M:=aa hn;rw [hn] at s C;have hnI:(n:Int)≤12:=by omega
 have hdI:(d.n:Int)≤12:=by omega
 have hcI:(d.n:Int)≤(cap:Int):=by omega
 clear hd L Z hR hf hM U y K0 hP hn
 go_enter Tryz.func141,Tryz.ntmps141
 go_wp2_with fail;refine c.mono ?_;rintro e w1 ⟨rfl,K⟩;have N:=aa K;obtain ⟨⟨p0,p1,p2,hq1⟩,-⟩:=u.out w1 K;clear K c o0 o1 o2 hW;go_wp2_with fail;refine (s.out w1 (ae F.out N.out)).mono ?_;rintro e w2 ⟨⟨A2,c2,rfl,R⟩,V⟩;have G:=aa (ae N.out V);have O:=aa R;clear V p0 p1 p2 R;go_wp2_with fail
 go_loopg [9,34] n (fun g s9 s34 wr => ∃ (k:Nat) (v:Value),k≤n∧g=n-k∧s34=.int .i64 k∧v=s9∧wr.ownsRow w2.heap.size 3 1 v k (aE ((P.take k).map (io d)))∧Bl w2 wr)
 case atStart=>exact ⟨0,_,zU,rfl,rfl,rfl,World.ownsRow_nil _ _ _ _,zS⟩
 case round =>
  obtain ⟨k,v,hk,rfl,rfl,rfl,hO,l⟩:=hrel;have HO:=aa hO;have f:=aa l
  by_cases hlt:k<n
  ·have hki:(k:Int)<(n:Int):=by omega
   have B:k<P.length:=by rw [M.out];exact hlt
   obtain ⟨hcS,-,hS0 | ⟨bs,cs,fr,rfl,X,Y⟩⟩:=O.out.later l
   ·have:=M.out;rw [hS0] at this;simp at this;omega
   have cx:=Y k B;have hbs:bs<wr.heap.size:=(zY X).1;rw [M.out] at hcS;have E:P.getD k 0∈P:=by rw [zZ,zX B];exact List.getElem_mem B
   have hz:=Q.out _ E;have t:Hid ((P.take (k+1)).map (io d)=(P.take k).map (io d) ++ [io d (P.getD k 0)]):=Gs d P B;have J:=ae G.out l;obtain ⟨⟨-,-,q2,hq2⟩,-⟩:=u.out wr J;have I:=HM.out.later (ae F.out J);obtain ⟨j,hj⟩:∃ j:Nat,P.getD k 0=(j:Int):=⟨(P.getD k 0).toNat,by omega⟩
   have hjn:j<d.n:=by omega
   have hjI:(j:Int)<(d.n:Int):=by omega
   rw [hj] at cx t;obtain ⟨-,-,m2,-⟩:=I.2 j hjn;have hbl:b<wr.heap.size:=I.1;have u9:io d (j:Int)=(d.mem j).sign:=by unfold io;rw [Int.toNat_natCast]
   rw [u9] at t;have hBs:=f.out.size;generalize (d.mem j).sign=r at m2 t;clear Y hO l J I hj hz E u9 X
   go_wp2_with (at_builtin;refine wpList_append_own _ rfl _ _ 26 rfl w2.heap.size 3 i0 (.int .i64 0) 1 8 Tryz.underlying26 hi0 hz0 hz1 hz2 rfl (by decide) _ _ _ rfl (HO.out.alloc _) ⟨wr.heap.size,0,none⟩ 1 1 [.int .i64 r] rfl rfl bz dG (by unfold maxLen;omega) (by omega) (by simp;omega) ?_)
   intro v' w5 p m _;have HB5:Hid (Bl w2 w5):=bD f.out HO.out m;have HO5:Hid (w5.ownsRow w2.heap.size 3 1 v' (k+1) (aE ((P.take (k+1)).map (io d)))):=by
    show World.ownsRow ..
    rw [t.out,mapI_snoc,List.map_take];exact p
   clear p m;go_wp2_with fail
   go_roundg (n-(k+1))
   case measure=>omega
   case rel=>exact ⟨k+1,_,by omega,rfl,by go_num,rfl,HO5.out,HB5.out⟩
  have hke:k=n:=by omega
  subst hke;have T:P.take k=P:=List.take_of_length_le (by rw [M.out];exact zT)
  have HF:Hid (∃ A' q,v=.slice A' k q∧aR wr A' q (P.map (io d))):=by
   have h:=hO;rw [T] at h;have D:(P.map (io d)).length=k:=by rw [List.length_map];exact M.out
   rw [←D] at h;obtain ⟨A',q,e,hv⟩:=bQ h;rw [D] at e;exact ⟨A',q,e,hv⟩
  obtain ⟨A3,c3,rfl,S⟩:=HF.out;have HI3:=aa S;obtain ⟨-,hr⟩:=u.out wr (ae G.out f.out);obtain ⟨hg,⟨r0,r1,r2,r3,r4⟩,a⟩:=iP hr;have f0:=a 0;have f1:=a 1;have f2:=a 2;have f3:=a 3;have f4:=a 4;have HRr:=aa hr;clear hO l hr a S T HO HF;go_wp2_with fail;refine bodyPost_ret (v:=.tuple #[wayV ⟨lf,[],none,0,[],none,0,P,A2,c2,P.map (io d),A3,c3⟩,.nilIface]) (by simp [results,Tryz.results141,go_sem,r0,r1,r2,r3,r4,wayV,M.out]) rfl ⟨⟨_,rfl,?_,H.out _ _ _ _⟩,?_⟩
  ·exact eC.keepW (⟨jl.nil _ _ _ (zU),jY.nil _ _ _ (zU),O.out.later f.out,HI3.out⟩:eC wr _) (jM HRr.out)
  exact (((((ae F.out (ae G.out f.out)).setCell (by simp) _).setCell (by simp) _).setCell (by simp) _).setCell (by simp) _).setCell (by simp) _
theorem I9:du 169:=fun args w=>by simp [callFunc,Tryz.func169];rfl
theorem G8 (m:Mem) (s:ByteArray) (q:Nat) (w:World) (a:q<w.heap.size) (h:w.cell? ⟨q,0,none⟩=some (.string s)):Rt 169 #[qw m,.pointer (some ⟨q,0,none⟩)] w (.bool (same m.name s)):=by
 unfold qw
 go_enter Tryz.func169,Tryz.ntmps169
 go_wp2_with fail;go_ret;exact ⟨by simp [same],by go_grown⟩
theorem qr (d:Dm) (A:Option Addr) (cap i:Nat) (w:World) (hR:(bv d).2=0) (hi:i<d.n) (hf:(d.mem i).formula.size≠0) (hM:eh w A cap d.n d.mem) :
  Calls Tryz.prog 140 #[cQ d A cap,.string (d.mem i).formula] w fun e w'=>(∃ x,e=.returned (.tuple #[wayV x,.nilIface])∧eC w' x∧fK d i x)∧Bl w w':=by
 obtain ⟨hd,La,-,-⟩:=bJ hR;obtain ⟨-,-,hd2,D⟩:=aI hd;obtain ⟨i0,hi0,hz0,hz1,hz2⟩:=info_parts Tryz.infoInt;have hmf:∀ (fn:Fn) (first cap:Array Value) (w:World),(Instr.makeFunc fn first cap).run Tryz.prog w=.ok (.func fn first cap) w:=fun _ _ _ _=>rfl
 obtain ⟨hcap,h0 | ⟨b,o,rfl,K3⟩⟩:=hM
 ·omega
 have S:=fA hf (La i hi);have R:=dN S;have Lb:=pO R;have K:=i8 w d (some ⟨b,o,none⟩) cap;have hS:=gW w d (some ⟨b,o,none⟩) cap;obtain ⟨⟨o0,o1,o2,hq⟩,-⟩:=gp (w:=w) (d:=d) (A:=(some ⟨b,o,none⟩)) (cap:=cap) (zS);have H:Hid (∀ w1,Below (cH w d (some ⟨b,o,none⟩) cap).heap.size (cH w d (some ⟨b,o,none⟩) cap) w1→(w1.cell? ⟨w.heap.size,0,none⟩=some (.string d.name)∧w1.cell? ⟨w.heap.size,1,none⟩=some (.int .i64 d.solve)∧w1.cell? ⟨w.heap.size,2,none⟩=some (.slice (some ⟨b,o,none⟩) d.n cap)∧w.heap.size<w1.heap.size)∧w1.heap[w.heap.size+1]?=some (.cells #[.bool false,.slice none 0 0,.slice none 0 0,.slice none 0 0,.slice none 0 0] 155 (0,0))):=fun w1 h=>gp h
 have HM:=aa K3;unfold cQ;obtain ⟨W,hW⟩:=az (cH w d (some ⟨b,o,none⟩) cap);rw [hW] at K hS o0 o1 o2 hq H;unfold cH aL at hW;have T:=aa K;have I:Hid (∀ An cn As cs Ai ci,fK d i ⟨false,bI (d.mem i).formula,An,cn,aX (bI (d.mem i).formula),As,cs,(aX (bI (d.mem i).formula)).map (whL d),Ai,ci,[],none,0⟩):=fun _ _ _ _ _ _=>⟨fun h=>absurd h hf,fun _=>⟨rfl,rfl,rfl,rfl,rfl⟩⟩
 have K8:=gS (D i hi);generalize (d.mem i).formula=s at *;have p:=oU s W K8;have a:=fun A c w' hN=>re A c (bI s) w' hN
 rw [R,errV_zero] at a;rw [S,errV_zero] at p;obtain ⟨L,hL⟩:=az (aX (bI s));rw [hL] at Lb a I;obtain ⟨l,hl⟩:=az (bI s);rw [hl] at p a I;generalize (jx s:Int)=at' at p;obtain ⟨n,hn⟩:=az L.length;have G:=aa hn;obtain ⟨m,hm⟩:=az l.length;have HMm:=aa hm;have Y:Hid (∀ A c w',jl w' A c l→Calls Tryz.prog 167 #[.slice A m c] w' fun e w''=>(∃ A' J,e=.returned (.tuple #[.slice A' n J,.nilIface])∧jY w'' A' J L)∧Bl w' w''):=fun A c w' h=>by rw [←hn,←hm];exact a A c w' h.1
 rw [hm] at p;rw [hn] at Lb;have hnI:(n:Int)≤30:=by omega
 have hdI:(d.n:Int)≤12:=by omega
 clear S R hL hl hn hm a hd La D hR hf K3 K K8
 go_enter Tryz.func140,Tryz.ntmps140
 go_wp2_with fail;refine p.mono ?_;rintro e w1 ⟨⟨A1,c1,rfl,N⟩,K5⟩;have a:=Y.out A1 c1 w1 N;have HN1:=aa N;have HB1:=aa K5;clear p N K5 o0 o1 o2 hW;go_wp2_with fail;refine a.mono ?_;rintro e w2 ⟨⟨A2,c2,rfl,K4⟩,P⟩;have F:=aa (ae HB1.out P);have Z:=aa K4;have HN2:=aa (HN1.out.later P);clear a P K4;go_wp2_with fail
 go_loopg [10,34] n (fun g s10 s34 wr => ∃ (k:Nat) (v:Value),k≤n∧g=n-k∧s34=.int .i64 k∧v=s10∧wr.ownsRow w2.heap.size 3 1 v k (aE ((L.take k).map (whL d)))∧Bl w2 wr)
 case atStart=>exact ⟨0,_,zU,rfl,rfl,rfl,World.ownsRow_nil _ _ _ _,zS⟩
 case round =>
  obtain ⟨k,v,hk,rfl,rfl,rfl,hO,t⟩:=hrel;have HO:=aa hO;have q:=aa t
  by_cases K9:k<n
  ·have hki:(k:Int)<(n:Int):=by omega
   obtain ⟨hcS,-,hS0 | ⟨bs,os,rfl,hbS,K6⟩⟩:=(Z.out.later t).1
   ·have:=G.out;rw [hS0] at this;simp at this;omega
   have cx:=K6 k (by rw [G.out];exact K9)
   rw [G.out] at hcS;have V:Hid ((L.take (k+1)).map (whL d)=(L.take k).map (whL d) ++ [whL d (L.getD k [])]):=AQ d L (by rw [G.out];exact K9)
   have O:=ae F.out t;obtain ⟨⟨-,-,p2,hq2⟩,-⟩:=H.out wr O;have K2:=HM.out.later (ae T.out O);obtain ⟨x,hx⟩:=az ((⟨(L.getD k []).toArray⟩:ByteArray));have HX:Hid (x.data.toList=L.getD k []):=by show _=_;rw [←hx]
   rw [hx] at cx;obtain ⟨y,hy⟩:=az (wr.alloc (.cells #[.string x] 9));have B:Bl wr y:=by rw [←hy];exact (zS).alloc (zT) _
   have hsy:y.heap.size=wr.heap.size+1:=by rw [←hy];simp
   have K7:y.cell? ⟨wr.heap.size,0,none⟩=some (.string x):=by
    have h:y.heap[wr.heap.size]?=some (.cells #[.string x] 9 (0,0)):=by rw [←hy];exact heap_alloc_new _ _
    rw [Lib.cell_of_heap h]
    rfl
   have py:=aC B hq2 p2;have C:=kD 169 wr.heap.size I9 b o d.n cap d.mem (fun j=>same (d.mem j).name x) y hd2 (K2.later B) (fun j w' _ Lc=>G8 (d.mem j) x wr.heap.size w' (by have:=Lc.size;omega) (aC Lc (by show wr.heap.size<_;omega) K7))
   rw [lZ,HX.out] at C;generalize whL d (L.getD k [])=r at C V;have U:=aa B;generalize d.n=dn at *;clear K6 hO t O K2 B K7 hx hsy;go_wp2_with fail;refine C.mono ?_;rintro e w4 ⟨rfl,Q⟩;have M:Bl w2 w4:=ae q.out (ae U.out Q);have HB4:=aa M;have X:Hid (w4.ownsRow w2.heap.size 3 1 v k (aE ((L.take k).map (whL d)))):=an (an HO.out U.out) Q;have hsz:=M.size;clear Q C M hy
   go_wp2_with (at_builtin;refine wpList_append_own _ rfl _ _ 26 rfl w2.heap.size 3 i0 (.int .i64 0) 1 8 Tryz.underlying26 hi0 hz0 hz1 hz2 rfl (by decide) _ _ _ rfl (X.out.alloc _) ⟨w4.heap.size,0,none⟩ 1 1 [.int .i64 r] rfl rfl bz dG (by unfold maxLen;omega) (by omega) (by simp;omega) ?_)
   intro v' w5 z u _;have HB5:Hid (Bl w2 w5):=bD HB4.out X.out u;have HO5:Hid (w5.ownsRow w2.heap.size 3 1 v' (k+1) (aE ((L.take (k+1)).map (whL d)))):=by
    show World.ownsRow ..
    rw [V.out,mapI_snoc,List.map_take];exact z
   clear z u;go_wp2_with fail
   go_roundg (n-(k+1))
   case measure=>omega
   case rel=>exact ⟨k+1,_,by omega,rfl,by go_num,rfl,HO5.out,HB5.out⟩
  have hke:k=n:=by omega
  subst hke;have K0:L.take k=L:=List.take_of_length_le (by rw [G.out];exact zT)
  have HF:Hid (∃ A' J,v=.slice A' k J∧aR wr A' J (L.map (whL d))):=by
   have h:=hO;rw [K0] at h;have E:(L.map (whL d)).length=k:=by rw [List.length_map];exact G.out
   rw [←E] at h;obtain ⟨A',J,e,hv⟩:=bQ h;rw [E] at e;exact ⟨A',J,e,hv⟩
  obtain ⟨A3,c3,rfl,u9⟩:=HF.out;have HI3:=aa u9;obtain ⟨-,hr⟩:=H.out wr (ae F.out q.out);obtain ⟨hg,⟨r0,r1,r2,r3,r4⟩,f⟩:=iP hr;have f0:=f 0;have f1:=f 1;have f2:=f 2;have f3:=f 3;have f4:=f 4;have HRr:=aa hr;clear hO t hr f u9 K0 HO HF;go_wp2_with fail;refine bodyPost_ret (v:=.tuple #[wayV ⟨false,l,A1,c1,L,A2,c2,L.map (whL d),A3,c3,[],none,0⟩,.nilIface]) (by simp [results,Tryz.results140,go_sem,r0,r1,r2,r3,r4,wayV,G.out,HMm.out]) rfl ⟨⟨_,rfl,?_,I.out _ _ _ _ _ _⟩,?_⟩
  ·exact eC.keepW (⟨HN2.out.later q.out,Z.out.later q.out,HI3.out,aR.nil _ _ _ (zU)⟩:eC wr _) (jM HRr.out)
  exact (((((ae T.out (ae F.out q.out)).setCell (by simp) _).setCell (by simp) _).setCell (by simp) _).setCell (by simp) _).setCell (by simp) _
theorem DZ (d:Dm) (A:Option Addr) (cap i:Nat) (w:World) (z:(bv d).2=0) (H:i<d.n) (N:eh w A cap d.n d.mem) :
  Calls Tryz.prog 114 #[cQ d A cap,.int .i64 i] w fun e w'=>(∃ x,e=.returned (.tuple #[wayV x,.nilIface])∧eC w' x∧fK d i x)∧Bl w w':=by
 obtain ⟨G,-,-,-⟩:=bJ z;obtain ⟨-,-,Y,-⟩:=aI G;have c:=i8 w d A cap;have X:=gW w d A cap;obtain ⟨⟨o0,o1,o2,hq⟩,-⟩:=gp (w:=w) (d:=d) (A:=A) (cap:=cap) (zS);have q:Hid (∀ w1,Below (cH w d A cap).heap.size (cH w d A cap) w1→w1.heap[w.heap.size+1]?=some (.cells #[.bool false,.slice none 0 0,.slice none 0 0,.slice none 0 0,.slice none 0 0] 155 (0,0))):=fun w1 h=>(gp h).2
 have k:=N.later c;obtain ⟨P,h0 | ⟨b,o,rfl,l⟩⟩:=N
 ·omega
 obtain ⟨-,-,-,c3⟩:=(l.later c).2 i H;have F:b<(cH w d (some ⟨b,o,none⟩) cap).heap.size:=(l.later c).1;have C:=fun h=>tP d (some ⟨b,o,none⟩) cap i (cH w d (some ⟨b,o,none⟩) cap) z H h k
 have j:=fun h=>qr d (some ⟨b,o,none⟩) cap i (cH w d (some ⟨b,o,none⟩) cap) z H h k
 unfold cQ at C j ⊢;obtain ⟨W,O⟩:=az (cH w d (some ⟨b,o,none⟩) cap);rw [O] at c X o0 o1 o2 hq q c3 F C j;unfold cH aL at O;have u:=aa c;have hii:(i:Int)<(d.n:Int):=by omega
 have Z:(d.n:Int)≤12:=by omega
 by_cases t:(d.mem i).formula.size=0
 ·have r:(d.mem i).formula.toList.isEmpty=true:=by rw [aU];simpa using t
  have g:=C t;have Q:Hid (∀ x,fK d i x→fK d i x):=fun _ h=>h
  generalize (d.mem i).formula=fm at c3 r;clear C j t l k c z G
  go_enter Tryz.func114,Tryz.ntmps114
  go_wp2_with fail;refine g.mono ?_;rintro e w1 ⟨⟨x,rfl,B,y⟩,f⟩;have E:=aa B;have D:=aa y;have m:=aa f;have s:=q.out w1 f;obtain ⟨hg,⟨I,J,K,L,M⟩,a⟩:=iP s;have R:=a 0;have S:=a 1;have T:=a 2;have U:=a 3;have V:=a 4;have p:=aa s;unfold wayV;clear B y f g s a;go_wp2_with fail;refine bodyPost_ret (v:=.tuple #[wayV x,.nilIface]) (by simp [results,Tryz.results114,go_sem,I,J,K,L,M,wayV]) rfl ⟨⟨_,rfl,?_,D.out⟩,?_⟩
  ·exact E.out.keepW (jM p.out)
  exact (((((ae u.out m.out).setCell (by simp) _).setCell (by simp) _).setCell (by simp) _).setCell (by simp) _).setCell (by simp) _
 have r:(d.mem i).formula.toList.isEmpty=false:=by rw [aU];simpa using t
 have g:=j t;generalize (d.mem i).formula=fm at c3 r g;clear C j t l k c z G
 go_enter Tryz.func114,Tryz.ntmps114
 go_wp2_with fail;refine g.mono ?_;rintro e w1 ⟨⟨x,rfl,B,y⟩,f⟩;have E:=aa B;have D:=aa y;have m:=aa f;have s:=q.out w1 f;obtain ⟨hg,⟨I,J,K,L,M⟩,a⟩:=iP s;have R:=a 0;have S:=a 1;have T:=a 2;have U:=a 3;have V:=a 4;have p:=aa s;unfold wayV;clear B y f g s a;go_wp2_with fail;refine bodyPost_ret (v:=.tuple #[wayV x,.nilIface]) (by simp [results,Tryz.results114,go_sem,I,J,K,L,M,wayV]) rfl ⟨⟨_,rfl,?_,D.out⟩,?_⟩
 ·exact E.out.keepW (jM p.out)
 exact (((((ae u.out m.out).setCell (by simp) _).setCell (by simp) _).setCell (by simp) _).setCell (by simp) _).setCell (by simp) _
def eZ (l:List WL):List Value:=l.flatMap iV
theorem tS (l:List WL) (x:WL):eZ (l ++ [x])=eZ l ++ iV x:=by simp [eZ]
theorem qQ:∀ (l:List WL) (k:Nat),k<l.length→(eZ l)[k*5]?=some (.bool (l.getD k eW).lf)∧(eZ l)[k*5+1]?=some (.slice (l.getD k eW).An (l.getD k eW).nd.length (l.getD k eW).cn)∧(eZ l)[k*5+2]?=some (.slice (l.getD k eW).As (l.getD k eW).nm.length (l.getD k eW).cs)∧(eZ l)[k*5+3]?=some (.slice (l.getD k eW).Ai (l.getD k eW).ne.length (l.getD k eW).ci)∧(eZ l)[k*5+4]?=some (.slice (l.getD k eW).Ag (l.getD k eW).sg.length (l.getD k eW).cg)
 | x :: r,0,_=>⟨rfl,rfl,rfl,rfl,rfl⟩
 | x :: r,k+1,h=>by
  have b:=qQ r k (by simpa using h)
  have e:eZ (x :: r)=iV x ++ eZ r:=rfl;have a:(iV x).length=5:=rfl;rw [e];refine ⟨?_,?_,?_,?_,?_⟩
  ·rw [List.getElem?_append_right (by omega),a,show (k+1)*5-5=k*5 by omega];exact b.1
  ·rw [List.getElem?_append_right (by omega),a,show (k+1)*5+1-5=k*5+1 by omega];exact b.2.1
  ·rw [List.getElem?_append_right (by omega),a,show (k+1)*5+2-5=k*5+2 by omega];exact b.2.2.1
  ·rw [List.getElem?_append_right (by omega),a,show (k+1)*5+3-5=k*5+3 by omega];exact b.2.2.2.1
  rw [List.getElem?_append_right (by omega),a,show (k+1)*5+4-5=k*5+4 by omega];exact b.2.2.2.2
def iu (w:World) (A:Option Addr) (cap:Nat) (xs:List WL):Prop:=xs.length≤cap∧(xs=[]∨∃ b cs fr,A=some ⟨b,0,none⟩∧w.heap[b]?=some (.cells cs 155 fr)∧∀ k,k<xs.length→cs[k*5]?=some (.bool (xs.getD k eW).lf)∧cs[k*5+1]?=some (.slice (xs.getD k eW).An (xs.getD k eW).nd.length (xs.getD k eW).cn)∧cs[k*5+2]?=some (.slice (xs.getD k eW).As (xs.getD k eW).nm.length (xs.getD k eW).cs)∧cs[k*5+3]?=some (.slice (xs.getD k eW).Ai (xs.getD k eW).ne.length (xs.getD k eW).ci)∧cs[k*5+4]?=some (.slice (xs.getD k eW).Ag (xs.getD k eW).sg.length (xs.getD k eW).cg))∧∀ x∈xs,eC w x
theorem iu.keepA {w w':World} {A:Option Addr} {cap:Nat} {xs:List WL} (h:iu w A cap xs) (c:kt 143 w w'):iu w' A cap xs:=by
 obtain ⟨d,a,e⟩:=h;refine ⟨d,?_,fun x f=>(e x f).keepA c⟩
 rcases a with a | ⟨b,cs,fr,a,h4,h5⟩
 ·exact Or.inl a
 exact Or.inr ⟨b,cs,fr,a,(c b cs _ fr h4 BG).trans h4,h5⟩
theorem iu.later {w w':World} {A:Option Addr} {cap:Nat} {xs:List WL} (h:iu w A cap xs) (c:Bl w w'):iu w' A cap xs:=by
 obtain ⟨d,a,e⟩:=h;refine ⟨d,?_,fun x f=>(e x f).later c⟩
 rcases a with a | ⟨b,cs,fr,a,h4,h5⟩
 ·exact Or.inl a
 exact Or.inr ⟨b,cs,fr,a,(c.block b (zY h4).1).trans h4,h5⟩
theorem GU {w:World} {base:Nat} {v:Value} {xs:List WL} (h:w.ownsRow base 155 5 v xs.length (eZ xs)) (b:∀ x∈xs,eC w x):∃ A c,v=.slice A xs.length c∧iu w A c xs:=by
 rcases h.2 with ⟨rfl,l⟩ | ⟨g,cap,a,rfl,t,p,m,r,s,n⟩
 ·have o:xs=[]:=List.eq_nil_of_length_eq_zero l
  subst o;exact ⟨none,0,rfl,by simp,Or.inl rfl,b⟩
 refine ⟨_,_,rfl,m,Or.inr ⟨g,a,_,rfl,p,fun k q=>?_⟩,b⟩
 obtain ⟨d,e,f,i,j⟩:=qQ xs k q;rw [←n,List.getElem?_take,if_pos (by omega),Array.getElem?_toList] at d e f i j
 exact ⟨d,e,f,i,j⟩
theorem Tryz.infoWay:(Tryz.prog.info? 155).map (fun i=>(i.zero,i.size,i.bytes))=some (some (.agg #[.bool false,.slice none 0 0,.slice none 0 0,.slice none 0 0,.slice none 0 0]),5,104):=by kernel_rfl
theorem Ie {w w':World} {base n:Nat} {v:Value} {zs:List Value} (a:w.ownsRow base 155 5 v n zs) (f:w.grownBy w' v.ownBlock):kt 155 w w':=fun b cs t fr c i=>by
 refine f.block b (zY c).1 fun e=>?_
 rcases a.2 with ⟨rfl,-⟩ | ⟨g,cap,d,rfl,-,h,-⟩
 ·cases e
 simp only [Value.ownBlock,Option.some.injEq] at e;rw [e,h] at c;simp only [Option.some.injEq,Obj.cells.injEq] at c;exact i c.2.1.symm
theorem pH (b j:Nat):(⟨b,0,none⟩:Addr).add j=⟨b,j,none⟩:=by unfold Addr.add;split <;> simp_all
theorem zv (d:Dm) (A:Option Addr) (cap:Nat) (w:World) (T:(bv d).2=0) (hM:eh w A cap d.n d.mem) :
  Calls Tryz.prog 74 #[cQ d A cap] w fun e w'=>(∃ A' p xs,e=.returned (.tuple #[.slice A' d.n p,.nilIface])∧xs.length=d.n∧iu w' A' p xs∧∀ k,k<d.n→fK d k (xs.getD k eW))∧Bl w w':=by
 obtain ⟨i0,X,hz0,hz1,hz2⟩:=info_parts Tryz.infoWay;obtain ⟨hd,-,-,-⟩:=bJ T;obtain ⟨-,-,V,-⟩:=aI hd;have D:=aT w d A cap 70;have hS:=bg w d A cap 70;have o:Hid (∀ w1,Below (aL w d A cap 70).heap.size (aL w d A cap 70) w1→w1.cell? ⟨w.heap.size,0,none⟩=some (.string d.name)∧w1.cell? ⟨w.heap.size,1,none⟩=some (.int .i64 d.solve)∧w1.cell? ⟨w.heap.size,2,none⟩=some (.slice A d.n cap)∧w.heap.size<w1.heap.size):=fun w1 h=>fw h
 have B:Hid (∀ w' i,Bl w w'→i<d.n→Calls Tryz.prog 114 #[cQ d A cap,.int .i64 i] w' fun e w''=>(∃ x,e=.returned (.tuple #[wayV x,.nilIface])∧eC w'' x∧fK d i x)∧Bl w' w''):=fun w' i hb hi=>DZ d A cap i w' T hi (hM.later hb)
 unfold cQ at B ⊢;obtain ⟨W,N⟩:=az (aL w d A cap 70);rw [N] at D hS o;unfold aL at N;obtain ⟨o0,o1,o2,hq⟩:=o.out W (zS);have H:=aa D;obtain ⟨n,hn⟩:=az d.n;have HN:=aa hn;rw [hn] at o2 B V N o ⊢;have hnI:(n:Int)≤12:=by omega
 clear D T hM hd hn hS
 go_enter Tryz.func74,Tryz.ntmps74
 go_wp2_with fail;clear N o0 o1 o2
 go_loopg [4,11] n (fun g s4 s11 wr => ∃ (k:Nat) (v:Value) (xs:List WL),k≤n∧g=n-k∧s11=.int .i64 k∧v=s4∧Hid (xs.length=k∧(∀ j,j<k→fK d j (xs.getD j eW))∧∀ x∈xs,eC wr x)∧wr.ownsRow W.heap.size 155 5 v k (eZ xs)∧Bl W wr)
 case atStart=>exact ⟨0,_,[],zU,rfl,rfl,rfl,(⟨rfl,fun j O=>absurd O (Nat.not_lt_zero _),fun x hx=>by cases hx⟩:_∧_∧_),World.ownsRow_nil _ _ _ _,zS⟩
 case round =>
  obtain ⟨k,v,xs,hk,rfl,rfl,rfl,C,M,f⟩:=hrel;have HO:=aa M;have I:=aa f
  by_cases Z:k<n
  ·have hki:(k:Int)<(n:Int):=by omega
   obtain ⟨p0,p1,p2,hq1⟩:=o.out wr f;have L:=B.out wr k (ae H.out f) Z;clear M f;go_wp2_with fail;refine L.mono ?_;rintro e w1 ⟨⟨x,rfl,U,F⟩,G⟩;have HT1:Hid (eC w1 x∧fK d k x):=⟨U,F⟩;have HB1:=aa G;obtain ⟨y,hy⟩:=az (w1.alloc (.cells #[.bool x.lf,.slice x.An x.nd.length x.cn,.slice x.As x.nm.length x.cs,.slice x.Ai x.ne.length x.ci,.slice x.Ag x.sg.length x.cg] 155));have c:y.heap[w1.heap.size]?=some (.cells #[.bool x.lf,.slice x.An x.nd.length x.cn,.slice x.As x.nm.length x.cs,.slice x.Ai x.ne.length x.ci,.slice x.Ag x.sg.length x.cg] 155 (0,0)):=by rw [←hy];exact heap_alloc_new ..
   have y0:y.cell? ⟨w1.heap.size,0,none⟩=some (.bool x.lf):=by simp [World.cell?,c]
   have y1:y.cell? ⟨w1.heap.size,1,none⟩=some (.slice x.An x.nd.length x.cn):=by simp [World.cell?,c]
   have y2:y.cell? ⟨w1.heap.size,2,none⟩=some (.slice x.As x.nm.length x.cs):=by simp [World.cell?,c]
   have y3:y.cell? ⟨w1.heap.size,3,none⟩=some (.slice x.Ai x.ne.length x.ci):=by simp [World.cell?,c]
   have y4:y.cell? ⟨w1.heap.size,4,none⟩=some (.slice x.Ag x.sg.length x.cg):=by simp [World.cell?,c]
   have E:Bl w1 y:=by rw [←hy];go_grown
   have s:=aa (ae G E);have J:Hid (eC y x∧fK d k x):=⟨U.later E,F⟩;have t:Hid (y.ownsRow W.heap.size 155 5 v k (eZ xs)):=an HO.out s.out;have r:=aa (ae I.out s.out);have S:Hid (∀ z∈xs,eC y z):=fun z q=>(C.out.2.2 z q).later s.out
   have hszy:=r.out.size;unfold wayV;clear G U F L c E p0 p1 p2
   go_wp2_with (at_builtin;refine wpList_append_own _ rfl _ _ 139 rfl W.heap.size 155 i0 (.agg #[.bool false,.slice none 0 0,.slice none 0 0,.slice none 0 0,.slice none 0 0]) 5 104 Tryz.underlying139 X hz0 hz1 hz2 rfl (by decide) _ _ _ rfl (t.out.alloc _) ⟨y.heap.size,0,none⟩ 1 1 (iV x) rfl rfl ?qe2 ?qe3 ?qe4 ?qe5 ?qe6 ?_)
   case qe2 =>
    intro j u O;rw [pH,Lib.cell_of_heap (heap_alloc_new y (.cells #[.bool x.lf,.slice x.An x.nd.length x.cn,.slice x.As x.nm.length x.cs,.slice x.Ai x.ne.length x.ci,.slice x.Ag x.sg.length x.cg] 155))]
    simpa [iV] using O
   case qe3=>intro u hu;simp [iV] at hu;rcases hu with rfl | rfl | rfl | rfl | rfl <;> rfl
   case qe4=>simp only [maxLen];omega
   case qe5=>omega
   case qe6=>simp;omega
   intro v' w4 m b K;have P:Hid (Bl W w4):=bD r.out t.out b;have Q:Hid (w4.ownsRow W.heap.size 155 5 v' (k+1) (eZ (xs ++ [x]))):=by
    show World.ownsRow ..
    rw [tS];exact m
   have l:∀ z,eC y z→eC w4 z:=fun z q=>(q.later (by go_grown)).keepW (Ie (t.out.alloc _) b)
   have R:Hid ((xs ++ [x]).length=k+1∧(∀ j,j<k+1→fK d j ((xs ++ [x]).getD j eW))∧∀ z∈xs ++ [x],eC w4 z):=by
    have a:=C.out.1;refine ⟨by rw [List.length_append,a];rfl,fun j O=>?_,fun z q=>?_⟩
    ·by_cases e:j=k
     ·rw [e,zZ,List.getElem?_append_right (by omega),a,Nat.sub_self]
      exact J.out.2
     rw [zZ,List.getElem?_append_left (by omega),←zZ]
     exact C.out.2.1 j (by omega)
    rcases List.mem_append.1 q with q | q
    ·exact l z (S.out z q)
    rw [List.mem_singleton.1 q];exact l x J.out.1
   clear m b K y0 y1 y2 y3 y4 hy l;go_wp2_with fail
   go_roundg (n-(k+1))
   case measure=>omega
   case rel=>exact ⟨k+1,_,xs ++ [x],by omega,rfl,by go_num,rfl,R,Q.out,P.out⟩
  have Y:k=n:=by omega
  subst Y;have HF:Hid (∃ A' p,v=.slice A' k p∧iu wr A' p xs):=by
   have a:=C.out.1;have h:=M;rw [←a] at h;obtain ⟨A',p,e,hv⟩:=GU h C.out.2.2;rw [a] at e;exact ⟨A',p,e,hv⟩
  clear M f;go_wp2_with fail;go_returns;obtain ⟨A',p,e,hv⟩:=HF.out;exact ⟨⟨A',p,xs,by rw [←e];rfl,C.out.1,hv,C.out.2.1⟩,ae H.out I.out⟩
theorem xh (A0:Option Addr) (cap n:Nat) (D:Nat→Dm) (A:Nat→Option Addr) (C:Nat→Nat) (AE:Option Addr) (ce:Nat) (xs:List EnL) (w:World) (hM:aW w A0 cap n D A C) (hE:b7 w AE ce xs) (he:entsErr D n (lE xs)=0) :
  Calls Tryz.prog 37 #[.agg #[.slice A0 n cap],.slice AE xs.length ce] w fun e w'=>(∃ g,e=.returned (.tuple #[.slice (some ⟨g,0,none⟩) (prodN D n) (prodN D n),.nilIface])∧w.heap.size≤g∧bU w' g (wrV D n (lE xs)))∧Bl w w':=by
 have m:=ao w A0 n cap 24;have h:=kC A0 cap n D A C AE ce xs (ax w A0 n cap 24) (hM.later m) (hE.later m);have HB0:=aa m;have HM:=aa hM;have HE:=aa hE;clear hM hE m;have o:=ss he;have HEs:=aa o;have K4:xs.length≤3000:=by have:=o.few;rw [a7] at this;exact this
 have hR:=o.right;have HR:=aa hR;obtain ⟨hn1,hn4,K6,hd⟩:=au hR;rw [he,errV_zero] at h;have F:Hid (w.heap.size<(ax w A0 n cap 24).heap.size∧(ax w A0 n cap 24).cell? ⟨w.heap.size,0,none⟩=some (.slice A0 n cap)):=⟨by rw [av];omega,aH ..⟩
 obtain ⟨N,hN⟩:=az xs.length;have HN:=aa hN;rw [hN] at h K4 ⊢;have hN':(N:Int)≤3000:=by omega
 obtain ⟨PN,q⟩:=az (prodN D n);have I:=aa q;rw [q] at K6;have hmk:=jC PN K6;have hPN':(PN:Int)≤3000:=by omega
 have HWE:Hid (((lE xs).take N).foldl (dH D n) (List.replicate PN (0,0))=wrV D n (lE xs)):=by show _=_;rw [List.take_of_length_le (by rw [a7,hN];exact zT),←q];rfl
 clear he o hR hd hN q
 go_enter Tryz.func37,Tryz.ntmps37
 go_wp2_with fail;refine h.mono ?_;rintro e w1 ⟨rfl,r⟩;have hB:Bl w w1:=ae HB0.out r;have HB:=aa hB;have x:Hid (nU w1 w.heap.size (.slice A0 n cap)):=⟨zW F.out.1 r.size,aC r F.out.1 F.out.2⟩;have c1:=x.out.2;have Q:=pE A0 cap n D A C w1 (HM.out.later hB);have K3:iU D n=(PN:Int):=by unfold iU;rw [if_pos HR.out,I.out]
 rw [HR.out,errV_zero,K3] at Q;clear r h hB K3;go_wp2_with fail;refine Q.mono ?_;rintro e w2 ⟨rfl,O⟩;have S:=aa (ae HB.out O);have d:=aa (x.out.later O);obtain ⟨v2,R⟩:∃ v,w2.alloc (.cells (madeCells #[.int .i64 0,.int .i64 0] (PN*2)) 52)=v:=⟨_,rfl⟩;have L:Bl w2 v2:=by rw [←R];go_grown
 have T:=aa L;have HCv:Hid (bU v2 w2.heap.size (List.replicate PN (0,0))):=by rw [←R];exact qN w2 PN
 have G:=aa (d.out.later L);have hwz:w.heap.size<w2.heap.size:=d.out.1;clear Q O c1 L;go_wp2_with fail;clear hmk R
 go_loopg [32] N (fun gg s32 wr => ∃ (k:Nat),k≤N∧gg=N-k∧s32=.int .i64 k∧Hid (bU wr w2.heap.size (((lE xs).take k).foldl (dH D n) (List.replicate PN (0,0))))∧Hid (v2.grownBy wr (some w2.heap.size)))
 case atStart=>exact ⟨0,zU,rfl,rfl,HCv,cV v2 _⟩
 case round =>
  obtain ⟨k,hk,rfl,rfl,HC,HG⟩:=hrel;have b:Bl w2 wr:=T.out.grown HG.out T.out.size (fun j hj=>by cases hj;exact zT)
  have HB2r:=aa b;have H:=aa (ae S.out b)
  by_cases hlt:k<N
  ·have s:k<xs.length:=by rw [HN.out];exact hlt
   have hki:(k:Int)<(N:Int):=by omega
   obtain ⟨-,-,h0 | ⟨bb,oo,rfl,hA⟩⟩:=HE.out.later H.out
   ·have:=HN.out;rw [h0] at this;simp at this;omega
   obtain ⟨c1,c2⟩:=hA.at s;have B:(xs.getD k aJ).e∈lE xs:=List.mem_map.2 ⟨_,iX s,rfl⟩;obtain ⟨u,-,E⟩:=HEs.out.each _ B;have hnn : -1000000≤(xs.getD k aJ).e.n∧(xs.getD k aJ).e.n≤1000000:=by simpa [cX] using E
   obtain ⟨hq1,hq2,-⟩:=a8 u (Nat.le_refl n);have K7:=hA.pl s;have l:=IN D n (List.replicate PN (0,0)) xs s;unfold dH at l;obtain ⟨X,hX⟩:∃ X:Nat,numI D (xs.getD k aJ).e.pl n=X:=⟨(numI D (xs.getD k aJ).e.pl n).toNat,by omega⟩
   have K5:numV D n (xs.getD k aJ).e.pl=(X:Int):=by unfold numV;rw [if_pos u.ok,hX]
   have hXN:X<PN:=by have:=I.out;omega
   have f:∀ w',Bl wr w'→_:=fun w' K8=>gX A0 cap n D A C (xs.getD k aJ).A (xs.getD k aJ).c (xs.getD k aJ).e.pl w' (HM.out.later (ae H.out K8)) (K7.later K8)
   rw [K5,u.ok,errV_zero] at f;have a:=aa f;have t:=fun w'=>jv (xs.getD k aJ).e.n w'
   rw [pt (by omega) (by omega)] at t
   rw [hX,show ((X:Int)).toNat=X by omega] at l
   have W:Hid _:=l;obtain ⟨LL,p⟩:=az (((lE xs).take k).foldl (dH D n) (List.replicate PN (0,0)));have Z:LL.length=PN:=by rw [←p,ts];simp
   have HCL:Hid (bU wr w2.heap.size LL):=by rw [←p];exact HC.out
   have V:Hid (((lE xs).take (k+1)).foldl (dH D n) (List.replicate PN (0,0))=LL.set X (1,(xs.getD k aJ).e.n)):=by
    show _=_
    rw [←p];exact W.out
   have z:Hid (nU wr w.heap.size (.slice A0 n cap)):=oj G.out (by omega) HG.out
   have K0:X<LL.length:=by omega
   have Y:=aa K0;generalize (xs.getD k aJ).A=A1 at c1 a;generalize (xs.getD k aJ).c=k1 at c1 a;generalize (xs.getD k aJ).e.n=num at c2 hnn t V;generalize (xs.getD k aJ).e.pl.length=m1 at c1 a;have hcr:=z.out.2;have hXi:(X:Int)<(PN:Int):=by omega
   obtain ⟨y,hy⟩:=az (wr.alloc (.cells #[.slice A1 m1 k1,.int .i64 num] 83));have M:Bl wr y:=by rw [←hy];go_grown
   have U:=aa M;have J:Hid (y.heap[wr.heap.size]?=some (.cells #[.slice A1 m1 k1,.int .i64 num] 83 (0,0))):=by show _=_;rw [←hy];exact heap_alloc_new ..
   obtain ⟨p0,p1,-,-⟩:=cF J.out;have hyo:=(z.out.later M).2;clear b hA B u E K7 l f K5 p Z hX hq1 hq2 M K0 W;go_wp2_with fail;refine (a.out _ U.out).mono ?_;rintro e w5 ⟨rfl,P⟩;have HB5:=aa P;have hwr:wr.heap.size<y.heap.size:=(zY J.out).1;have u9:w5.heap[wr.heap.size]?=some (.cells #[.slice A1 m1 k1,.int .i64 num] 83 (0,0)):=(P.block _ hwr).trans J.out;obtain ⟨-,s1,-,-⟩:=cF u9;clear P u9 p0 p1 hyo;go_wp2_with fail;refine (t _).mono ?_;rintro e w6 ⟨rfl,K2⟩;have K:Bl wr w6:=ae (ae U.out HB5.out) K2;have i:=aa (HCL.out.later K);obtain ⟨g1,g2⟩:=i.out.at Y.out;have g3:=i.out.frozen (X*2);have g4:=i.out.frozen (X*2+1);have HC7:Hid (bU ((w6.setCell ⟨w2.heap.size,X*2,none⟩ (.int .i64 1)).setCell ⟨w2.heap.size,X*2+1,none⟩ (.int .i64 num)) w2.heap.size (((lE xs).take (k+1)).foldl (dH D n) (List.replicate PN (0,0)))):=by show bU _ _ _;rw [V.out];exact i.out.set Y.out 1 num
   have HG7:Hid (v2.grownBy ((w6.setCell ⟨w2.heap.size,X*2,none⟩ (.int .i64 1)).setCell ⟨w2.heap.size,X*2+1,none⟩ (.int .i64 num)) (some w2.heap.size)):=BK (fy HG.out K);clear K2 K t s1;go_wp2_with fail
   go_roundg (N-(k+1))
   case measure=>omega
   case rel=>exact ⟨k+1,by omega,rfl,by go_num,HC7,HG7⟩
  have hke:k=N:=by omega
  subst hke;have HV:Hid (bU wr w2.heap.size (wrV D n (lE xs))):=by rw [←HWE.out];exact HC.out
  clear b;go_wp2_with fail
  go_ret2
  exact ⟨⟨w2.heap.size,by rw [I.out];rfl,S.out.size,HV.out⟩,H.out⟩
end Go.Proofs.YtohgnbgamfepoaaGreatDoor
