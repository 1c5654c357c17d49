/- A hall in memory (pack
 What comes of a change
 CHANGED ON THE WAY: th -/
import Derived.Test.YtjfampgnhccodaaGreatDoorJTBN
import Derived.Test.YtjfampgnhccodaaGreatDoorJTBQ
namespace Go.Proofs.YtjfampgnhccodaaGreatDoor
open Tryz ChangeShapes WideShapes ChangeAt RowKit
set_option maxRecDepth 99999
set_option maxHeartbeats 0
theorem iu.same{w w':World}{b o:Nat}{L:List (Int×Int)}(h:iu w b o L)(e:w.heap.size<=w'.heap.size)(c:w'.heap[b]?=w.heap[b]?):iu w' b o L :=
 ⟨zW h.1 e,fun k d=>⟨(World.cell?_of_block (a:=⟨b,o+k*2,none⟩) c).trans (h.2 k d).1,(World.cell?_of_block (a:=⟨b,o+k*2+1,none⟩) c).trans (h.2 k d).2⟩⟩
theorem de.frame{w w':World}{N:Nat}{A:Option Addr}{c:Nat}{L:List Int}(h:de w A c L)(l:eU N A)(m:w.heap.size<=w'.heap.size)(i:∀b,N<=b->b<w.heap.size->w'.heap[b]?=w.heap[b]?):de w' A c L:=by
 obtain⟨e,d|⟨b,o,d,f,g⟩⟩:=h
 ·exact⟨e,Or.inl d⟩
 exact⟨e,Or.inr ⟨b,o,d,zW f m,fun j k=>(World.cell?_of_block (a:=⟨b,o+j,none⟩) (i b (l b o d) f)).trans (g j k)⟩⟩
theorem bU.frame{w w':World}{N:Nat}{A:Option Addr}{c:Nat}{xs:List EnL}(h:bU w A c xs)(q:eU N A)(r:dQ N xs)(l:w.heap.size<=w'.heap.size)(k:∀b,N<=b->b<w.heap.size->w'.heap[b]?=w.heap[b]?):bU w' A c xs:=by
 obtain⟨g,f,e|⟨b,o,e,i,m,n⟩⟩:=h
 ·exact⟨g,f,Or.inl e⟩
 exact⟨g,f,Or.inr ⟨b,o,e,zW i l,fun j u p=>(World.cell?_of_block (a:=⟨b,o+j,none⟩) (k b (q b o e) i)).trans (m j u p),fun x d=>(n x d).frame (r x d) l k⟩⟩
theorem lv.frame{w w':World}{N g n:Nat}{D:Nat->Dm}{G C:Nat->Nat}(h:lv w N g n D G C)(c:∀b,N<=b->b<w.heap.size->w'.heap[b]?=w.heap[b]?):lv w' N g n D G C :=
 ⟨h.1,h.2.1.same (c _ h.1 h.2.1.lt),fun i a=>⟨(h.2.2 i a).1,(h.2.2 i a).2.1,(h.2.2 i a).2.2.same (c _ (h.2.2 i a).1 (h.2.2 i a).2.2.lt)⟩⟩
def HV(w:World)(h:Nat)(S:Nat->Prop)(D:Nat->Dm)(n:Nat)(l:List En):Prop :=
 (∀b,S b->b<w.heap.size)/\((au D n).2.2=0/\Ens D n l)/\S h/\∃(A0:Option Addr) (co:Nat) (A:Nat->Option Addr) (C:Nat->Nat) (Ae:Option Addr) (ce:Nat) (zs:List EnL) (gc oc cc:Nat),
  w.heap[h]?=some (.cells #[.slice A0 n co,.slice Ae zs.length ce,.slice (some ⟨gc,oc,none⟩) (prodN D n) cc] 88 (0,0))/\lE zs=l/\prodN D n<=cc/\cc<=9223372036854775807 /\
  ∀w',w.heap.size<=w'.heap.size->(∀b,S b->b≠h->w'.heap[b]?=w.heap[b]?)->aL w' A0 co n D A C/\bU w' Ae ce zs/\iu w' gc oc (caL D n l)
theorem HV.keep{w w':World}{h:Nat}{S:Nat->Prop}{D:Nat->Dm}{n:Nat}{l:List En}(H:HV w h S D n l)(i:w.heap.size<=w'.heap.size)(g:∀b,S b->w'.heap[b]?=w.heap[b]?):HV w' h S D n l:=by
 obtain⟨m,o,f,A0,k,A,C,Ae,ce,zs,gc,oc,j,p,q,r,s,t⟩:=H;exact⟨fun b a=>zW (m b a) i,o,f,A0,k,A,C,Ae,ce,zs,gc,oc,j,(g h f).trans p,q,r,s,fun w2 e c=>t w2 (zV i e) fun b a d=>(c b a d).trans (g b a)⟩
theorem Is(A0:Option Addr)(cap n:Nat)(D:Nat->Dm)(A:Nat->Option Addr)(C:Nat->Nat)(w:World)(f:(au D n).2.2≠0)(i:aL w A0 cap n D A C):
  Rt 8 #[.agg #[.slice A0 n cap]] w (.tuple #[.pointer none,errV (au D n).2.2]):=by
 have b:=ay w A0 n cap 24;have k:=aU w A0 n cap 24;have a:=pN A0 cap n D A C none 0 [] (aE w A0 n cap 24) (i.later b) (bU.nil _ _ _ ω)
 have c:cuErr D n (lE [])=(au D n).2.2:=by unfold cuErr;rw[if_pos f]
 rw[c,ue (by rw[c];exact f),ac f]at a
 rw[ac f];simp only[List.length_nil]at a;obtain⟨W,j⟩:=ar (aE w A0 n cap 24);rw[j]at b k a;unfold aE at j;have g:=aa b;generalize (au D n).2.2=z at a|-;clear i b f c
 go_enter func8,ntmps8
 go_wp2_with fail;refine a.mono ?_;rintro e w1⟨⟨A1,c1,rfl,-⟩,d⟩;have h:=aa (ad g.o d);clear d a;go_wp2_with fail;go_returns;exact⟨rfl,h.o⟩
theorem Iu(A0:Option Addr)(cap n:Nat)(D:Nat->Dm)(A:Nat->Option Addr)(C:Nat->Nat)(w:World)(E:(au D n).2.2=0)(L:aL w A0 cap n D A C):
  Calls prog 8 #[.agg #[.slice A0 n cap]] w fun e w'=>(∃h S,e=.returned (.tuple #[.pointer (some ⟨h,0,none⟩),.nilIface])/\HV w' h S D n []/\∀b,S b->w.heap.size<=b)/\Bl w w':=by
 obtain⟨y,hR⟩:=dZ E;have p:Ens D n []:=⟨y,fun e he=>(by cases he),List.Pairwise.nil⟩
 have l:=iD E p;have m:=ay w A0 n cap 24;have B:=aB w A0 n cap 24;have K:=aU w A0 n cap 24;have f:=vP A0 cap n D A C none 0 [] (aE w A0 n cap 24) (L.later m) (bU.nil _ _ _ ω)
 rw[show lE ([]:List EnL)=[]from rfl,l,errV_zero,fZ l]at f
 simp only[List.length_nil]at f;obtain⟨ac,ae,T,U⟩:=ao y;have x:1<=prodN D n:=kq fun i hi=>(U i hi).1
 have I:Hid (∀w',Bl w w'->Calls prog 20 #[.agg #[.slice A0 n cap]] w' fun e ab=>(∃g c G C',e=.returned (.agg #[.slice (some ⟨g,0,none⟩) n c])/\n<=c/\lv ab w'.heap.size g n D G C')/\Bl w' ab):=fun w' Z=>Bq A0 cap n D A C w' y (L.later Z)
 have k:Hid (∀(w1 w2:World) (g c:Nat) (G C':Nat->Nat) (A1:Option Addr) (c1:Nat),Bl w w1->eP w1 A1 c1 (caL D n [])->eU w.heap.size A1->Bl w1 w2->n<=c->lv w2 w1.heap.size g n D G C'->∃S,HV (w2.alloc (.cells #[.slice (some ⟨g,0,none⟩) n c,.slice none 0 0,.slice A1 (prodN D n) c1] 88)) w2.heap.size S D n []/\∀b,S b->w.heap.size<=b):=fun w1 w2 g c G C' A1 c1 a hC hN d R z=>by
  obtain⟨V,q2,q3|⟨gc,oc,rfl,X⟩⟩:=hC
  ·have:=fZ l;rw[q3]at this;simp at this;omega
  rw[fZ l]at V;have j:(w2.alloc (.cells #[.slice (some ⟨g,0,none⟩) n c,.slice none 0 0,.slice (some ⟨gc,oc,none⟩) (prodN D n) c1] 88)).heap.size=w2.heap.size+1:=by simp
  refine⟨fun b=>w.heap.size<=b/\b<w2.heap.size+1,⟨fun b u=>by rw[j];exact u.2,⟨E,p⟩,⟨(ad a d).size,ω⟩,some ⟨g,0,none⟩,c,(fun i=>some ⟨G i,0,none⟩),C',none,0,[],gc,oc,c1,heap_alloc_new ..,rfl,V,q2,fun w' hs u=>?_⟩,fun b u=>u.1⟩
  have t:∀b,w.heap.size<=b->b<w2.heap.size->w'.heap[b]?=w2.heap[b]?:=fun b a d=>(u b ⟨a,ω⟩ ω).trans (Below.heap_alloc _ _ _ d)
  rw[j]at hs;have M:=z.frame (w':=w') fun b P Q=>t b (zV a.size P) Q
  refine⟨⟨R,Or.inr ⟨g,0,rfl,M.dims⟩⟩,bU.nil _ _ _ ω,?_⟩
  exact(X.later d).same ω (t gc (hN gc oc rfl) (X.later d).1)
 obtain⟨W,O⟩:=ar (aE w A0 n cap 24);rw[O]at m K B f;unfold aE at O;have F:=aa m;have j:w.heap.size<W.heap.size:=ω;generalize caL D n []=CL at f k;generalize prodN D n=N at f k;clear L m E y hR p l U T x B
 go_enter func8,ntmps8
 go_wp2_with fail;refine f.mono ?_;rintro e w1⟨⟨A1,c1,rfl,r,s⟩,a⟩;have o:=aa (ad F.o a);have H:=aa r;have J:=aa (s.le (Nat.le_of_lt j));have x1:=aM a j K;have af:w.heap.size<w1.heap.size:=zW j a.size;have v:=I.o w1 o.o;clear a f r s K O;go_wp2_with fail;refine v.mono ?_;rintro e w2⟨⟨g,c,G,C',rfl,R,z⟩,d⟩;have q:=aa d;have Y:=aa z;clear d z v;go_wp2_with fail;go_returns;obtain⟨S,hH,B⟩:=k.o w1 w2 g c G C' A1 c1 o.o H.o J.o q.o R Y.o;exact⟨⟨_,S,rfl,hH,B⟩,ad o.o (ad q.o γ)⟩
section
variable {w:World} {h:Nat} {S:Nat->Prop} {D:Nat->Dm} {n:Nat} {l:List En}
theorem HV.parts(H:HV w h S D n l):∃(A0:Option Addr) (e:Nat) (A:Nat->Option Addr) (C:Nat->Nat) (Ae:Option Addr) (ce:Nat) (zs:List EnL) (gc oc d:Nat),h<w.heap.size/\(w.cell? ⟨h,0,none⟩=some (.slice A0 n e)/\w.cell? ⟨h,1,none⟩=some (.slice Ae zs.length ce)/\w.cell? ⟨h,2,none⟩=some (.slice (some ⟨gc,oc,none⟩) (prodN D n) d))/\lE zs=l/\prodN D n<=d/\d<=9223372036854775807/\aL w A0 e n D A C/\bU w Ae ce zs/\iu w gc oc (caL D n l):=by
 obtain⟨g,p,i,A0,e,A,C,Ae,ce,zs,gc,oc,d,f,j,k,m,o⟩:=H;obtain⟨a,b,c⟩:=o w zT fun _ _ _=>rfl
 exact⟨A0,e,A,C,Ae,ce,zs,gc,oc,d,g h i,⟨(Lib.cell_of_heap f 0).trans rfl,(Lib.cell_of_heap f 1).trans rfl,(Lib.cell_of_heap f 2).trans rfl⟩,j,k,m,a,b,c⟩
theorem HV.sizes(H:HV w h S D n l):(ag D n).2.2=0/\(caL D n l).length=prodN D n/\1<=prodN D n/\prodN D n<=3000:=by
 obtain⟨b,g⟩:=dZ H.2.1.1;obtain⟨e,f,a,c⟩:=ao b;exact⟨b,fZ (iD H.2.1.1 H.2.1.2),kq fun i d=>(c i d).1,a⟩
end
theorem AA(h:Nat)(S:Nat->Prop)(D:Nat->Dm)(n:Nat)(l:List En)(w:World)(H:HV w h S D n l):
  Calls prog 11 #[.pointer (some ⟨h,0,none⟩)] w fun e w'=>(∃A' c,e=.returned (.slice A' (caL D n l).length c)/\eP w' A' c (caL D n l))/\Bl w w':=by
 obtain⟨A0,s,A,C,Ae,ce,zs,gc,oc,r,t,⟨-,-,c2⟩,-,-,-,-,-,q⟩:=H.parts;obtain⟨-,k,m,o⟩:=H.sizes;have a:=pO gc oc r (caL D n l) w ω ω q
 rw[k]at a|-;have b:=aa k;generalize caL D n l=CL at a b;generalize prodN D n=N at c2 a b;clear H q k m o
 go_enter func11,ntmps11
 go_wp2_with fail;refine a.mono ?_;rintro e w1⟨⟨g,c,rfl,-,i,j,d⟩,f⟩;have p:Hid (eP w1 (some ⟨g,0,none⟩) c CL/\Bl w w1):=⟨⟨by rw[b.o];exact i,j,Or.inr ⟨g,0,rfl,d.celAt⟩⟩,f⟩
 clear f d a;go_wp2_with fail;go_ret;exact⟨⟨_,c,rfl,p.o.1⟩,p.o.2⟩
theorem uq(h:Nat)(S:Nat->Prop)(D:Nat->Dm)(n:Nat)(l:List En)(w:World)(H:HV w h S D n l):
  Calls prog 13 #[.pointer (some ⟨h,0,none⟩)] w fun e w'=>(∃A' c' zs,e=.returned (.slice A' zs.length c')/\bU w' A' c' zs/\lE zs=l)/\Bl w w':=by
 obtain⟨A0,p,A,C,Ae,ce,zs,gc,oc,o,q,⟨-,c1,-⟩,k,-,-,-,g,-⟩:=H.parts;have a:=H.2.1.2;rw[←k]at a;have c:=ER Ae ce zs w (um a) (wS a) g;have m:=aa k;have f:Hid (∀ys:List EnL,lE ys=lE zs->ys.length=zs.length):=fun ys h=>by rw[←aR,h,aR]
 generalize zs.length=zl at c1 c f;clear H g k a
 go_enter func13,ntmps13
 go_wp2_with fail;refine c.mono ?_;rintro e w1⟨⟨ys,rfl,b,d⟩,i⟩;have j:Hid (bU w1 (some ⟨w.heap.size,0,none⟩) zl ys/\lE ys=l/\Bl w w1/\ys.length=zl):=⟨b.ensV,d.trans m.o,i,f.o ys d⟩;clear i b d c;go_wp2_with fail;go_ret;exact⟨⟨_,zl,ys,by rw[j.o.2.2.2];rfl,j.o.1,j.o.2.1⟩,j.o.2.2.1⟩
theorem IF{W w':World}{q:Nat}{u v:Value}(h:q<W.heap.size/\W.cell? ⟨q,0,none⟩=some u/\W.cell? ⟨q,1,none⟩=some v)(a:Bl W w'):Bl W w'/\w'.cell? ⟨q,0,none⟩=some u/\w'.cell? ⟨q,1,none⟩=some v:=⟨a,aM a h.1 h.2.1,aM a h.1 h.2.2⟩
theorem Mw{w:World}{h T:Nat}{a b c:Value}{fr:Nat×Nat}(k:w.heap[h]?=some (.cells #[a,b,c] T fr))(u v:Value):((w.setCell ⟨h,1,none⟩ u).setCell ⟨h,2,none⟩ v).heap[h]?=some (.cells #[a,u,v] T fr):=dj (dj k)
theorem It(h:Nat)(S:Nat->Prop)(D:Nat->Dm)(n:Nat)(l:List En)(Ax:Option Addr)(cx:Nat)(ys:List EdL)(w:World)(H:HV w h S D n l)(hX:oQ w Ax cx ys):
  Calls prog 9 #[.pointer (some ⟨h,0,none⟩),.slice Ax ys.length cx] w fun e w'=>(∃S',e=.returned (.tuple #[.int .i64 (doN D n l (lD ys):Nat),errV (doE D n l (lD ys))])/\HV w' h S' D n (doL D n l (lD ys))/\∀b,S' b->S b\/w.heap.size<=b)/\Kept w.heap.size (fun b=>b=h) w w':=by
 have HH:=aa H;obtain⟨F,⟨hr,K⟩,U,A0,E,A,C,Ae,ce,zs,gc,oc,cc,j,an,ax,aw,X⟩:=id H;obtain⟨hM,ah,hC⟩:=X w zT fun _ _ _=>rfl
 obtain⟨hE,V,aB,ao⟩:=H.sizes;have hh:h<w.heap.size:=F h U;have c0:w.cell? ⟨h,0,none⟩=some (.slice A0 n E):=(Lib.cell_of_heap j 0).trans rfl;have c1:w.cell? ⟨h,1,none⟩=some (.slice Ae zs.length ce):=(Lib.cell_of_heap j 1).trans rfl;have c2:w.cell? ⟨h,2,none⟩=some (.slice (some ⟨gc,oc,none⟩) (prodN D n) cc):=(Lib.cell_of_heap j 2).trans rfl;have Q:Hid (h<w.heap.size/\w.cell? ⟨h,0,none⟩=some (.slice A0 n E)/\w.cell? ⟨h,1,none⟩=some (.slice Ae zs.length ce)):=⟨hh,c0,c1⟩;have f:Hid (∀w',Bl w w'->Calls prog 30 #[.agg #[.slice A0 n E],.slice Ae zs.length ce,.slice Ax ys.length cx] w' fun e ab=>(∃B c us,e=.returned (.tuple #[.slice B us.length c,.int .i64 (editsV D n l (lD ys)).2.1,errV (doE D n l (lD ys))])/\bU ab B c us/\lE us=(editsV D n l (lD ys)).1/\eU w.heap.size B/\dQ w.heap.size us)/\Bl w' ab):=fun w' s=>by
  have h':=Iw A0 E n D A C Ae ce zs Ax cx ys w' (hM.later s) (ah.later s) (hX.later s);rw[an]at h';exact h'.mono fun _ _ ⟨⟨B,c,us,a1,a2,a3,a4,a5⟩,a6⟩=>⟨⟨B,c,us,a1,a2,a3,a4.le s.size,a5.le s.size⟩,a6⟩
 by_cases P:doE D n l (lD ys)=0
 ·obtain⟨O,W,am⟩:=kX K P
  rw[ij]at O am;have az:=Hq K (lD ys);have ap:Hid (doL D n l (lD ys)=(editsV D n l (lD ys)).1):=by show _=_;unfold doL;rw[if_pos P]
  rw[P,errV_zero]at f|-;have ag:Hid (∀w',Bl w w'->Calls prog 31 #[.slice (some ⟨gc,oc,none⟩) (prodN D n) cc] w' fun e ab=>(∃g c',e=.returned (.slice (some ⟨g,0,none⟩) (prodN D n) c')/\w'.heap.size<=g/\prodN D n<=c'/\c'<=9223372036854775807/\cB ab g (caL D n l))/\Bl w' ab):=fun w' s=>by
   have h':=pO gc oc cc (caL D n l) w' ω ω (hC.later s)
   rw[V]at h';exact h'
  have I:Hid (∀w0 w' gC a,Bl w w0->Bl w0 w'->w0.heap.size<=gC->cB w' gC (caL D n l)->prodN D n<=a->Calls prog 32 #[.agg #[.slice A0 n E],.slice (some ⟨gC,0,none⟩) (prodN D n) a,.slice Ax ys.length cx] w' fun e ab=>e=.returned .nilIface/\cB ab gC (wrTo D n (caL D n l) (lD ys) (lD ys).length)/\Bl w0 ab):=fun w0 w' gC a J s hg p q=>by
   have h':=AD A0 E n D A C Ax cx ys gC a (caL D n l) w0 w' O ao (hM.later J) (hX.later J) s hg p V q fun k hk=>by
    have h2:=am k hk;rw[II]at h2;exact(h2.2.edit h2.1).1
   rw[ij];exact h'
  have x:Hid (∀w0 w' gC a,Bl w w0->Bl w0 w'->w0.heap.size<=gC->cB w' gC (wrTo D n (caL D n l) (lD ys) (lD ys).length)->prodN D n<=a->a<=9223372036854775807->Calls prog 33 #[.agg #[.slice A0 n E],.slice (some ⟨gC,0,none⟩) (prodN D n) a,.slice Ax ys.length cx] w' fun e ab=>e=.returned (.tuple #[.int .i64 (doN D n l (lD ys):Nat),.nilIface])/\cB ab gC (caL D n (doL D n l (lD ys)))/\Bl w0 ab):=fun w0 w' gC a J s hg p q o=>Aw A0 E n D A C Ax cx ys gC a l w0 w' hr K P (hM.later J) (hX.later J) s hg p q o
  have i:Hid (∀(w4:World) B c us gC a,bU w4 B c us->lE us=(editsV D n l (lD ys)).1->eU w.heap.size B->dQ w.heap.size us->Bl w w4->w.heap.size<=gC->cB w4 gC (caL D n (doL D n l (lD ys)))->prodN D n<=a->a<=9223372036854775807->(∃S',HV ((w4.setCell ⟨h,1,none⟩ (.slice B us.length c)).setCell ⟨h,2,none⟩ (.slice (some ⟨gC,0,none⟩) (prodN D n) a)) h S' D n (doL D n l (lD ys))/\∀b,S' b->S b\/w.heap.size<=b)/\Kept w.heap.size (fun b=>b=h) w ((w4.setCell ⟨h,1,none⟩ (.slice B us.length c)).setCell ⟨h,2,none⟩ (.slice (some ⟨gC,0,none⟩) (prodN D n) a))):=fun w4 B c us gC a T aC Y Z d M p q o=>by
   have v:∀b,b≠h->((w4.setCell ⟨h,1,none⟩ (.slice B us.length c)).setCell ⟨h,2,none⟩ (.slice (some ⟨gC,0,none⟩) (prodN D n) a)).heap[b]?=w4.heap[b]?:=fun b m=>(ae _ _ _ _ _ m).trans (ae _ _ _ _ _ m)
   have PU:((w4.setCell ⟨h,1,none⟩ (.slice B us.length c)).setCell ⟨h,2,none⟩ (.slice (some ⟨gC,0,none⟩) (prodN D n) a)).heap.size=w4.heap.size:=by simp
   have PT:((w4.setCell ⟨h,1,none⟩ (.slice B us.length c)).setCell ⟨h,2,none⟩ (.slice (some ⟨gC,0,none⟩) (prodN D n) a)).os=w4.os/\((w4.setCell ⟨h,1,none⟩ (.slice B us.length c)).setCell ⟨h,2,none⟩ (.slice (some ⟨gC,0,none⟩) (prodN D n) a)).tape=w4.tape/\((w4.setCell ⟨h,1,none⟩ (.slice B us.length c)).setCell ⟨h,2,none⟩ (.slice (some ⟨gC,0,none⟩) (prodN D n) a)).output=w4.output:=⟨rfl,rfl,rfl⟩;have af:((w4.setCell ⟨h,1,none⟩ (.slice B us.length c)).setCell ⟨h,2,none⟩ (.slice (some ⟨gC,0,none⟩) (prodN D n) a)).heap[h]?=some (.cells #[.slice A0 n E,.slice B us.length c,.slice (some ⟨gC,0,none⟩) (prodN D n) a] 88 (0,0)):=Mw ((d.block h hh).trans j) _ _;generalize (w4.setCell ⟨h,1,none⟩ (.slice B us.length c)).setCell ⟨h,2,none⟩ (.slice (some ⟨gC,0,none⟩) (prodN D n) a)=w5 at v PU af PT|-;refine⟨⟨fun b=>S b\/(w.heap.size<=b/\b<w4.heap.size),⟨fun b m=>?_,⟨hr,az⟩,Or.inl U,A0,E,A,C,B,c,us,gC,0,a,af,aC.trans ap.o.symm,q,o,fun w' hs m=>?_⟩,fun b m=>m.imp id fun h=>h.1⟩,?_⟩
   ·rw[PU]
    rcases m with m|m
    ·exact zW (F b m) d.size
    exact m.2
   ·rw[PU]at hs
    have au:∀b,w.heap.size<=b->b<w4.heap.size->w'.heap[b]?=w4.heap[b]?:=fun b h1 h2=>(m b (Or.inr ⟨h1,h2⟩) ω).trans (v b ω)
    exact⟨(X w' (zV d.size hs) fun b av u=>((m b (Or.inl av) u).trans (v b u)).trans (d.block b (F b av))).1,T.frame Y Z hs au,p.celAt.same hs (au gC M p.lt)⟩
   exact⟨PT.1.trans d.os,PT.2.1.trans d.tape,PT.2.2.trans d.output,by rw[PU];exact d.size,fun k hk hn=>(v k hn).trans (d.block k hk)⟩
  have y:Hid (∀w4,Bl w w4->w4.cell? ⟨h,0,none⟩=some (.slice A0 n E)/\w4.cell? ⟨h,1,none⟩=some (.slice Ae zs.length ce)/\w4.cell? ⟨h,2,none⟩=some (.slice (some ⟨gc,oc,none⟩) (prodN D n) cc)/\w4.frozen? ⟨h,1,none⟩=false/\w4.frozen? ⟨h,2,none⟩=false/\h<w4.heap.size):=fun w4 m=>by
   have k:=(m.block h hh).trans j;exact⟨(Lib.cell_of_heap k 0).trans rfl,(Lib.cell_of_heap k 1).trans rfl,(Lib.cell_of_heap k 2).trans rfl,Lib.frozen_of_heap k 1,Lib.frozen_of_heap k 2,zW hh m.size⟩
  generalize caL D n (doL D n l (lD ys))=CL2 at x i;generalize wrTo D n (caL D n l) (lD ys) (lD ys).length=CL1 at I x;generalize caL D n l=CL0 at ag I;generalize prodN D n=N at ag I x i y c2;generalize doN D n l (lD ys)=NN at x|-;generalize doL D n l (lD ys)=l2 at i|-;generalize (editsV D n l (lD ys)).1=ev at f i;generalize (editsV D n l (lD ys)).2.1=ek at f;generalize zs.length=zl at c1 Q f y;generalize ys.length=yl at f I x|-;clear H HH F hr K U j an ax aw X hM ah hC hE V aB ao hX P O W am az ap
  go_enter func9,ntmps9
  go_wp2_with fail
  go_cut [6,7,8]from 12 (fun s6 s7 s8 wx=>s8=.nilIface/\∃B c us,s6=.slice B us.length c/\bU wx B c us/\lE us=ev/\eU w.heap.size B/\dQ w.heap.size us/\Bl w wx)
  case first =>
   go_region_held3 (fun w'=>Bl w w'/\w'.cell? ⟨h,0,none⟩=some (.slice A0 n E)/\w'.cell? ⟨h,1,none⟩=some (.slice Ae zl ce))
    ((refine IF Q.o ?_;go_grown;done))
    (first
     |(go_at_call 30;refine(f.o _ γ).mono ?_;rintro e wa⟨⟨Ba,ca,us,rfl,aE,aH,aI,aG⟩,L⟩;have aj:=ad (W0:=w) γ L;have aD:=aj.size;clear L))
   all_goals go_wp2_with fail
   all_goals go_meet
   all_goals exact⟨rfl,_,_,us,rfl,aE.later γ,aH,aI,aG,by go_grown⟩
  case rest =>
  obtain⟨rfl,B,c,us,rfl,T,aA,Y,Z,t⟩:=hcut;obtain⟨w1,rfl⟩:∃wd:World,wd=wc:=⟨_,rfl⟩;have R:Hid (bU w1 B c us/\lE us=ev/\eU w.heap.size B/\dQ w.heap.size us):=⟨T,aA,Y,Z⟩;have r:=aa t;obtain⟨x0,x1,x2,-,-,aK⟩:=y.o w1 t;have h1:=ag.o w1 t;clear T aA Y Z t c0 c1 c2;go_wp2_with fail;refine h1.mono ?_;rintro e w2⟨⟨gC,a,rfl,M,q,o,p⟩,u⟩;have aJ:=aa u;obtain⟨y0,-,-,-,-,aL⟩:=y.o w2 (ad r.o u);have h2:=I.o w1 w2 gC a r.o u M p q;clear x0 x1 x2 u h1 p;go_wp2_with fail;refine h2.mono ?_;rintro e w3⟨rfl,aq,al⟩;obtain⟨z0,-,-,-,-,aM⟩:=y.o w3 (ad r.o al);have h3:=x.o w1 w3 gC a r.o al M aq q o;clear y0 al aq h2;go_wp2_with fail;refine h3.mono ?_;rintro e w4⟨rfl,ar,d⟩;obtain⟨-,v1,v2,f1,f2,aN⟩:=y.o w4 (ad r.o d);have G:=aa (i.o w4 B c us gC a (R.o.1.later d) R.o.2.1 R.o.2.2.1 R.o.2.2.2 (ad r.o d) (zV r.o.size M) ar q o);clear z0 d ar h3;go_wp2_with fail;go_returns;obtain⟨⟨S',ai,ak⟩,hK⟩:=G.o;exact⟨⟨S',rfl,ai,ak⟩,hK⟩
 have W:doL D n l (lD ys)=l:=by unfold doL;rw[if_neg P]
 have ay:doN D n l (lD ys)=0:=by unfold doN;rw[if_neg P]
 rw[W,ay,ac P];rw[ac P]at f;have i:Hid (∀w',Bl w w'->(∃S',HV w' h S' D n l/\∀b,S' b->S b\/w.heap.size<=b)/\Kept w.heap.size (fun b=>b=h) w w'):=fun w' s=>⟨⟨S,HH.o.keep s.size fun b m=>s.block b (F b m),fun b m=>Or.inl m⟩,aF s zT⟩
 generalize (editsV D n l (lD ys)).1=ev at f;generalize (editsV D n l (lD ys)).2.1=ek at f;generalize doE D n l (lD ys)=z at f;generalize zs.length=zl at c1 Q f;generalize ys.length=yl at f|-;clear H HH F hr K U j an ax aw X hM ah hC hE V aB ao hX P W ay
 go_enter func9,ntmps9
 go_wp2_with fail
 go_cut [6,7,8]from 12 (fun s6 s7 s8 wx=>s8=.iface 71 (.int .i64 z)/\Bl w wx)
 case first =>
  go_region_held3 (fun w'=>Bl w w'/\w'.cell? ⟨h,0,none⟩=some (.slice A0 n E)/\w'.cell? ⟨h,1,none⟩=some (.slice Ae zl ce))
   ((refine IF Q.o ?_;go_grown;done))
   (first
    |(go_at_call 30;refine(f.o _ γ).mono ?_;rintro e wa⟨⟨Ba,ca,us,rfl,-,-,-,-⟩,L⟩;have aj:=ad (W0:=w) γ L;have aD:=aj.size;clear L))
  all_goals go_wp2_with fail
  all_goals go_meet
  all_goals exact⟨rfl,by go_grown⟩
 case rest =>
 obtain⟨rfl,t⟩:=hcut;obtain⟨w1,rfl⟩:∃wd:World,wd=wc:=⟨_,rfl⟩;have G:=aa (i.o w1 t);clear t;go_wp2_with fail;go_returns;obtain⟨⟨S',ai,ak⟩,hK⟩:=G.o;exact⟨⟨S',rfl,ai,ak⟩,hK⟩
theorem Lv(h:Nat)(S:Nat->Prop)(D:Nat->Dm)(n:Nat)(l:List En)(Ax:Option Addr)(a:Nat)(ys:List EdL)(w:World)(H:HV w h S D n l)(f:oQ w Ax a ys):
  Calls prog 9 #[.pointer (some ⟨h,0,none⟩),.slice Ax ys.length a] w fun e w'=>(∃S',e=.returned (.tuple #[.int .i64 (doN D n l (lD ys):Nat),errV (doE D n l (lD ys))])/\HV w' h S' D n (doL D n l (lD ys))/\∀b,S' b->S b\/w.heap.size<=b)/\Kept w.heap.size S w w' :=
 (It h S D n l Ax a ys w H f).mono fun _ _ ⟨c,d⟩=>⟨c,d.wide fun k e=>by rw[e];exact H.2.2.1⟩
theorem No:HallC HV where
 keep:=fun H c a=>H.keep c a
 inS:=fun H b a=>H.1 b a
 right:=fun H=>H.2.1
 bad:=Is
 new:=Iu
 edit:=Lv
 cells:=AA
 entries:=uq
end Go.Proofs.YtjfampgnhccodaaGreatDoor
namespace Go.Proofs.YtjfampgnhccodaaGreatDoor
open Tryz ChangeShapes WideShapes ChangeAt RowKit Lib Go Deep
set_option maxRecDepth 99999
set_option maxHeartbeats 0
theorem IG{D:Nat->Dm}{n:Nat}{l:List En}{c:Chg}(h:mM D n l c=0):cuErr (zj D c) n (GA D n l c)=0:=by
 have u:GA D n l c=El l c.dim.toNat c:=if_pos h;have o:=fun(k i:Nat) (nm:ByteArray) (ac ab:Int) (g:k<n) (s:i<(D k).n) (h':mM D n l ⟨5,k,i,nm,ac,ab⟩=0)=>JO g s h'
 have w:=h;unfold mM at h
 by_cases e:cuErr D n l=0
 case neg=>rw[if_pos e]at h;exact absurd h e
 rw[if_neg (by simpa using e)]at h
 by_cases v:c.dim<0\/(n:Int)<=c.dim
 ·rw[if_pos v]at h
  cases h
 rw[if_neg v]at h;obtain⟨aa,dim,mb,name,ac,ab⟩:=c;simp only at h v u w;obtain⟨k,rfl⟩:∃k:Nat,dim=k:=⟨dim.toNat,ω⟩
 have g:k<n:=ω;simp only[Int.toNat_natCast]at h u
 by_cases a:cgE (D k) l k ⟨aa,k,mb,name,ac,ab⟩=0
 case neg=>rw[if_pos a]at h;exact absurd h a
 rw[if_neg (by simpa using a)]at h
 obtain⟨I,b⟩:=iC e;have d:=(iT h).1;have A:zj D ⟨aa,k,mb,name,ac,ab⟩=bN D k (nZ (D k) ⟨aa,k,mb,name,ac,ab⟩):=by
  unfold zj;simp only[Int.toNat_natCast]
 rw[A,u];unfold cuErr;rw[if_neg (by simpa using h)]
 refine Ens.ok ?_;unfold cgE at a;simp only at a
 by_cases t:aa=1
 ·subst t
  rw[if_pos rfl]at a;have p:ju l k ac=false:=by
   unfold oR at a
   by_cases f:(am (dA (D k) (newM ⟨1,k,mb,name,ac,ab⟩))).2=0
   ·rw[if_neg (by simpa using f)]at a
    cases p:ju l k ac
    ·rfl
    rw[if_pos (show ju l k (newM ⟨1,k,mb,name,ac,ab⟩).parent=true from p)]at a
    cases a
   rw[if_pos f]at a;exact absurd a f
  exact Li (m:=newM ⟨1,k,mb,name,ac,ab⟩) b g d p
 rw[if_neg t]at a
 by_cases C:mb<0\/((D k).n:Int)<=mb
 ·rw[if_pos C]at a
  cases a
 rw[if_neg C]at a;obtain⟨i,rfl⟩:∃i:Nat,mb=i:=⟨mb.toNat,ω⟩
 have s:i<(D k).n:=ω;simp only[Int.toNat_natCast]at a;have B:nZ (D k) ⟨aa,k,i,name,ac,ab⟩=if aa=2 then eR (D k) i else if aa=3 then kC (D k) i name else if aa=4 then fB (D k) i ac else fj (D k) i ab:=by
  unfold nZ;rw[if_neg t];simp only[Int.toNat_natCast]
 have G:El l k ⟨aa,k,i,name,ac,ab⟩=if aa=2 then mt l k (i:Int)else l:=by
  unfold El;simp only[Int.toNat_natCast]
 rw[B]at d|-;rw[G]
 by_cases r:aa=2
 ·rw[if_pos r]at a d|-
  rw[if_pos r];refine Lj b g s d fun j F H=>?_
  unfold nE at a
  split at a
  ·cases a
  rename_i h9
  exact h9 (Or.inr (bJ (q:=fun j=>decide (((D k).mem j).parent=(i:Int))) (n:=(D k).n) (i:=j) F (decide_eq_true H)))
 rw[if_neg r]at a d|-;rw[if_neg r]
 by_cases x:aa=3
 ·rw[if_pos x]at d|-
  exact zH b d
 rw[if_neg x]at a d|-
 by_cases y:aa=4
 ·rw[if_pos y]at a d|-
  refine H8 b d ?_;unfold kN at a
  split at a
  ·cases a
  split at a
  ·cases a
  rename_i h9
  cases p:ju l k ac
  ·rfl
  exact absurd (Or.inr (Or.inl p)) h9
 rw[if_neg y]at a d|-
 by_cases z:aa=5
 ·subst z
  have E:=(o k i name ac ab g s w).2.1;rw[A,B]at E;exact(iC E).2
 rw[if_neg z]at a;cases a
def noCg:Chg:=⟨0,0,0,⟨#[]⟩,0,0⟩
def DX(w:World)(A:Option Addr)(cap:Nat)(L:List Chg):Prop:=L.length<=cap/\cap<=9223372036854775807/\(L=[]\/∃b o,A=some ⟨b,o,none⟩/\b<w.heap.size/\∀k,k<L.length->w.cell? ⟨b,o+k*6,none⟩=some (.int .i64 (L.getD k noCg).what)/\w.cell? ⟨b,o+k*6+1,none⟩=some (.int .i64 (L.getD k noCg).dim)/\w.cell? ⟨b,o+k*6+2,none⟩=some (.int .i64 (L.getD k noCg).mb)/\w.cell? ⟨b,o+k*6+3,none⟩=some (.string (L.getD k noCg).name)/\w.cell? ⟨b,o+k*6+4,none⟩=some (.int .i64 (L.getD k noCg).tgt)/\w.cell? ⟨b,o+k*6+5,none⟩=some (.int .i64 (L.getD k noCg).sign))
theorem DX.later{w w':World}{A:Option Addr}{cap:Nat}{L:List Chg}(h:DX w A cap L)(a:Bl w w'):DX w' A cap L:=by
 obtain⟨e,d,c|⟨b,o,c,f,g⟩⟩:=h
 ·exact⟨e,d,Or.inl c⟩
 refine⟨e,d,Or.inr ⟨b,o,c,zW f a.size,fun k i=>?_⟩⟩
 obtain⟨j,l,m,n,p,q⟩:=g k i;exact⟨a8 j a,a8 l a,a8 m a,a8 n a,a8 p a,a8 q a⟩
section
variable {w:World} {h T:Nat} {fr:Nat×Nat} {v:Value} {Az:Option Addr} {nz cz:Nat} (k:w.heap[h]?=some (.cells #[.slice Az nz cz] T fr))
include k
theorem IT{A:Option Addr}{c n:Nat}{M:Nat->Mem}(m:dC w A c n M):dC (w.setCell ⟨h,0,none⟩ v) A c n M:=by
 obtain⟨f,d|⟨b,o,d,j,l⟩⟩:=m
 ·exact⟨f,Or.inl d⟩
 refine⟨f,Or.inr ⟨b,o,d,by rw[lQ];exact j,fun i p=>?_⟩⟩
 obtain⟨g,q,r,s⟩:=l i p;have a:b≠h:=uc k g (Or.inr (by intro e;cases e))
 exact⟨eY g a,eY q a,eY r a,eY s a⟩
theorem wE{A0:Option Addr}{cap n:Nat}{D:Nat->Dm}{A:Nat->Option Addr}{C:Nat->Nat}(l:aL w A0 cap n D A C):aL (w.setCell ⟨h,0,none⟩ v) A0 cap n D A C:=by
 obtain⟨d,a|⟨b,o,a,g,j⟩⟩:=l
 ·exact⟨d,Or.inl a⟩
 refine⟨d,Or.inr ⟨b,o,a,by rw[lQ];exact g,fun i m=>?_⟩⟩
 obtain⟨f,p,q,r⟩:=j i m;have c:b≠h:=uc k f (Or.inr (by intro e;cases e))
 exact⟨eY f c,eY p c,eY q c,IT k r⟩
theorem wL{A:Option Addr}{c:Nat}{xs:List EnL}(n:bU w A c xs):bU (w.setCell ⟨h,0,none⟩ v) A c xs:=by
 obtain⟨g,f,i|⟨b,o,i,a⟩⟩:=n
 ·exact⟨g,f,Or.inl i⟩
 rcases Nat.eq_zero_or_pos xs.length with e|e
 ·exact⟨g,f,Or.inl (List.length_eq_zero_iff.1 e)⟩
 have p:b≠h:=uc k (a.at e).2 (Or.inl ω)
 obtain⟨a,l,m⟩:=a;refine⟨g,f,Or.inr ⟨b,o,i,by rw[lQ];exact a,fun j u d=>eY (l j u d) p,fun x q=>?_⟩⟩
 obtain⟨p1,p2|⟨b',o',p2,p3,p4⟩⟩:=m x q
 ·exact⟨p1,Or.inl p2⟩
 exact⟨p1,Or.inr ⟨b',o',p2,by rw[lQ];exact p3,fun j d=>eY (p4 j d) (uc k (p4 j d) (Or.inr (by intro e;cases e)))⟩⟩
end
def rY(w:World)(A:Option Addr)(n c:Nat)(AE:Option Addr)(xl ce:Nat):Prop := ∃D Am Cm xs,aL w A c n D Am Cm/\xs.length=xl/\bU w AE ce xs
def mF(w:World)(A:Option Addr)(n c:Nat)(AE:Option Addr)(xl ce:Nat):Prop := ∃D Am Cm xs,aL w A c n D Am Cm/\xs.length=xl/\bU w AE ce xs/\cuErr D n (lE xs)=0
theorem mF.cub{w:World}{A:Option Addr}{n c:Nat}{AE:Option Addr}{a ce:Nat}(h:mF w A n c AE a ce):rY w A n c AE a ce:=by
 obtain⟨D,Am,Cm,xs,b,d,e,-⟩:=h;exact⟨D,Am,Cm,xs,b,d,e⟩
theorem rY.later{w w':World}{A:Option Addr}{n c:Nat}{AE:Option Addr}{b ce:Nat}(h:rY w A n c AE b ce)(a:Bl w w'):rY w' A n c AE b ce:=by
 obtain⟨D,Am,Cm,xs,d,e,f⟩:=h;exact⟨D,Am,Cm,xs,d.later a,e,f.later a⟩
theorem mF.later{w w':World}{A:Option Addr}{n c:Nat}{AE:Option Addr}{b ce:Nat}(h:mF w A n c AE b ce)(a:Bl w w'):mF w' A n c AE b ce:=by
 obtain⟨D,Am,Cm,xs,d,e,f,g⟩:=h;exact⟨D,Am,Cm,xs,d.later a,e,f.later a,g⟩
theorem mF.box{w:World}{h T:Nat}{fr:Nat×Nat}{v:Value}{Az:Option Addr}{nz cz:Nat}(k:w.heap[h]?=some (.cells #[.slice Az nz cz] T fr)){A:Option Addr}{n c:Nat}{AE:Option Addr}{a ce:Nat}(g:mF w A n c AE a ce):mF (w.setCell ⟨h,0,none⟩ v) A n c AE a ce:=by
 obtain⟨D,Am,Cm,xs,b,d,e,f⟩:=g;exact⟨D,Am,Cm,xs,wE k b,d,wL k e,f⟩
theorem rY.box{w:World}{h T:Nat}{fr:Nat×Nat}{v:Value}{Az:Option Addr}{nz cz:Nat}(k:w.heap[h]?=some (.cells #[.slice Az nz cz] T fr)){A:Option Addr}{n c:Nat}{AE:Option Addr}{a ce:Nat}(f:rY w A n c AE a ce):rY (w.setCell ⟨h,0,none⟩ v) A n c AE a ce:=by
 obtain⟨D,Am,Cm,xs,b,d,e⟩:=f;exact⟨D,Am,Cm,xs,wE k b,d,wL k e⟩
theorem Nj{w:World}{A:Option Addr}{n c:Nat}{AE:Option Addr}{g ce:Nat}(d:Chg)(h:rY w A n c AE g ce)(m:kz w):Calls prog 5 #[.agg #[.slice A n c],.slice AE g ce,kA d] w fun e w'=>(∃A' n' b aa zl a E,e=.returned (.tuple #[.agg #[.slice A' n' b],.slice aa zl a,errV E])/\(E=0->mF w' A' n' b aa zl a))/\Bl w w':=by
 obtain⟨D,Am,Cm,xs,i,rfl,j⟩:=h;refine(Ni A c n D Am Cm AE ce xs d w i j m).mono ?_;rintro e w'⟨⟨A',b,Am',Cm',aa,a,ys,rfl,k,l,p⟩,o⟩;refine⟨⟨A',_,b,aa,_,a,mM D n (lE xs) d,rfl,fun f=>⟨_,Am',Cm',ys,k,rfl,l,?_⟩⟩,o⟩
 rw[p,show Oc D n (lE xs) d=n from if_pos f]
 exact IG f
def edX(xs:List EnL):List EdL:=xs.map fun x=>⟨edOf x.e,x.A,x.c⟩
theorem lN(xs:List EnL):(edX xs).length=xs.length:=by simp[edX]
theorem Nl(xs:List EnL):lD (edX xs)=(lE xs).map edOf:=by simp[lD,edX,lE,Function.comp_def]
theorem Hs(xs:List EnL){k:Nat}(a:k<xs.length):(edX xs).take (k+1)=(edX xs).take k++[⟨edOf (xs.getD k noL).e,(xs.getD k noL).A,(xs.getD k noL).c⟩]:=by
 rw[List.take_succ_eq_append_getElem (by rw[lN];exact a)]
 simp[edX,zX a]
theorem Hw{w:World}{base:Nat}{v:Value}{ys:List EdL}(h:w.ownsRow base 47 3 v ys.length (dS ys))(l:∀y∈ys,de w y.A y.c y.x.pl):∃A c,v=.slice A ys.length c/\oQ w A c ys:=by
 rcases h.2 with⟨rfl,b⟩|⟨g,cap,d,rfl,p,f,e,i,_,_⟩
 ·refine⟨none,0,by rw[b],ω,by decide,Or.inl (List.eq_nil_of_length_eq_zero b)⟩
 refine⟨_,cap,rfl,e,by unfold maxLen at i;omega,Or.inr ⟨g,0,rfl,(zY f).1,fun k a=>?_⟩⟩
 obtain⟨m,n,o⟩:=Eh ys k a;have y:=fun j u=>h.cells (g:=g) rfl j u
 simp only[aW]at y;refine⟨y _ _ m,?_,?_,?_⟩
 ·rw[Nat.add_assoc];exact y _ _ n
 ·rw[Nat.add_assoc];exact y _ _ o
 refine l _ ?_;rw[zZ,zX a];exact List.getElem_mem a
theorem Nm{w:World}{A:Option Addr}{c:Nat}{xs:List EnL}(h:bU w A c xs):∀y∈edX xs,de w y.A y.c y.x.pl:=fun y d=>by
 unfold edX at d;obtain⟨x,a,rfl⟩:=List.mem_map.1 d;obtain⟨-,-,e|⟨b,o,-,f⟩⟩:=h
 ·rw[e]at a;cases a
 exact f.2.2 x a
theorem Jh{W:World}{x y z:Value}{T:Nat}:∀j u,[x,y,z][j]?=some u->(W.alloc (.cells #[x,y,z] T)).cell? ((⟨W.heap.size,0,none⟩:Addr).add j)=some u:=by
 intro j u a;rw[aW,Lib.cell_of_heap (heap_alloc_new W (.cells #[x,y,z] T))]
 simpa using a
theorem Gt{v1 wr X w6:World}{v:Value}{k:Nat}{cs:List Value}(d:Bl wr X)(b:wr.ownsRow v1.heap.size 47 3 v k cs)(c:Bl v1 wr)(a:X.grownBy w6 v.ownBlock):Bl v1 w6:=(ad c d).grown a (ad c d).size fun j e=>(b.lt j e).1
noncomputable def runL(S:RdQ)(i:Nat):List ByteArray->Option RdQ
 | []=>some S
 |x :: r=>if(rdLine S i (wdsB x)).2=true then runL (rdLine S i (wdsB x)).1 (i+1) r else none
theorem rD:∀(A B:List ByteArray) (S S1:RdQ) (i:Nat),runL S i A=some S1->runL S i (A++B)=runL S1 (i+A.length) B
 | [],B,S,S1,i,h=>by
  rw[runL]at h;cases h
  rfl
 |x :: r,B,S,S1,i,h=>by
  rw[runL]at h
  split at h
  ·rename_i h1
   rw[List.cons_append,runL,if_pos h1,rD r B _ S1 (i+1) h,List.length_cons,show i+(r.length+1)=i+1+r.length by omega]
  cases h
theorem JV(L:List ByteArray):∀(X tl:List ByteArray) (k:Nat) (S':RdQ),L.drop k=X++tl->runL (cH L k) k X=some S'->cH L (k+X.length)=S'/\∀j,k<=j->j<k+X.length->oW L j=true
 | [],tl,k,S',_,h=>by
  rw[runL]at h;cases h;exact⟨rfl,fun j a b=>by simp at b;omega⟩
 |x :: r,tl,k,S',hd,h=>by
  have g:k<L.length:=by
   rcases Nat.lt_or_ge k L.length with a|a
   ·exact a
   rw[List.drop_eq_nil_of_le a]at hd;cases hd
  rw[List.drop_eq_getElem_cons g]at hd;obtain⟨l,m⟩:=List.cons.inj hd;have i:L.getD k noWd=x:=by rw[zZ,zX g];exact l
  rw[runL]at h
  split at h
  ·rename_i a
   have d:oW L k=true:=by unfold oW;rw[i];exact a
   have f:cH L (k+1)=(rdLine (cH L k) k (wdsB x)).1:=by rw[iQ,i]
   rw[←f]at h;obtain⟨b,n⟩:=JV L r tl (k+1) S' m h;refine⟨by rw[List.length_cons,show k+(r.length+1)=k+1+r.length by omega];exact b,fun j o c=>?_⟩
   by_cases e:j=k
   ·subst e;exact d
   exact n j ω (by simp at c;omega)
  cases h
theorem rr(L:List ByteArray):∀f k,(∀j,k<=j->j<k+f->oW L j=true)->(wdB L (k+f)).size=0->rdEnd L f k=none
 | 0,k,_,h=>by rw[rdEnd];exact if_pos h
 |f+1,k,h1,h2=>by
  rw[rdEnd,if_pos (h1 k zT ω)]
  exact rr L f (k+1) (fun j b a=>h1 j ω ω) (by rw[show k+1+f=k+(f+1) by omega];exact h2)
theorem sW:∀X:List (List UInt8),(∀x∈X,(10:UInt8)∉x)->cutB 10 (kE X)=X++[[]]
 | [],_=>rfl
 |x :: r,h=>by
  have e:kE (x :: r)=x++10 :: kE r:=by simp[kE]
  rw[e,eG (h x (List.mem_cons_self ..)),sW r fun y a=>h y (List.mem_cons_of_mem _ a)]
  rfl
theorem JW(X:List (List UInt8))(S:RdQ)(e:∀x∈X,(10:UInt8)∉x)(h:runL yk 0 (X.map dL)=some S):g8 (dL (kE X))=S/\gJ (piecesC 10 (dL (kE X)))=none:=by
 have c:piecesC 10 (dL (kE X))=X.map dL++[noWd]:=by
  rw[pB,mkB_data,sW X e,List.map_append]
  rfl
 have d:(X.map dL++[noWd]).length-1=(X.map dL).length:=by simp
 obtain⟨a,b⟩:=JV (X.map dL++[noWd]) (X.map dL) [noWd] 0 S rfl h;rw[Nat.zero_add]at a b;refine⟨?_,?_⟩
 ·unfold g8
  rw[c,d];exact a
 unfold gJ;rw[c,d];refine rr _ _ 0 (fun j _ f=>b j zU ω) ?_
 rw[Nat.zero_add];have:wdB (X.map dL++[noWd]) (X.map dL).length=noWd:=by simp[wdB]
 rw[this]
 rfl
theorem qu{v:Int}(b : -10000000<v)(c:v<10000000):f8 (dL (Lib.itoa v))=true/\intI (dL (Lib.itoa v))=v:=by
 have h:qO 7 (dL (Lib.itoa v)).data.toList=some v:=by
  rw[mkB_data];have a:(Lib.trimPrefix (Lib.itoa v) [45]).length<=7:=by rw[kw];exact ji _ 7 ω ω
  rw[Dv a];exact Fq v ω ω
 unfold f8 intI;rw[h];exact⟨rfl,rfl⟩
theorem tX{a b c:List UInt8}(d:(32:UInt8)∉a)(f:(32:UInt8)∉b)(g:(32:UInt8)∉c):wdsB (dL (a++[32]++b++[32]++c))=[dL a,dL b,dL c]:=by
 unfold wdsB;rw[pB,mkB_data];have e:a++[32]++b++[32]++c=a++32 :: (b++32 :: c):=by simp
 rw[e,eG d,eG f,lG g]
 rfl
theorem KD{a b c d:List UInt8}(f:(32:UInt8)∉a)(g:(32:UInt8)∉b)(h:(32:UInt8)∉c)(i:(32:UInt8)∉d):wdsB (dL (a++[32]++b++[32]++c++[32]++d))=[dL a,dL b,dL c,dL d]:=by
 unfold wdsB;rw[pB,mkB_data];have e:a++[32]++b++[32]++c++[32]++d=a++32 :: (b++32 :: (c++32 :: d)):=by simp
 rw[e,eG f,eG g,eG h,lG i]
 rfl
theorem k9(l:List UInt8):gG (dL l) l=true:=by rw[Di,mkB_data];exact decide_eq_true rfl
def OT(s:ByteArray):Prop:=nmW s=true/\∀c∈s.data.toList,c≠10/\c≠32
structure MbG(m:Mem):Prop where
 name:OT m.name
 lo : -1<=m.parent
 hi:m.parent<=12
 sign:m.sign = -1\/m.sign=0\/m.sign=1
 form:∀c∈m.formula.data.toList,c≠10/\c≠32
structure DmG(d:RDm):Prop where
 name:OT d.name
 lo:0<=d.solve
 hi:d.solve<=9
 mems:∀m∈d.mem,MbG m
theorem Fm{l:List UInt8}(h:∀c∈l,c≠10/\c≠32):(32:UInt8)∉l:=fun a=>(h 32 a).2 rfl
theorem xE{l:List UInt8}(h:∀c∈l,c≠10/\c≠32):(10:UInt8)∉l:=fun a=>(h 10 a).1 rfl
theorem OF{p:Int}(i : -1<=p)(j:p<=12):paOk (dL (rU p))=true/\KM (dL (rU p))=p:=by
 unfold rU
 by_cases a:0<=p
 ·rw[if_pos a]
  obtain⟨f,g⟩:=qu (v:=p) ω ω
  have e:gG (dL (Lib.itoa p)) [45]=false:=by
   cases h:gG (dL (Lib.itoa p)) [45]with
   |false=>rfl
   |true =>
    have b:=IA h;rw[mkB_data]at b;have c:=sH p;have d:Lib.atoi [45]=none:=by decide
    rw[b,d]at c;cases c
  unfold paOk KM;rw[e,f,g];exact⟨by simp[a],rfl⟩
 rw[if_neg a];have:p = -1:=ω;subst this;exact⟨by unfold paOk;rw[k9];rfl,by unfold KM;rw[if_pos (k9 _)]⟩
theorem OJ{x:Int}{f:ByteArray}(p:x = -1\/x=0\/x=1):sgOk (dL (rV x++lu f))=true/\sgI (dL (rV x++lu f))=x/\foS (dL (rV x++lu f))=f:=by
 obtain⟨a,i,j,o⟩:∃a,rV x=[a]/\s3 a=true/\(if a=43 then(1:Int)else if a=45 then -1 else 0)=x:=by
  rcases p with rfl|rfl|rfl
  ·exact⟨45,rfl,rfl,rfl⟩
  ·exact⟨126,rfl,rfl,rfl⟩
  exact⟨43,rfl,rfl,rfl⟩
 have e:sgOk (dL (rV x++lu f))=true:=by
  rw[nK,mkB_data,i];unfold lu
  split
  ·exact j
  rename_i b
  rw[ByteArray.toList_eq]at b;cases g:f.data.toList with
  |nil=>rw[g]at b;exact absurd rfl b
  |cons c r=>simp only[List.singleton_append,sgL,j];rfl
 refine⟨e,?_⟩;obtain⟨a',r,g,n,b⟩:=J0 e;rw[mkB_data,i]at g;obtain⟨k,d⟩:=List.cons.inj g;subst k;refine⟨n.trans o,?_⟩;unfold lu at d
 rcases b with⟨rfl,b⟩|⟨⟨c,t,rfl⟩,b⟩
 ·rw[b]
  split at d
  ·rename_i h5
   rw[ByteArray.toList_eq]at h5;have:f.data.toList=[]:=by simpa using h5
   rw[←gI f,this]
   rfl
  cases d
 split at d
 ·cases d
 have h:f.data.toList=c :: t:=(List.cons.inj d).2;refine b.trans ?_;have l:((dL (rV x++lu f)).extract 2 (dL (rV x++lu f)).size).data.toList=c :: t:=by
  rw[Lib.extract_to_end,mkB_data,i];unfold lu;rw[if_neg (by rw[ByteArray.toList_eq,h];simp),h]
  rfl
 have m:dL (c :: t)=f:=by rw[←h];exact gI f
 refine Eq.trans ?_ m;rw[←l];exact(gI _).symm
theorem Kc(a:List RDm)(d:RDm)(i:Nat)(h:DmG d):rdLine ⟨a,[],[],0⟩ i (wdsB (dL (Ev d)))=(⟨a++[⟨d.name,d.solve,[]⟩],[],[],0⟩,true):=by
 have f:wdsB (dL (Ev d))=[dL [100,105,109],d.name,dL (Lib.itoa d.solve)]:=by
  have:=tX (a:=[100,105,109]) (b:=d.name.data.toList) (c:=Lib.itoa d.solve) (by decide) (Fm h.name.2) (Fm (lZ _))
  rw[gI]at this;rw[←this]
  rfl
 have k:=h.lo;have o:=h.hi;obtain⟨m,g⟩:=qu (v:=d.solve) ω ω
 have l:bR (wdsB (dL (Ev d)))=1:=by rw[f];unfold bR;rw[if_pos ⟨k9 _,rfl⟩]
 obtain⟨j,n⟩:=BS (S:=⟨a,[],[],0⟩) (i:=i) l;have e:=n rfl;rw[f]at j e|-;refine Prod.ext ?_ ?_
 ·rw[e]
  show(⟨a++[⟨d.name,intI (dL (Lib.itoa d.solve)),[]⟩],[],[],0⟩:RdQ)=_
  rw[g]
 rw[j]
 show(cntB (dL (Lib.itoa d.solve))&&nmW d.name&&decide (0=0))=true
 unfold cntB;rw[m,g,h.name.1,decide_eq_true k]
 rfl
theorem Kd(a:List RDm)(nm:ByteArray)(sv:Int)(ms:List Mem)(m:Mem)(i:Nat)(h:MbG m):rdLine ⟨a++[⟨nm,sv,ms⟩],[],[],0⟩ i (wdsB (dL (xx m)))=(⟨a++[⟨nm,sv,ms++[m]⟩],[],[],0⟩,true):=by
 have j:wdsB (dL (xx m))=[dL [109,101,109],m.name,dL (rU m.parent),dL (rV m.sign++lu m.formula)]:=by
  have g:(32:UInt8)∉rV m.sign++lu m.formula:=fun p=>by
   rcases List.mem_append.1 p with h1|h1
   ·exact(J1 _ _ h1).2 rfl
   exact(Ik h.form _ h1).2 rfl
  have:=KD (a:=[109,101,109]) (b:=m.name.data.toList) (c:=rU m.parent) (d:=rV m.sign++lu m.formula) (by decide) (Fm h.name.2) (Fm (Ju _)) g
  rw[gI]at this;rw[←this];unfold xx;simp only[List.append_assoc,List.cons_append,List.nil_append]
 obtain⟨p1,p2⟩:=OF h.lo h.hi;obtain⟨s1,s2,aa⟩:=OJ (f:=m.formula) h.sign;have o:bR (wdsB (dL (xx m)))=2:=by
  rw[j];unfold bR;rw[if_neg (fun n=>by simp at n),if_pos ⟨k9 _,rfl⟩]
 obtain⟨k,l⟩:=BT (S:=⟨a++[⟨nm,sv,ms⟩],[],[],0⟩) (i:=i) o;rw[j]at k l|-;have e:gW ⟨a++[⟨nm,sv,ms⟩],[],[],0⟩ m.name (dL (rU m.parent)) (dL (rV m.sign++lu m.formula))=true:=by
  unfold gW;rw[p1,s1,h.name.1]
  simp
 refine Prod.ext ?_ (k.trans e);rw[l e]
 show kH _ ⟨m.name,KM (dL (rU m.parent)),sgI (dL (rV m.sign++lu m.formula)),foS (dL (rV m.sign++lu m.formula))⟩=_
 rw[p2,s2,aa];unfold kH;simp only[D2]
theorem Kb(ds:List RDm)(pl:List ByteArray)(aa:List Int)(f:Nat)(p:ByteArray)(x:Int)(i:Nat)(o:(piecesC 46 p).all nmW=true)(h:∀c∈p.data.toList,c≠10/\c≠32)(l : -10000000<x)(m:x<10000000):∃f',rdLine ⟨ds,pl,aa,f⟩ i (wdsB (dL (Ee p x)))=(⟨ds,pl++[p],aa++[x],f'⟩,true):=by
 have j:wdsB (dL (Ee p x))=[dL [99,101,108,108],p,dL (Lib.itoa x)]:=by
  have:=tX (a:=[99,101,108,108]) (b:=p.data.toList) (c:=Lib.itoa x) (by decide) (Fm h) (Fm (lZ _))
  rw[gI]at this;rw[←this]
  rfl
 obtain⟨q,r⟩:=qu l m;have e:=gV (x:=dL [99,101,108,108]) (k9 _) (l':=[100,105,109]) (by decide)
 have g:=gV (x:=dL [99,101,108,108]) (k9 _) (l':=[109,101,109]) (by decide)
 have n:bR (wdsB (dL (Ee p x)))=3:=by
  rw[j];unfold bR;rw[if_neg,if_neg,if_pos ⟨k9 _,rfl⟩]
  ·rintro⟨d,-⟩
   exact absurd (g.symm.trans d) (by decide)
  rintro⟨d,-⟩;exact absurd (e.symm.trans d) (by decide)
 have k:=BR (S:=⟨ds,pl,aa,f⟩) (i:=i) n;rw[j]at k|-;refine⟨if pl.length=0 then i else f,k.trans (Prod.ext ?_ ?_)⟩
 ·show KU ⟨ds,pl,aa,f⟩ p (intI (dL (Lib.itoa x))) i=_
  rw[r]
  rfl
 show(f8 (dL (Lib.itoa x))&&(piecesC 46 p).all nmW)=true
 rw[q,o]
 rfl
theorem yy(a:List RDm)(nm:ByteArray)(sv:Int):∀(aa ms:List Mem) (i:Nat),(∀m∈aa,MbG m)->runL ⟨a++[⟨nm,sv,ms⟩],[],[],0⟩ i ((aa.map xx).map dL)=some ⟨a++[⟨nm,sv,ms++aa⟩],[],[],0⟩
 | [],ms,i,_=>by simp[runL]
 |m :: r,ms,i,h=>by
  rw[List.map_cons,List.map_cons,runL,Kd a nm sv ms m i (h m (List.mem_cons_self ..))];simp only[if_true];rw[yy a nm sv r (ms++[m]) (i+1) fun y b=>h y (List.mem_cons_of_mem _ b)]
  simp
theorem yx:∀(ds a:List RDm) (i:Nat),(∀d∈ds,DmG d)->runL ⟨a,[],[],0⟩ i ((ds.flatMap n8).map dL)=some ⟨a++ds,[],[],0⟩
 | [],a,i,_=>by simp[runL]
 |d :: r,a,i,h=>by
  have b:=h d (List.mem_cons_self ..);rw[List.flatMap_cons,List.map_append];have c:runL ⟨a,[],[],0⟩ i ((n8 d).map dL)=some ⟨a++[d],[],[],0⟩:=by
   unfold n8;rw[List.map_cons,runL,Kc a d i b];simp only[if_true];exact yy a d.name d.solve d.mem [] (i+1) b.mems
  rw[rD _ _ _ _ _ c,yx r (a++[d]) _ fun y e=>h y (List.mem_cons_of_mem _ e)]
  simp
theorem yu(ds:List RDm):∀(ac:List ByteArray) (aa:List Int) (pl:List ByteArray) (ab:List Int) (f i:Nat),aa.length=ac.length->(∀p∈ac,(piecesC 46 p).all nmW=true/\∀c∈p.data.toList,c≠10/\c≠32)->(∀x∈aa,-10000000<x/\x<10000000)->∃f',runL ⟨ds,pl,ab,f⟩ i ((celLs ac aa).map dL)=some ⟨ds,pl++ac,ab++aa,f'⟩
 | [],[],pl,ab,f,i,_,_,_=>⟨f,by simp[celLs,runL]⟩
 |_ :: _,[],_,_,_,_,h,_,_=>by cases h
 | [],_ :: _,_,_,_,_,h,_,_=>by cases h
 |p :: ps,x :: xs,pl,ab,f,i,h,h1,h2=>by
  obtain⟨e,a⟩:=Kb ds pl ab f p x i (h1 p (List.mem_cons_self ..)).1 (h1 p (List.mem_cons_self ..)).2 (h2 x (List.mem_cons_self ..)).1 (h2 x (List.mem_cons_self ..)).2;obtain⟨g,b⟩:=yu ds ps xs (pl++[p]) (ab++[x]) e (i+1) (by simpa using h) (fun y d=>h1 y (List.mem_cons_of_mem _ d)) fun y d=>h2 y (List.mem_cons_of_mem _ d)
  refine⟨g,?_⟩;rw[celLs,List.map_cons,runL,a];simp only[if_true];rw[b]
  simp
theorem uB{s:ByteArray}(h:nameErr s=0):OT s:=by
 obtain⟨m,n,i⟩:=qF h;refine⟨?_,Dr h⟩;unfold nmW;have f:s.data.toList.isEmpty=false:=by
  have:s.data.toList.length≠0:=by rw[←Lib.size_eq];omega
  cases hl:s.data.toList with
  |nil=>rw[hl]at this;exact absurd rfl this
  |cons a r=>rfl
 have g:s.data.toList.any badW=false:=by
  rw[List.any_eq_false];intro c k;obtain⟨j,e,l⟩:=List.getElem_of_mem k;have b:=i j (by simpa using e)
  unfold byteN at b;rw[zZ,zX e,l]at b;unfold badW;intro d;rw[Bool.or_eq_true,beq_iff_eq,beq_iff_eq]at d
  rcases d with rfl|rfl<;>exact absurd b (by decide)
 rw[f,g]
 rfl
theorem Ld{ds:List RDm}(h:(au (b7 ds) ds.length).2.2=0):∀d∈ds,DmG d:=by
 intro d v;obtain⟨i,o,w⟩:=List.getElem_of_mem v;have n:b7 ds i=kG d:=by unfold b7;rw[zZ,zX o,Option.getD_some,w]
 have f:=(aZ (dZ h).1).2 i o;have r:=Ew f;obtain⟨-,s,t⟩:=mU f;have l:=(aq f).2.2;rw[n]at f r s t l;refine⟨uB r,s,t,fun m x=>?_⟩
 obtain⟨j,p,q⟩:=List.getElem_of_mem x;have c:(kG d).mem j=m:=by show d.mem.getD j I4=m;rw[zZ,zX p,Option.getD_some,q]
 have u:=l.2 j p;have g:=l.1;have b:j<=12:=by have:d.mem.length<=12:=g;omega
 obtain⟨-,m1,m2,m3,m4,-⟩:=m9 u b;have a:=Lr h o (k:=j) (by rw[n];exact p)
 rw[n,c]at a;have e:=tu u;rw[c]at m1 m2 m3 m4 e;exact⟨uB e,m1,m2,ω,a⟩
theorem Me{D:Nat->Dm}{n:Nat}{L:List Int}(h:InO D n L):(piecesC 46 (dL (aY D L n))).all nmW=true/\∀c∈(dL (aY D L n)).data.toList,c≠10/\c≠32:=by
 have b:∀k,k<n->nameErr (fW D L k)=0:=fun k a=>by
  have g:=h.lo k a;have i:=h.hi k a;unfold fW;exact tu ((aq ((aZ h.right).2 k a)).2.2.2 _ ω)
 refine⟨?_,fun c e=>tR (fun k a=>Dr (b k a)) n zT c e⟩
 rw[pB,mkB_data,h.cut,List.all_eq_true];intro x f;obtain⟨y,d,rfl⟩:=List.mem_map.1 f;unfold nameL at d;obtain⟨k,a,rfl⟩:=List.mem_map.1 d;rw[gI];exact(uB (b k (List.mem_range.1 a))).1
theorem J5{D:Nat->Dm}{n:Nat}{l:List En}(h:shE D n l=0):(Oe D n l).length<=1048576:=by
 obtain⟨-,a⟩:=Cg h;obtain⟨p,f⟩:=aZ a.right;have g:n<=4:=(ao a.right).2.1;have k:=kg f n zT;have d:∀l':List En,(∀e∈l',InO D n e.pl/\dE e.n=true)->(fp D n l').length<=l'.length*300:=by
  intro l'
  induction l' with
  |nil=>intro _;simp[fp]
  |cons e r ih =>
   intro c;have j:=ih fun x i=>c x (List.mem_cons_of_mem _ i)
   obtain⟨j1,j2⟩:=c e (List.mem_cons_self ..);have q:=jt j1 n zT;unfold dE at j2;simp only[Bool.and_eq_true,decide_eq_true_eq]at j2;have s:=Lib.itoa_length_le e.n ω ω
   have t:(uf D n e).length<=300:=by
    unfold uf;simp only[List.length_append,List.length_cons,List.length_nil]
    omega
   unfold fp at j|-;rw[List.flatMap_cons,List.length_append,List.length_cons]
   omega
 have m:=d l fun e b=>⟨(a.each e b).1,(a.each e b).2.2⟩
 have o:=a.few;unfold Oe;rw[List.length_append]
 omega
theorem sP(D:Nat->Dm)(n:Nat):∀l:List En,fp D n l=kE (celLs (l.map fun e=>dL (aY D e.pl n)) (l.map En.n))
 | []=>rfl
 |e :: r=>by
  have a:=sP D n r;unfold fp at a|-;rw[List.flatMap_cons,a]
  rfl
theorem BL{ds:List RDm}{l:List En}(h:shE (b7 ds) ds.length l=0):(DO (b7 ds) ds.length l).size<=1048576/\GE (DO (b7 ds) ds.length l)=0/\tF (DO (b7 ds) ds.length l)=ds.length/\iq (DO (b7 ds) ds.length l)=b7 ds/\MZ (DO (b7 ds) ds.length l)=l:=by
 obtain⟨K,O⟩:=Cg h;have v:=Ld K;have q:∀e∈l,InO (b7 ds) ds.length e.pl/\dE e.n=true:=fun e t=>⟨(O.each e t).1,(O.each e t).2.2⟩
 obtain⟨pl,g⟩:=ar ((l.map fun e=>dL (aY (b7 ds) e.pl ds.length)))
 obtain⟨aa,b⟩:=ar (l.map En.n);have A:∀p∈pl,(piecesC 46 p).all nmW=true/\∀c∈p.data.toList,c≠10/\c≠32:=fun p P=>by
  rw[←g]at P;obtain⟨e,t,rfl⟩:=List.mem_map.1 P;exact Me (q e t).1
 have J:∀x∈aa,-10000000<x/\x<10000000:=fun x a=>by
  rw[←b]at a;obtain⟨e,t,rfl⟩:=List.mem_map.1 a;have:=(q e t).2;unfold dE at this;simp only[Bool.and_eq_true,decide_eq_true_eq]at this
  omega
 have o:aa.length=pl.length:=by rw[←b,←g];simp
 obtain⟨f',D⟩:=yu ds pl aa [] [] 0 (0+((ds.flatMap n8).map dL).length) o A J;have r:runL yk 0 ((NA ds pl aa).map dL)=some ⟨ds,pl,aa,f'⟩:=by
  unfold NA;rw[List.map_append];have H:=yx ds [] 0 v;rw[List.nil_append]at H;have u:=rD _ ((celLs pl aa).map dL) yk ⟨ds,[],[],0⟩ 0 H;rw[u,D]
  simp
 have a:∀x∈NA ds pl aa,(10:UInt8)∉x:=fun x a=>by
  unfold NA at a
  rcases List.mem_append.1 a with a|a
  ·obtain⟨d,R,a⟩:=List.mem_flatMap.1 a
   have G:=v d R;unfold n8 at a
   rcases List.mem_cons.1 a with rfl|a
   ·unfold Ev
    simp only[List.mem_append,not_or];exact⟨⟨⟨by decide,xE G.name.2⟩,by decide⟩,xE (lZ _)⟩
   obtain⟨m,U,rfl⟩:=List.mem_map.1 a;have y:=G.mems m U;unfold xx;simp only[List.mem_append,not_or];exact⟨⟨⟨⟨⟨⟨by decide,xE y.name.2⟩,by decide⟩,xE (Ju _)⟩,by decide⟩,xE (J1 _)⟩,xE (Ik y.form)⟩
  rw[nX pl aa o]at a;obtain⟨k,i,rfl⟩:=List.mem_map.1 a;have w:=List.mem_range.1 i;have G:=A (pl.getD k noWd) (by rw[zZ,zX w,Option.getD_some];exact List.getElem_mem w)
  unfold Ee;simp only[List.mem_append,not_or];exact⟨⟨⟨by decide,xE G.2⟩,by decide⟩,xE (lZ _)⟩
 have W:DO (b7 ds) ds.length l=dL (kE (NA ds pl aa)):=by
  unfold DO;rw[if_pos h];unfold Oe NA;rw[J4,dimsT_list,sP,g,b]
  rfl
 have L:=J5 h;obtain⟨s,f⟩:=JW (NA ds pl aa) ⟨ds,pl,aa,f'⟩ a r;rw[←W]at s f;generalize hT:DO (b7 ds) ds.length l=T at s f;have V:T.size<=1048576:=by
  rw[←hT];unfold DO;rw[if_pos h]
  show(List.toArray _).size<=_
  rw[List.size_toArray];exact L
 have E:iq T=b7 ds:=by unfold iq;rw[s]
 have F:tF T=ds.length:=by unfold tF;rw[s]
 have B:∀k,k<l.length->pl.getD k noWd=dL (aY (b7 ds) (l.getD k noEn).pl ds.length)/\aa.getD k 0=(l.getD k noEn).n/\InO (b7 ds) ds.length (l.getD k noEn).pl:=fun k i=>by
  refine⟨?_,?_,?_⟩
  ·rw[←g];simp[List.getD,i]
  ·rw[←b];simp[List.getD,i]
  refine(q _ ?_).1;rw[zZ,zX i,Option.getD_some];exact List.getElem_mem i
 have C:pl.length=l.length:=by rw[←g];simp
 have z:∀k,k<l.length->parseErr (b7 ds) ds.length (pl.getD k noWd)=0/\parseL (b7 ds) ds.length (pl.getD k noWd)=(l.getD k noEn).pl:=fun k i=>by
  obtain⟨X,-,Y⟩:=B k i;obtain⟨t1,t2⟩:=Gp Y;rw[X];refine⟨t1,?_⟩;unfold parseL;have M:parseErr (b7 ds) ds.length (dL (aY (b7 ds) (l.getD k noEn).pl ds.length))=0:=t1;rw[if_pos M];exact t2
 have N:MZ T=l:=by
  unfold MZ;rw[E,F,s];unfold GC
  show(List.range pl.length).map _=l
  rw[C];apply List.ext_getElem
  ·simp
  intro k H u;rw[List.getElem_map,List.getElem_range];unfold Hy
  show(⟨parseL _ _ (pl.getD k noWd),aa.getD k 0⟩:En)=_
  rw[(z k u).2,(B k u).2.1];rw[zZ,zX u,Option.getD_some]
 refine⟨V,?_,F,E,N⟩;unfold GE;rw[f]
 show BN T=0
 unfold BN;have Q:jB (iq T) (tF T) (g8 T) = -1:=by
  rw[E,F,s];unfold jB;refine aN fun j _ S=>?_
  have I:j<l.length:=by
   have:j<0+pl.length:=S
   omega
  unfold mK
  show decide (parseErr _ _ (pl.getD j noWd)≠0)=false
  rw[(z j I).1]
  rfl
 rw[Q,E,F,N,K,if_neg (by decide),if_neg (by decide)]
 unfold shE at h;rw[K,if_neg (by decide)]at h
 exact h
theorem LI{w:World}{A:Option Addr}{c n:Nat}{M M':Nat->Mem}(h:dC w A c n M)(i:∀k,k<n->M' k=M k):dC w A c n M':=by
 obtain⟨d,a|⟨b,o,a,f,g⟩⟩:=h
 ·exact⟨d,Or.inl a⟩
 exact⟨d,Or.inr ⟨b,o,a,f,fun j e=>by rw[i j e];exact g j e⟩⟩
theorem Lb{w:World}{A0:Option Addr}{cap n:Nat}{D D':Nat->Dm}{A:Nat->Option Addr}{C:Nat->Nat}(h:aL w A0 cap n D A C)(q:∀i,i<n->(D' i).name=(D i).name/\(D' i).solve=(D i).solve/\(D' i).n=(D i).n/\∀k,k<(D i).n->(D' i).mem k=(D i).mem k):aL w A0 cap n D' A C:=by
 obtain⟨c,a|⟨b,o,a,m,p⟩⟩:=h
 ·exact⟨c,Or.inl a⟩
 refine⟨c,Or.inr ⟨b,o,a,m,fun i d=>?_⟩⟩
 obtain⟨f,g,j,l⟩:=q i d;obtain⟨c1,c2,c3,e⟩:=p i d;unfold vy;rw[f,g,j];exact⟨c1,c2,c3,LI e l⟩
def tH(D:Nat->Dm)(n:Nat):List RDm:=(List.range n).map fun i=>⟨(D i).name,(D i).solve,(List.range (D i).n).map (D i).mem⟩
theorem FN(D:Nat->Dm)(n:Nat):(tH D n).length=n:=by simp[tH]
theorem JI{w:World}{A0:Option Addr}{cap n:Nat}{D:Nat->Dm}{A:Nat->Option Addr}{C:Nat->Nat}(h:aL w A0 cap n D A C):aL w A0 cap n (b7 (tH D n)) A C:=by
 refine Lb h fun i a=>?_
 have e:(tH D n).getD i fD=⟨(D i).name,(D i).solve,(List.range (D i).n).map (D i).mem⟩:=by
  rw[zZ]
  simp[tH,a]
 unfold b7;rw[e];refine⟨rfl,rfl,by show((List.range (D i).n).map (D i).mem).length=_;simp,fun k b=>?_⟩
 show((List.range (D i).n).map (D i).mem).getD k I4=_
 rw[zZ]
 simp[b]
section
variable {H:Type} {enc:TypeId×Value->H} {w:World} {held:Bool}
theorem L7{b:Nat}{cs:List Value}{x:DataW H×List MemPlace}(h:DataW.trod enc prog w 0 (fun _=>true) held b 33 cs=some x):
  ∃c:Chg,cs=[.int .i64 c.what,.int .i64 c.dim,.int .i64 c.mb,.string c.name,.int .i64 c.tgt,.int .i64 c.sign]:=by
 obtain⟨k,n,a⟩:=j7 underlying33 κ h
 rw[CZ]at k
 match cs,k with
 | [c0,c1,c2,c3,c4,c5],_ =>
  obtain⟨s,l⟩:=a 0 _ c0 rfl rfl;obtain⟨t,m⟩:=a 1 _ c1 rfl rfl;obtain⟨u,o⟩:=a 2 _ c2 rfl rfl;obtain⟨v,p⟩:=a 3 _ c3 rfl rfl;obtain⟨y,q⟩:=a 4 _ c4 rfl rfl;obtain⟨z,r⟩:=a 5 _ c5 rfl rfl;obtain⟨n0,d,-,-⟩:=DataW.trod_int underlying3 l;obtain⟨n1,e,-,-⟩:=DataW.trod_int underlying3 m;obtain⟨n2,f,-,-⟩:=DataW.trod_int underlying3 o;obtain⟨s3,g,-,-⟩:=DataW.trod_string underlying9 p;obtain⟨n4,i,-,-⟩:=DataW.trod_int underlying3 q;obtain⟨n5,j,-,-⟩:=DataW.trod_int underlying3 r
  simp at d e f g i j
  exact⟨⟨n0,n1,n2,s3,n4,n5⟩,by rw[d,e,f,g,i,j]⟩
theorem Jl{f:Nat}{cs:List Value}{x:DataW H×List MemPlace}(h:DataW.trod enc prog w 0 (fun _=>true) held f 26 cs=some x):
  ∃(A:Option Addr) (cap:Nat) (L:List Chg),cs=[.slice A L.length cap]/\DX w A cap L:=by
 rcases open_slice underlying26 h with⟨rfl,-⟩|⟨a,aa,j,m,n,D,Pl,rfl,-,v,g,l,-,p⟩
 ·exact⟨none,0,[],rfl,zT,zU,Or.inl rfl⟩
 rw[CZ]at p
 simp at l
 subst l
 haveI:Inhabited Chg:=⟨noCg⟩
 have e:∀i,i<aa->∃y:Chg,w.cells? 0 (a.add (i*6)) 6=some [.int .i64 y.what,.int .i64 y.dim,.int .i64 y.mb,.string y.name,.int .i64 y.tgt,.int .i64 y.sign]:=fun i d=>by
  obtain⟨q,r,s⟩:=p i ω
  obtain⟨y,rfl⟩:=L7 s;exact⟨y,r⟩
 obtain⟨Y,k⟩:=choose_lt e;have b:((List.range aa).map Y).length=aa:=by simp
 have u:∀i,i<aa->((List.range aa).map Y).getD i noCg=Y i:=fun i d=>by simp[List.getD,d]
 refine⟨some a,_,(List.range aa).map Y,by rw[b],by rw[b];exact v,g,?_⟩
 rcases Nat.eq_zero_or_pos aa with h0|h0
 ·left;subst h0;rfl
 right
 have c0:=(World.cells?_some (k 0 h0)).2.2 0 ω
 rw[add_add]at c0;have o:=gz c0 ω
 have t:=World.block_lt_of_cell? _ _ c0;refine⟨a.block,a.off,by rw[←o],by simpa [Addr.add]using t,fun i d=>?_⟩
 rw[b]at d;have c:=(World.cells?_some (k i d)).2.2;rw[o]at c;simp only[aW,Nat.add_assoc]at c;rw[u i d];refine⟨?_,?_,?_,?_,?_,?_⟩
 ·have:=c 0 ω;simpa using this
 ·have:=c 1 ω;simpa [Nat.add_assoc]using this
 ·have:=c 2 ω;simpa [Nat.add_assoc]using this
 ·have:=c 3 ω;simpa [Nat.add_assoc]using this
 ·have:=c 4 ω;simpa [Nat.add_assoc]using this
 have:=c 5 ω;simpa [Nat.add_assoc]using this
theorem Jk{r:Reach}{b0:Nat}{v:Value}{d:DataW H}{p:List MemPlace}(i:Value.okWide prog w r b0 26 v)(h:DataW.Trod enc prog w 0 (fun _=>true) held 26 v d p):
  ∃(A:Option Addr) (cap:Nat) (L:List Chg),v=.slice A L.length cap/\DX w A cap L:=by
 obtain⟨a0,aa,a,rfl⟩:=okWide_slice underlying26 i;obtain⟨b,g⟩:=h;have c:DataW.trod enc prog w 0 (fun _=>true) held b 26 [.slice a0 aa a]=some (d,p):=g
 obtain⟨A,cap,L,e,f⟩:=Jl c;simp only[List.cons.injEq,and_true]at e;exact⟨A,cap,L,e,f⟩
end
end Go.Proofs.YtjfampgnhccodaaGreatDoor
namespace Go.Proofs.YtjfampgnhccodaaGreatDoor
open Tryz ChangeShapes WideShapes ChangeAt RowKit Lib
set_option maxRecDepth 99999
set_option maxHeartbeats 0
theorem K3{w:World}{q T:Nat}{a v:Value}(h:w.heap[q]?=some (.cells #[a] T (0,0))):(w.setCell ⟨q,0,none⟩ v).heap[q]?=some (.cells #[v] T (0,0)):=by simp[World.setCell,Array.getElem?_modify,h]
theorem Nx{w9 w':World}{q:Nat}{v:Value}(b:q<w9.heap.size)(h:w9.cell? ⟨q,0,none⟩=some v)(a:Bl w9 w'):Bl w9 w'/\w'.cell? ⟨q,0,none⟩=some v:=⟨a,aM a b h⟩
theorem K5{D:Nat->Dm}{n:Nat}{l:List En}(h:cuErr D n l=0){j:Nat}(d:j<prodN D n):good ((caL D n l).getD j noC).1 ((caL D n l).getD j noC).2=true:=by
 rw[pM h d];obtain⟨e,b⟩:=iC h;obtain⟨a,c⟩:=iT e;exact qn c (mZ b) _ _ (dp a) (Nat.lt_succ_self _)
theorem Km{HV:World->Nat->(Nat->Prop)->(Nat->Dm)->Nat->List En->Prop}(hC:HallC HV)(A0:Option Addr)(cap n:Nat)(D:Nat->Dm)(A:Nat->Option Addr)(C:Nat->Nat)(AE:Option Addr)(ce:Nat)(xs:List EnL)(AC:Option Addr)(cC:Nat)(L:List Chg)(w:World)(hE:iv w)(hM:aL w A0 cap n D A C)(b3:bU w AE ce xs)(hL:DX w AC cC L):
  Rt 3 #[.agg #[.slice A0 n cap],.slice AE xs.length ce,.slice AC L.length cC] w (.bool true):=by
 obtain⟨i0,c7,dd,de,df⟩:=info_parts infoEd;obtain⟨W,hW⟩:∃x,w.alloc (.cells #[.slice A0 n cap] 24)=x:=⟨_,rfl⟩;have aC:Bl w W:=by rw[←hW];go_grown
 have k0:W.heap[w.heap.size]?=some (.cells #[.slice A0 n cap] 24 (0,0)):=by rw[←hW];exact heap_alloc_new ..
 have ht:=CE W;have HC:=aa hC;have HE:=aa hE;have bG:=aa hL;obtain⟨xl,bz⟩:=ar xs.length;obtain⟨V,bm⟩:=ar L.length;have aW:=aa bm;have aj:Hid (rY W A0 n cap AE xl ce):=⟨D,A,C,xs,hM.later aC,bz,b3.later aC⟩;have bA:=aa aC;have a6:=aa k0;rw[bz,bm];clear hM b3 hE hL hC bz bm aC k0
 go_enter func3,ntmps3
 go_wp2_with fail;refine ht.mono ?_;rintro e w1⟨rfl,aD⟩;have bB:=aa (ad bA.o aD);have bK:Hid (w1.heap[w.heap.size]?=some (.cells #[.slice A0 n cap] 24 (0,0))):=(aD.block _ (zY a6.o).1).trans a6.o;have bF:=aa (aj.o.later aD);clear ht aD hW;go_wp2_with fail
 go_loopg [1,8] 10 (fun gg s1 s8 wr =>∃(i:Nat) (A1:Option Addr) (n1 c1:Nat) (af:Option Addr) (f M:Nat),i<=10/\i<=V/\gg=10-i/\s1=.slice af f M/\s8=.int .i64 i/\Hid (wr.heap[w.heap.size]?=some (.cells #[.slice A1 n1 c1] 24 (0,0)))/\Hid (rY wr A1 n1 c1 af f M)/\Hid (Bl w wr))
 case atStart=>exact⟨0,A0,n,cap,AE,xl,ce,ω,ω,rfl,rfl,rfl,bK,bF,bB⟩
 case round =>
  obtain⟨i,A1,n1,c1,af,f,M,bq,br,rfl,rfl,rfl,aA,ay,J⟩:=hrel;obtain⟨wk,rfl⟩:∃wk:World,wk=wr:=⟨_,rfl⟩;have c0:wk.cell? ⟨w.heap.size,0,none⟩=some (.slice A1 n1 c1):=(Lib.cell_of_heap aA.o 0).trans rfl;have cb:w.heap.size<wk.heap.size:=(zY aA.o).1
  go_upto_region 5 with fail
  go_cut [37]from 30 to 58 (fun dp wx=>dp=.bool (decide (i<V/\i<10))/\wx=wk)
  case first =>
   by_cases h1:i<V
   ·have bV:(i:Int)<(V:Int):=ω;by_cases h2:i<10
    ·have cS:(i:Int)<10:=ω;have hd:decide (i<V/\i<10)=true:=decide_eq_true ⟨h1,h2⟩;go_wp2_with fail;go_meet;exact⟨by rw[hd],rfl⟩
    have cS:(10:Int)<=(i:Int):=ω;have hd:decide (i<V/\i<10)=false:=decide_eq_false ω
    go_wp2_with fail;go_meet;exact⟨by rw[hd];exact congrArg Value.bool (decide_eq_false ω),rfl⟩
   have bV:(V:Int)<=(i:Int):=ω;have hd:decide (i<V/\i<10)=false:=decide_eq_false ω
   go_wp2_with fail;go_meet;exact⟨by rw[hd],rfl⟩
  case rest =>
  obtain⟨rfl,rfl⟩:=hcut;obtain⟨wk,rfl⟩:∃x:World,x=wc:=⟨_,rfl⟩
  by_cases aG:i<V/\i<10
  ·rw[decide_eq_true aG]
   obtain⟨h1,h2⟩:=aG;have bV:(i:Int)<(V:Int):=ω;obtain⟨c2,-,h0|⟨bC,oC,rfl,du,PV⟩⟩:=bG.o.later J.o
   ·have:=aW.o;rw[h0]at this;simp at this;omega
   obtain⟨x0,x1,x2,x3,x4,x5⟩:=PV i (by rw[aW.o];exact h1)
   rw[aW.o]at c2;have c3:(V:Int)<=(cC:Int):=ω;generalize L.getD i noCg=x at x0 x1 x2 x3 x4 x5;have u:Hid (∀w',Bl wk w'->w'.cell? ⟨w.heap.size,0,none⟩=some (.slice A1 n1 c1)/\w'.cell? ⟨bC,oC+i*6,none⟩=some (.int .i64 x.what)/\w'.cell? ⟨bC,oC+i*6+1,none⟩=some (.int .i64 x.dim)/\w'.cell? ⟨bC,oC+i*6+2,none⟩=some (.int .i64 x.mb)/\w'.cell? ⟨bC,oC+i*6+3,none⟩=some (.string x.name)/\w'.cell? ⟨bC,oC+i*6+4,none⟩=some (.int .i64 x.tgt)/\w'.cell? ⟨bC,oC+i*6+5,none⟩=some (.int .i64 x.sign)):=fun w' t=>⟨a8 c0 t,a8 x0 t,a8 x1 t,a8 x2 t,a8 x3 t,a8 x4 t,a8 x5 t⟩
   have al:Hid (∀w',Bl wk w'->Calls prog 5 #[.agg #[.slice A1 n1 c1],.slice af f M,.agg #[.int .i64 x.what,.int .i64 x.dim,.int .i64 x.mb,.string x.name,.int .i64 x.tgt,.int .i64 x.sign]] w' fun e ab=>(∃A' n' B ae zl g E,e=.returned (.tuple #[.agg #[.slice A' n' B],.slice ae zl g,errV E])/\Hid (E=0->mF ab A' n' B ae zl g))/\Bl w' ab):=fun w' t=>Nj x (ay.o.later t) (HE.o.later (ad J.o t)).1
   have dt:=aa (Below.refl wk.heap.size wk);have dv:i+1<=10:=ω;have dw:i+1<=V:=ω;clear PV h1 h2
   go_upto_region 7 with fail
   go_cut [9,10,11]from 41 to 58 (fun s9 di dj wx =>∃q A' n' B ae zl g E,s9=.pointer (some ⟨q,0,none⟩)/\di=.slice ae zl g/\dj=errV E/\wx.cell? ⟨q,0,none⟩=some (.slice A' n' B)/\Hid (E=0->mF wx A' n' B ae zl g)/\Bl wk wx)
   case first =>
     refine wp_region_held_drew (S:=(fun w'=>Bl wk w'/\w'.cell? ⟨w.heap.size,0,none⟩=some (.slice A1 n1 c1)/\w'.cell? ⟨bC,oC+i*6,none⟩=some (.int .i64 x.what)/\w'.cell? ⟨bC,oC+i*6+1,none⟩=some (.int .i64 x.dim)/\w'.cell? ⟨bC,oC+i*6+2,none⟩=some (.int .i64 x.mb)/\w'.cell? ⟨bC,oC+i*6+3,none⟩=some (.string x.name)/\w'.cell? ⟨bC,oC+i*6+4,none⟩=some (.int .i64 x.tgt)/\w'.cell? ⟨bC,oC+i*6+5,none⟩=some (.int .i64 x.sign))) κ (by(refine(fun hB=>⟨hB,u.o _ hB⟩) ?_;go_grown)) (fun a=>?_)
     refine wpAnyH_take (i:=0) (v:=?v0) rfl κ κ κ (fun _ _ _ h=>h) (Or.inl ⟨by rfl, ?y0⟩) a ?r0
     case y0=>(intro w d;go_simp;try rfl)
     refine wpAnyH_take (i:=1) (v:=?v1) rfl κ κ κ (fun _ _ _ h=>h) (Or.inl ⟨by rfl, ?y1⟩) a ?r1
     case y1=>(intro w d;go_simp;try rfl)
     refine wpAnyH_take (i:=2) (v:=?v2) rfl κ κ κ (fun _ _ _ h=>h) (Or.inl ⟨by rfl, ?y2⟩) a ?r2
     case y2=>(intro w d;go_simp;try rfl)
     refine wpAnyH_take (i:=3) (v:=?v3) rfl κ κ κ (fun _ _ _ h=>h) (Or.inl ⟨by rfl, ?y3⟩) a ?r3
     case y3=>(intro w d;go_simp;try rfl)
     refine wpAnyH_take (i:=4) (v:=?v4) rfl κ κ κ (fun _ _ _ h=>h) (Or.inl ⟨by rfl, ?y4⟩) a ?r4
     case y4=>(intro w d;go_simp;try rfl)
     refine wpAnyH_take (i:=5) (v:=?v5) rfl κ κ κ (fun _ _ _ h=>h) (Or.inl ⟨by rfl, ?y5⟩) a ?r5
     case y5=>(intro w d;go_simp;try rfl)
     refine wpAnyH_ready (rs:=[6,11]) κ σ ?_
     refine AllReadyH.cons rfl (fun K r => ?_) (AllReadyH.cons rfl (fun K r => ?_) AllReadyH.nil)
     ·go_simp
      refine(al.o _ γ).mono ?_
      rintro e w6⟨⟨A6,n6,Z,aM,zl,bd,E,rfl,PW⟩,Q⟩;have P:=ad (W0:=wk) γ Q
      have db:=P.size
      dsimp only
      refine r.out _ _ (⟨P,u.o _ P⟩) (fun a=>?_)
      clear r K
      refine wpAnyH_take (i:=7) (v:=?v6) rfl κ κ κ (fun _ _ _ h=>h) (Or.inl ⟨by rfl, ?y6⟩) a ?r6
      case y6=>(intro w d;go_simp;try rfl)
      refine wpAnyH_take (i:=8) (v:=?v7) rfl κ κ κ (fun _ _ _ h=>h) (Or.inl ⟨by rfl, ?y7⟩) a ?r7
      case y7=>(intro w d;go_simp;try rfl)
      refine wpAnyH_take (i:=9) (v:=?v8) rfl κ κ κ (fun _ _ _ h=>h) (Or.inl ⟨by rfl, ?y8⟩) a ?r8
      case y8=>(intro w d;go_simp;try rfl)
      refine wpAnyH_take (i:=10) (v:=?v9) rfl κ κ κ (fun _ _ _ h=>h) (Or.inl ⟨by rfl, ?y9⟩) a ?r9
      case y9=>(intro w d;go_simp;try rfl)
      refine wpAnyH_ready (rs:=[11]) κ σ ?_
      refine AllReadyH.cons rfl (fun K r => ?_) AllReadyH.nil
      go_simp
      have b4:Bl wk (w6.alloc (.cells #[.slice none 0 0] 24)):=by go_grown
      refine r.out _ _ (⟨b4,u.o _ b4⟩) (fun a=>?_)
      clear r K
      refine wpAnyH_ready (rs:=[12]) κ σ ?_
      refine AllReadyH.cons rfl (fun K r => ?_) AllReadyH.nil
      go_simp
      have p:Bl wk (w6.alloc (.cells #[.slice A6 n6 Z] 24)):=by go_grown
      have T:(w6.alloc (.cells #[.slice A6 n6 Z] 24)).cell? ⟨w6.heap.size,0,none⟩=some (.slice A6 n6 Z):=(Lib.cell_of_heap (heap_alloc_new ..) 0).trans rfl;have HF:Hid (E=0->mF (w6.alloc (.cells #[.slice A6 n6 Z] 24)) A6 n6 Z aM zl bd):=fun h0=>(PW.o h0).later γ
      clear PW;refine r.out _ _ (⟨p,u.o _ p⟩) (fun a=>?_)
      clear r K
      refine wpAnyH_ready (rs:=[13]) κ σ ?_
      refine AllReadyH.cons rfl (fun K r => ?_) AllReadyH.nil
      go_simp
      refine r.out _ _ (⟨p,u.o _ p⟩) (fun a=>?_)
      clear r K
      refine wpAnyH_ready (rs:=[14]) κ σ ?_
      refine AllReadyH.cons rfl (fun K r => ?_) AllReadyH.nil
      go_simp
      refine r.out _ _ (⟨p,u.o _ p⟩) (fun a=>?_)
      clear r K
      refine wpAnyH_done κ ?_ _
      clear Q;go_wp2_with fail;go_meet;exact⟨_,_,_,_,_,_,_,_,rfl,rfl,rfl,T,HF,p⟩
     go_simp
     have bh:Bl wk (wk.alloc (.cells #[.slice none 0 0] 24)).drew:=by go_grown
     refine r.out _ _ (⟨bh,u.o _ bh⟩) (fun a=>?_)
     clear r K
     refine wpAnyH_ready (rs:=[6]) κ σ ?_
     refine AllReadyH.cons rfl (fun K r => ?_) AllReadyH.nil
     go_simp
     refine(al.o _ γ).mono ?_
     rintro e w6⟨⟨A6,n6,Z,aM,zl,bd,E,rfl,PW⟩,Q⟩;have P:=ad (W0:=wk) bh Q;have db:=P.size;have cX:(wk.alloc (.cells #[.slice none 0 0] 24)).drew.heap.size=wk.heap.size+1:=by simp
     unfold Bl at Q;rw[cX]at Q
     dsimp only
     have aH:w6.heap[wk.heap.size]?=some (.cells #[.slice none 0 0] 24 (0,0)):=(Q.block wk.heap.size ω).trans (heap_alloc_new wk (.cells #[.slice none 0 0] 24))
     have l0:w6.cell? ⟨wk.heap.size,0,none⟩=some (.slice none 0 0):=(Lib.cell_of_heap aH 0).trans rfl;have f0:=Lib.frozen_of_heap aH 0;refine r.out _ _ (⟨P,u.o _ P⟩) (fun a=>?_)
     clear r K
     refine wpAnyH_take (i:=7) (v:=?v10) rfl κ κ κ (fun _ _ _ h=>h) (Or.inl ⟨by rfl, ?y10⟩) a ?r10
     case y10=>(intro w d;go_simp;try rfl)
     refine wpAnyH_take (i:=8) (v:=?v11) rfl κ κ κ (fun _ _ _ h=>h) (Or.inl ⟨by rfl, ?y11⟩) a ?r11
     case y11=>(intro w d;go_simp;try rfl)
     refine wpAnyH_take (i:=9) (v:=?v12) rfl κ κ κ (fun _ _ _ h=>h) (Or.inl ⟨by rfl, ?y12⟩) a ?r12
     case y12=>(intro w d;go_simp;try rfl)
     refine wpAnyH_take (i:=10) (v:=?v13) rfl κ κ κ (fun _ _ _ h=>h) (Or.inl ⟨by rfl, ?y13⟩) a ?r13
     case y13=>(intro w d;go_simp;try rfl)
     refine wpAnyH_ready (rs:=[12]) κ σ ?_
     refine AllReadyH.cons rfl (fun K r => ?_) AllReadyH.nil
     go_simp
     have p:Bl wk (w6.setCell ⟨wk.heap.size,0,none⟩ (.slice A6 n6 Z)):=P.setCell zT _;have T:(w6.setCell ⟨wk.heap.size,0,none⟩ (.slice A6 n6 Z)).cell? ⟨wk.heap.size,0,none⟩=some (.slice A6 n6 Z):=World.cell?_setCell_same w6 ⟨wk.heap.size,0,none⟩ _ l0;have HF:Hid (E=0->mF (w6.setCell ⟨wk.heap.size,0,none⟩ (.slice A6 n6 Z)) A6 n6 Z aM zl bd):=fun h0=>(PW.o h0).box aH
     clear PW l0 f0 aH;refine r.out _ _ (⟨p,u.o _ p⟩) (fun a=>?_)
     clear r K
     refine wpAnyH_ready (rs:=[13]) κ σ ?_
     refine AllReadyH.cons rfl (fun K r => ?_) AllReadyH.nil
     go_simp
     refine r.out _ _ (⟨p,u.o _ p⟩) (fun a=>?_)
     clear r K
     refine wpAnyH_ready (rs:=[14]) κ σ ?_
     refine AllReadyH.cons rfl (fun K r => ?_) AllReadyH.nil
     go_simp
     refine r.out _ _ (⟨p,u.o _ p⟩) (fun a=>?_)
     clear r K
     refine wpAnyH_done κ ?_ _
     clear Q;go_wp2_with fail;go_meet;exact⟨_,_,_,_,_,_,_,_,rfl,rfl,rfl,T,HF,p⟩
   case rest =>
   obtain⟨q,A',n',B,ae,zl,g,E,rfl,rfl,rfl,T,hR,aF⟩:=hcut;obtain⟨wx,rfl⟩:∃wx:World,wx=wc:=⟨_,rfl⟩;have HR:=aa hR.o;have R:=aa aF;have ai:=aa (ad J.o aF);have a7:Hid (wx.heap[w.heap.size]?=some (.cells #[.slice A1 n1 c1] 24 (0,0))):=(aF.block _ cb).trans aA.o;clear x0 x1 x2 x3 x4 x5 c0 hR aF
   by_cases PU:E=0
   ·have ch:=HR.o PU
    have aX:=aa ch;obtain⟨D9,Am9,Cm9,zs,d1,d2,d3,d4⟩:=ch;have bl:=dW A' B n' D9 Am9 Cm9 ae g zs wx d1 d3;rw[(Oo d4).2,errV_zero,d2]at bl;rw[PU,errV_zero];clear d1 d2 d3 d4 PU;go_wp2_with fail;refine bl.mono ?_;rintro e w9⟨rfl,N⟩;have P1:w9.heap[w.heap.size]?=some (.cells #[.slice A1 n1 c1] 24 (0,0)):=(N.block _ (zY a7.o).1).trans a7.o;have l0:w9.cell? ⟨w.heap.size,0,none⟩=some (.slice A1 n1 c1):=(Lib.cell_of_heap P1 0).trans rfl;have f0:=Lib.frozen_of_heap P1 0;have lq:=a8 T N;have cL:Hid ((w9.setCell ⟨w.heap.size,0,none⟩ (.slice A' n' B)).heap[w.heap.size]?=some (.cells #[.slice A' n' B] 24 (0,0))):=K3 P1;have aV:=aa ((aX.o.later N).cub.box (v:=.slice A' n' B) P1);have X:Hid (Bl w (w9.setCell ⟨w.heap.size,0,none⟩ (.slice A' n' B))):=(ad ai.o N).setCell zT _;clear bl N P1 T;go_wp2_with fail
    go_roundg (10-(i+1))
    case measure=>omega
    case rel=>exact⟨i+1,A',n',B,ae,zl,g,ω,ω,rfl,rfl,by go_num,cL,aV,X⟩
   rw[ac PU];have aV:=aa (ay.o.later R.o);clear PU;go_wp2_with fail
   go_roundg (10-(i+1))
   case measure=>omega
   case rel=>exact⟨i+1,A1,n1,c1,af,f,M,ω,ω,rfl,rfl,by go_num,a7,aV,ai⟩
  rw[decide_eq_false aG];clear aG bq br bG aj bA bB bK a6 bF;obtain⟨D1,Am1,Cm1,us,b0,bx,hU⟩:=ay.o;have aB:=JI b0;obtain⟨ds,bn⟩:=ar (tH D1 n1);have ck:ds.length=n1:=by rw[←bn];exact FN D1 n1
  rw[bn]at aB;have HD:=aa aB;have HU:=aa hU;have G:=aa bx;have aY:=aa ck;have h5:=pN A1 c1 n1 (b7 ds) Am1 Cm1 af M us wk aB hU;rw[bx]at h5;clear b0 aB hU bn ck bx
  by_cases H:cuErr (b7 ds) n1 (lE us)=0
  case neg =>
   rw[ac H]at h5;generalize cuErr (b7 ds) n1 (lE us)=z at h5;generalize caL (b7 ds) n1 (lE us)=CA at h5;clear H;go_wp2_with fail;refine h5.mono ?_;rintro e w2⟨⟨A',B,rfl,-⟩,PY⟩;have aP:=aa (ad J.o PY);clear PY h5;go_wp2_with fail;go_ret;exact⟨rfl,aP.o⟩
  obtain⟨aI,O⟩:=iC H;rw[H,errV_zero]at h5
  by_cases bW:60<f
  case pos =>
   have be:(60:Int)<(f:Int):=ω;generalize caL (b7 ds) n1 (lE us)=CA at h5;clear H aI O bW;go_wp2_with fail;refine h5.mono ?_;rintro e w2⟨⟨A',B,rfl,-⟩,PY⟩;have aP:=aa (ad J.o PY);clear PY h5;go_wp2_with fail;go_ret;exact⟨rfl,aP.o⟩
  have be:(f:Int)<=60:=ω;obtain⟨PT,cW⟩:=iT aI;have cp:n1<=4:=(ao PT).2.1;have da:=(ao PT).2.2.1;have aw:∀i,i<n1->(b7 ds i).n<=12:=fun i hi=>(aq ((aZ PT).2 i hi)).2.2.1
  have P4:us.length<=3000:=by rw[←aR];exact O.few
  have cw:∀j,j<us.length->(us.getD j noL).e.pl.length<=4:=fun j hj=>by
   have:=(O.each (us.getD j noL).e (by unfold lE;exact List.mem_map.2 ⟨_,cJ hj,rfl⟩)).1.len
   omega
  have cr:1<=prodN (b7 ds) n1:=kq fun j hj=>((ao PT).2.2.2 j hj).1
  have PV:(caL (b7 ds) n1 (lE us)).length=prodN (b7 ds) n1:=fZ H;have bo:=K5 H (j:=0) cr;obtain⟨cj,PZ⟩:=zM O (by rw[aR,G.o];omega)
  have cs:=BL (ds:=ds) (l:=lE us) (by rw[aY.o];exact H)
  rw[aY.o]at cs;obtain⟨p0,p1,p2,p3,p4⟩:=cs;obtain⟨s,hs⟩:=ar (DO (b7 ds) n1 (lE us));have bR:=aa hs;rw[hs]at p0 p1 p2 p3 p4;have bN:Hid (∀w',Bl wk w'->Calls prog 8 #[.agg #[.slice A1 n1 c1]] w' fun e ab=>(∃h S,e=.returned (.tuple #[.pointer (some ⟨h,0,none⟩),.nilIface])/\HV ab h S (b7 ds) n1 []/\∀b,S b->w'.heap.size<=b)/\Bl w' ab):=fun w' hB=>HC.o.new A1 c1 n1 (b7 ds) Am1 Cm1 w' aI (HD.o.later hB)
  have bH:Hid (∀h S w' Ax cx,HV w' h S (b7 ds) n1 []->oQ w' Ax cx (edX us)->Calls prog 9 #[.pointer (some ⟨h,0,none⟩),.slice Ax f cx] w' fun e ab=>(∃S' k,e=.returned (.tuple #[.int .i64 (k:Nat),.nilIface])/\HV ab h S' (b7 ds) n1 (lE us))/\Kept w'.heap.size S w' ab):=fun h S w' Ax cx hH hX=>by
   have h':=HC.o.edit h S (b7 ds) n1 [] Ax cx (edX us) w' hH hX;rw[Nl,cj,PZ,errV_zero,lN,G.o]at h';exact h'.mono fun _ _ ⟨⟨S',a1,a2,_⟩,a3⟩=>⟨⟨S',_,a1,a2⟩,a3⟩
  have bP:Hid (∀w',Bl w w'->Calls prog 14 #[.string s] w' fun e ab=>(∃A9 U A' C' ys ae g,e=.returned (.tuple #[.agg #[.slice A9 n1 U],.slice ae ys.length g,.int .i64 0,.nilIface])/\aL ab A9 U n1 (b7 ds) A' C'/\bU ab ae g ys/\lE ys=lE us)/\Bl w' ab):=fun w' t=>(Cs s w' (HE.o.later t) p0).mono fun e ab ⟨_,h8,h9⟩=>⟨by have:=h8 p1;rw[p2,p3,p4]at this;exact this,h9⟩
  have bO:Hid (∀w' AZ cz (zs:List EnL),Bl wk w'->bU w' AZ cz zs->lE zs=lE us->Rt 12 #[.agg #[.slice A1 n1 c1],.slice AZ zs.length cz] w' (.tuple #[.string s,.nilIface])):=fun w' AZ cz zs t hz hl=>by
   have h:=Cv A1 c1 n1 (b7 ds) Am1 Cm1 AZ cz zs w' (HE.o.later (ad J.o t)).1 (HD.o.later t) hz;rw[hl,show shE (b7 ds) n1 (lE us)=0 from H,bR.o,errV_zero]at h
   exact h
  have am:Hid (∀(A9:Option Addr) (U:Nat) (A':Nat->Option Addr) (C':Nat->Nat) (w':World),Bl wk w'->aL w' A9 U n1 (b7 ds) A' C'->Rt 15 #[.agg #[.slice A9 n1 U],.agg #[.slice A1 n1 c1]] w' (.bool true)):=fun A9 U A' C' w' t hD=>yB A9 A1 U c1 n1 (b7 ds) A' C' Am1 Cm1 w' cp aw hD (HD.o.later t)
  have bQ:Hid (∀(ae:Option Addr) (g:Nat) (ys:List EnL) (w':World),Bl wk w'->bU w' ae g ys->lE ys=lE us->Rt 16 #[.slice ae ys.length g,.slice af f M] w' (.bool true)):=fun ae g ys w' t cT he=>by
   have aJ:ys.length=us.length:=by rw[←aR,he,aR]
   have bp:∀j,(ys.getD j noL).e=(us.getD j noL).e:=fun j=>by rw[←lE_at,←lE_at,he]
   have h9:=Go.Proofs.YtjfampgnhccodaaGreatDoor.u9 ae af g M ys us w' he ω (fun j hj=>by rw[bp];exact cw j ω) cT (HU.o.later t)
   rw[G.o]at h9;exact h9
  have az:Hid (∀h S w',HV w' h S (b7 ds) n1 (lE us)->Calls prog 11 #[.pointer (some ⟨h,0,none⟩)] w' fun e ab=>(∃A' B,e=.returned (.slice A' (caL (b7 ds) n1 (lE us)).length B)/\eP ab A' B (caL (b7 ds) n1 (lE us)))/\Bl w' ab):=fun h S w' hH=>HC.o.cells h S (b7 ds) n1 (lE us) w' hH
  have bI:Hid (∀h S w',HV w' h S (b7 ds) n1 (lE us)->Calls prog 13 #[.pointer (some ⟨h,0,none⟩)] w' fun e ab=>(∃A' B zs,e=.returned (.slice A' zs.length B)/\bU ab A' B zs/\lE zs=lE us)/\Bl w' ab):=fun h S w' hH=>HC.o.entries h S (b7 ds) n1 (lE us) w' hH
  obtain⟨CA,bX⟩:=ar (caL (b7 ds) n1 (lE us));rw[bX]at h5 PV bo az;obtain⟨na,bt⟩:=ar CA.length;have Y:=aa bt;have bu:0<na:=ω;have bJ:=aa bo;have ax:CA.length<=3000:=ω;rw[bt]at h5 az;have bM:=aa ax;have bT:Hid (∀k,k<f->(edX us).take (k+1)=(edX us).take k++[⟨edOf (us.getD k noL).e,(us.getD k noL).A,(us.getD k noL).c⟩]):=fun k hk=>Hs us (by rw[G.o];exact hk)
  have dA:(f:Int)<=9223372036854775807:=ω;clear H aI O PT cW cp da aw P4 cw cr PV bo cj PZ p0 p1 p2 p3 p4 hs bX bt ax bW;go_wp2_with fail;refine h5.mono ?_;rintro e w4⟨⟨Aa,ca,rfl,bY⟩,b5⟩;have aN:=aa bY;have F:=aa b5;have R:Hid (∀w',Bl w4 w'->w'.cell? ⟨w.heap.size,0,none⟩=some (.slice A1 n1 c1)/\w.heap.size<w'.heap.size):=fun w' t=>⟨a8 c0 (ad F.o t),by have:=(ad F.o t).size;omega⟩
  have cq:=bN.o w4 F.o;obtain⟨y0,-⟩:=R.o w4 zS;clear h5 bY b5 c0 cb;go_wp2_with fail;refine cq.mono ?_;rintro e w5⟨⟨h,S,rfl,hH,hS⟩,b6⟩;have HH:=aa hH;have HS:=aa hS;have aQ:=aa b6;clear hH hS b6 cq y0;go_wp2_with fail
  go_loopg [16,17] f (fun gg dk dl wr =>∃(k:Nat) (v:Value),k<=f/\gg=f-k/\dl=.int .i64 k/\v=dk/\Hid (wr.ownsRow w5.heap.size 47 3 v k (dS ((edX us).take k)))/\Hid (Bl w5 wr))
  case atStart=>exact⟨0,_,zU,rfl,rfl,rfl,aa (by simpa [dS]using World.ownsRow_nil _ _ _ _),zS⟩
  case round =>
   obtain⟨k,v,hk,rfl,rfl,rfl,a9,I⟩:=hrel
   by_cases cm:k<f
   ·have dx:(k:Int)<(f:Int):=ω;have cn:k<us.length:=by rw[G.o];exact cm
    obtain⟨cf,-,h0|⟨bL,oL,rfl,bf⟩⟩:=HU.o.later (ad F.o (ad aQ.o I.o))
    ·have:=G.o;rw[h0]at this;simp at this;omega
    obtain⟨e0,e1⟩:=bf.at cn;have cZ:=bf.1;rw[G.o]at cf;have c6:(f:Int)<=(M:Int):=ω;have bS:=aa (bT.o k cm);have dc:=I.o.size;generalize us.getD k noL=x at e0 e1 bS;obtain⟨cy,P5⟩:∃m,x.e.pl.length=m:=⟨_,rfl⟩;have cP:=aa P5;rw[P5]at e0;obtain⟨xn,P4⟩:∃m,x.e.n=m:=⟨_,rfl⟩;have cO:=aa P4;rw[P4]at e1;have aX:Hid (dS [(⟨edOf x.e,x.A,x.c⟩:EdL)]=[.slice x.A cy x.c,.int .i64 xn,.bool false]):=by show _=_;simp[dS,edOf,cP.o,cO.o]
    clear bf P5 P4 bN bH bP bO am bQ az bI HC ay HE J R HH HS bT HU HD aN bJ bM Y aA bR aY;go_wp2_with fail
    go_region_law ((refine step_append_lies _ (by rfl) _ _ _ (by rfl) w5.heap.size 47 i0 _ 3 40 underlying41 c7 dd de df ?g2 ?g3 v k (dS ((edX us).take k)) ?h1 ?h2 ⟨wr.heap.size,0,none⟩ 1 1 [.slice x.A cy x.c,.int .i64 xn,.bool false] ?h3 ?h4 ?h5 ?h6 ?g4 ?h7 ?h8 ?h9 (wr.heap.size+1) ?h10 ?_;(case g2=>rfl);(case g3=>omega);(case h1=>rfl);(case h2=>exact(ak a9.o γ));(case h3=>rfl);(case h4=>rfl);(case h5=>exact Jh);(case h6=>simp[Value.oneCell']);(case g4=>omega);(case h7=>(unfold maxLen;omega));(case h8=>omega);(case h9=>(simp;omega));(case h10=>simp);(intro gg cg w6 P3 P0 cY bs);(have a5:=aa (And.intro P3 P0));(clear P3 P0 cY bs dc cf cn cZ)))
    all_goals (have cN:Hid _:=Gt γ a9.o I.o a5.o.2)
    all_goals (have bb:Hid (w6.ownsRow w5.heap.size 47 3 (.slice (some ⟨gg,0,none⟩) (k+1) cg) (k+1) (dS ((edX us).take (k+1)))):=(by show World.ownsRow ..;rw[bS.o,cellsX_append,aX.o];exact a5.o.1))
    all_goals clear a5
    all_goals go_wp2_with fail
    all_goals go_roundg (f-(k+1))
    all_goals first|omega|exact⟨k+1,_,ω,rfl,by go_num,rfl,bb,cN⟩
   have c8:k=f:=ω;subst c8;have P2:=a9.o;rw[List.take_of_length_le (by rw[lN,G.o];exact zT)]at P2
   have cF:=aa (ad F.o (ad aQ.o I.o));obtain⟨Ax,cx,hv,hX⟩:=Hw (by rw[lN,G.o];exact P2) (Nm (HU.o.later cF.o))
   rw[lN,G.o]at hv;subst hv;have PZ:=bH.o h S wr Ax cx (HC.o.later HH.o I.o) hX;have aU:=aa (ad aQ.o I.o);clear P2 hX;go_wp2_with fail;refine PZ.mono ?_;rintro e w7⟨⟨S',kk,rfl,bg⟩,cl⟩;have cE:Hid (Bl w4 w7):=y9 aU.o cl HS.o;have cH:=aa bg;have ci:=az.o h S' w7 bg;clear cl bg PZ;go_wp2_with fail;refine ci.mono ?_;rintro e w8⟨⟨Ac,cc,rfl,bZ⟩,bj⟩;have bD:=aa (ad cE.o bj);have cI:=aa (HC.o.later cH.o bj);have bv:=sx Ac Aa cc ca CA w8 bM.o bZ (aN.o.later bD.o);rw[Y.o]at bv;clear ci bZ bj;go_wp2_with fail;refine bv.mono ?_;rintro e w9⟨rfl,N⟩;have X:=aa (ad bD.o N);have cK:=aa (HC.o.later cI.o N);have a4:Hid (∀w',Bl w9 w'->Calls prog 13 #[.pointer (some ⟨h,0,none⟩)] w' fun e ab=>(∃A' B zs,e=.returned (.slice A' zs.length B)/\bU ab A' B zs/\lE zs=lE us)/\Bl w' ab):=fun w' t=>bI.o h S' w' (HC.o.later cK.o t)
   have bc:Hid (∀w' AZ cz (zs:List EnL),Bl w9 w'->bU w' AZ cz zs->lE zs=lE us->Rt 12 #[.agg #[.slice A1 n1 c1],.slice AZ zs.length cz] w' (.tuple #[.string s,.nilIface])):=fun w' AZ cz zs t hz hl=>bO.o w' AZ cz zs (ad F.o (ad X.o t)) hz hl
   obtain⟨o0,hq⟩:=R.o w9 X.o;clear bv N;go_wp2_with fail
   go_cut [19,20]from 110 (fun dm dn wx=>dm=.string s/\dn=.nilIface/\Bl w9 wx)
   case first =>
    go_region_held3 (fun w'=>Bl w9 w'/\w'.cell? ⟨w.heap.size,0,none⟩=some (.slice A1 n1 c1))
     ((refine Nx hq o0 ?_;go_grown;done))
     (first
      |(go_at_call 13;refine(a4.o _ γ).mono ?_;rintro e wa⟨⟨Az,cz,zs,rfl,dg,dh⟩,bk⟩;have cU:=ad (W0:=w9) γ bk;have dy:=cU.size;clear bk)
      |(go_at_call 12;refine(bc.o _ _ _ _ γ (dg.later γ) dh).mono ?_;rintro e wb⟨rfl,b8⟩;have cV:=ad (W0:=w9) γ b8;have dz:=cV.size;clear b8))
    all_goals go_wp2_with fail
    all_goals go_meet
    all_goals exact⟨rfl,rfl,by go_grown⟩
   case rest =>
   obtain⟨rfl,rfl,b9⟩:=hcut;obtain⟨wd,rfl⟩:∃wd:World,wd=wc:=⟨_,rfl⟩;have bE:=aa (ad X.o b9);have aT:=aa (ad J.o (ad F.o bE.o));have ct:=bP.o wd aT.o;clear o0 hq b9;go_wp2_with fail;refine ct.mono ?_;rintro e aK⟨⟨A9,U,cA,cD,ys,cB,cR,rfl,b1,b2,co⟩,an⟩;obtain⟨Y2,bi⟩:∃y,aK.alloc (.cells #[.slice A9 n1 U] 24)=y:=⟨_,rfl⟩;have aE:Bl aK Y2:=by rw[←bi];exact(zS).alloc zT _
   have cd:Y2.heap[aK.heap.size]?=some (.cells #[.slice A9 n1 U] 24 (0,0)):=by rw[←bi];exact heap_alloc_new ..
   have z0:Y2.cell? ⟨aK.heap.size,0,none⟩=some (.slice A9 n1 U):=(Lib.cell_of_heap cd 0).trans rfl;have aS:=aa (ad bE.o (ad an aE));have cv:=am.o A9 U cA cD Y2 (ad F.o aS.o) (b1.later aE);have cG:=aa (b2.later aE);have cM:=aa co;obtain⟨yl,aJ⟩:=ar ys.length;have cQ:=aa aJ;obtain⟨zA,-⟩:=R.o Y2 aS.o;rw[aJ];clear ct an b1 b2 co aE cd aJ;go_wp2_with fail;refine cv.mono ?_;rintro e dq⟨rfl,PX⟩;have ag:=aa (ad aS.o PX);have bw:=bQ.o cB cR ys dq (ad F.o ag.o) (cG.o.later PX) cM.o;rw[cQ.o]at bw;clear cv PX z0 zA bi;go_wp2_with fail;refine bw.mono ?_;rintro e dr⟨rfl,ap⟩;have ah:=aa (ad ag.o ap);obtain⟨c4,-,h0|⟨ba,oa,rfl,bk,av⟩⟩:=aN.o.later ah.o
   ·have:=Y.o;rw[h0]at this;simp at this;omega
   obtain⟨a0,a1⟩:=av 0 (by rw[Y.o];exact bu)
   have hg:=bJ.o;generalize (CA.getD 0 noC).1=ka at a0 hg;generalize (CA.getD 0 noC).2=kb at a1 hg;simp only[Nat.zero_mul,Nat.add_zero]at a0 a1;rw[Y.o]at c4;have c5:(na:Int)<=(ca:Int):=ω;have c9:(0:Int)<(na:Int):=ω;have cu:=FK ka kb dr hg;clear bw ap av hg;go_wp2_with fail;refine cu.mono ?_;rintro e dB⟨rfl,au⟩;have aO:=aa (ad ah.o au);clear cu au;go_wp2_with fail;go_ret;exact⟨by simp,ad J.o (ad F.o aO.o)⟩
end Go.Proofs.YtjfampgnhccodaaGreatDoor
